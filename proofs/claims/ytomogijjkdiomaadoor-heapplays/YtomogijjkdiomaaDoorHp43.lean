/-
  One round of the law: what is made ahead of the switch, and the loop's step.
-/
import Derived.Test.YtomogijjkdiomaaDoorHp42
import Derived.Test.YtomogijjkdiomaaDoorHp28
set_option maxRecDepth 100000
set_option maxHeartbeats 16000000
namespace Go.Proofs.YtomogijjkdiomaaDoor
open Go.RowKit

section
variable {w0 W W' : World} {H R D V : Nat} {M N M' : Mo} {d : Dv} {k : Nat}
set_option maxRecDepth 100000
set_option maxHeartbeats 4000000
theorem y_all (h0 : Case0) (Q : Exit → Act → World → Prop) (l v5 : Value) (f : Nat → Value) (s : Rd w0 W H R D V M M d) (ld : w0.heap.size ≤ D) (hM : M.Inv k) (hk : k < 900) (hn : d.name.size ≤ 20) (hP : ∀ c a a' w, Q (.panic c) a w → Q (.panic c) a' w)
    (hE : ∀ f' W' M' d', M'.Inv (k + 1) → Rd w0 W' H R D V M' M' d' → Q (.exit 1) (fr l (pH H) (pH R) v5 (pH D) (pH V) f') W')
    (hQ : ∀ f' W' M' d', M'.Inv (k + 1) → Rd w0 W' H R D V M' M' d' → Q .normal (fr l (pH H) (pH R) v5 (pH D) (pH V) f') W') : YWp Q (fr l (pH H) (pH R) v5 (pH D) (pH V) f) W := by
  refine wp_seq (x := cl (cr (cr (cr (cl (cl (cr (cl (cl (cr (cl (cr (cr (cr (cr (Tryd.f3.body.getD .skip)))))))))))))))) (y := cr (cr (cr (cr (cl (cl (cr (cl (cl (cr (cl (cr (cr (cr (cr (Tryd.f3.body.getD .skip)))))))))))))))) ?_
  refine switch_all h0 _ l v5 f s ld hM (by omega) hn hP hE fun f' W' M' d' hI hS => ?_
  exact tail_all Q l v5 f' hS hI (by omega) hP fun f'' W'' hS' => hQ f'' W'' M' d' hI hS'
theorem x_all (h0 : Case0) (Q : Exit → Act → World → Prop) (n cap off g j : Nat) (v6 v7 : Value) (f : Nat → Value) (hj : j < n)
    (c0 : W.cell? ⟨g, off + j * 7, none⟩ = some (.int .i64 d.what)) (c1 : W.cell? ⟨g, off + j * 7 + 1, none⟩ = some (.int .i64 d.a)) (c2 : W.cell? ⟨g, off + j * 7 + 2, none⟩ = some (.int .i64 d.b)) (c3 : W.cell? ⟨g, off + j * 7 + 3, none⟩ = some (.string d.name))
    (c4 : W.cell? ⟨g, off + j * 7 + 4, none⟩ = some (.int .i64 d.kind)) (c5 : W.cell? ⟨g, off + j * 7 + 5, none⟩ = some (.int .i64 d.v)) (c6 : W.cell? ⟨g, off + j * 7 + 6, none⟩ = some (.bool d.fixed))
    (hh : HeapH H W M) (hr : HeapR R W M) (hf : FrT (Th ++ Tr) w0.heap.size w0 W) (he : errType w0) (lh : w0.heap.size ≤ H) (lr : w0.heap.size ≤ R) (hM : M.Inv k) (hk : k < 900) (hP : ∀ c a a' w, Q (.panic c) a w → Q (.panic c) a' w)
    (hRet : ∀ f' v6' v7' W', f' 2 = .bool true → Below w0.heap.size w0 W' → Q .ret (fr (.slice (some ⟨g, off, none⟩) n cap) (pH H) (pH R) (.int .i64 (j : Int)) v6' v7' f') W')
    (hE : ∀ f' W' M' D V d', M'.Inv (k + 1) → Rd w0 W' H R D V M' M' d' → Q (.exit 1) (fr (.slice (some ⟨g, off, none⟩) n cap) (pH H) (pH R) (.int .i64 (j : Int)) (pH D) (pH V) f') W')
    (hQ : ∀ f' W' M' D V d', M'.Inv (k + 1) → Rd w0 W' H R D V M' M' d' → Q .normal (fr (.slice (some ⟨g, off, none⟩) n cap) (pH H) (pH R) (.int .i64 (j : Int)) (pH D) (pH V) f') W') : XWp Q (fr (.slice (some ⟨g, off, none⟩) n cap) (pH H) (pH R) (.int .i64 (j : Int)) v6 v7 f) W := by
  have HRet := hide hRet
  have HE := hide hE
  have HQ := hide hQ
  have HP := hide hP
  have HI := hide hM
  have HH := hide hh
  have HR := hide hr
  have HF := hide hf
  have HER := hide he
  have hOF := hide (of_num d.v (W.alloc (.cells #[.int .i64 d.what, .int .i64 d.a, .int .i64 d.b, .string d.name, .int .i64 d.kind, .int .i64 d.v, .bool d.fixed] 34)))
  have HBA := hide ((Below.refl W.heap.size W).alloc (Nat.le_refl _) (.cells #[.int .i64 d.what, .int .i64 d.a, .int .i64 d.b, .string d.name, .int .i64 d.kind, .int .i64 d.v, .bool d.fixed] 34))
  clear hRet hE hQ hP hM hh hr hf he
  unfold XWp
  simp only [cl, cr, Tryd.f3, Option.getD_some]
  unfold pH fr
  refine wp_seq_k fun K1 hK1 => ?_
  replace hK1 : ∀ a w, X2Wp Q a w → K1 a w := hK1
  go_wp2_with fail
  unfold X2Wp
  simp only [cl, cr, Tryd.f3, Option.getD_some]
  refine wp_seq_k fun K2 hK2 => ?_
  replace hK2 : ∀ a w, X3Wp Q a w → K2 a w := hK2
  rcases Nat.lt_or_ge 20 d.name.size with hlong | hshort
  · go_wp2_with fail
    exact fin Q .ret _ rfl rfl rfl rfl rfl rfl rfl (HRet.out _ _ _ _ rfl (HF.out.below.trans (HBA.out.mono HF.out.below.size)))
  · have hs2 : ¬ 20 < d.name.size := by omega
    have HSH := hide hshort
    clear hshort
    go_wp2_with fail
    unfold X3Wp
    simp only [cl, cr, Tryd.f3, Option.getD_some]
    refine wp_seq_k fun K3 hK3 => ?_
    replace hK3 : ∀ a w, YWp Q a w → K3 a w := hK3
    go_wp2_with fail
    refine Calls.mono hOF.out ?_
    rintro e w1 ⟨rfl, hb1⟩
    have HB1 := hide hb1
    clear hb1 c0 c1 c2 c3 c4 c5 c6
    go_wp2_with fail
    have hB2 : Below W.heap.size W (w1.alloc (.cells #[.int .i64 3, .int .i64 d.v, .string ⟨#[]⟩] 36)) := (HBA.out.trans (HB1.out.mono HBA.out.size)).alloc (by have := (HBA.out.trans (HB1.out.mono HBA.out.size)).size; exact this) _
    have hRd : Rd w0 (w1.alloc (.cells #[.int .i64 3, .int .i64 d.v, .string ⟨#[]⟩] 36)) H R W.heap.size w1.heap.size M M d := by
      refine ⟨HH.out.later hB2, HR.out.later hB2, ?_, heap_alloc_new w1 _, HF.out.trans (FrT.of hB2 HF.out.below.size), HER.out, lh, lr⟩
      have h1 : w1.heap[W.heap.size]? = some (.cells d.cells.toArray 34 (0, 0)) := (HB1.out.block _ (by simp)).trans (heap_alloc_new W _)
      have h2 : W.heap.size < w1.heap.size := lt_of_block h1
      exact (((Below.refl w1.heap.size w1).alloc (Nat.le_refl _) _).block _ h2).trans h1
    rw [fr_of _ rfl rfl rfl rfl rfl rfl rfl]
    exact y_all h0 Q _ _ _ hRd HF.out.below.size HI.out hk HSH.out HP.out (fun f' W' M' d' a b => HE.out f' W' M' _ _ d' a b) (fun f' W' M' d' a b => HQ.out f' W' M' _ _ d' a b)
theorem r7_all (Q : Exit → Act → World → Prop) (l p3 p4 v6 v7 : Value) (j : Nat) (hj : j < 1000) (f : Nat → Value) (hQ : ∀ f', Q .normal (fr l p3 p4 (.int .i64 ((j + 1 : Nat) : Int)) v6 v7 f') W) : R7Wp Q (fr l p3 p4 (.int .i64 (j : Int)) v6 v7 f) W := by
  have HQ := hide hQ
  clear hQ
  unfold R7Wp
  simp only [cl, cr, Tryd.f3, Option.getD_some]
  unfold fr
  go_wp2_with fail
  refine fin Q .normal _ rfl rfl rfl rfl ?_ rfl rfl (HQ.out _)
  exact congrArg some (by go_num)
end

section
variable {P : Program} {md : Region.Mode} {ops : Array Oper} {Q : Exit → Act → World → Prop} {S : World → Prop} {b : Nat}
/-- Whatever order is picked, and S holds behind each operation as long as number b has not come up. -/
def wpAnyU (P : Program) (md : Region.Mode) (ops : Array Oper) (Q : Exit → Act → World → Prop) (S : World → Prop) (b : Nat) : Nat → Array Bool → Act → World → Prop
  | 0, listed, a, w => Region.ready md ops listed = [] ∧ Q .normal a w
  | n + 1, listed, a, w => (Region.ready md ops listed = [] → Q .normal a w) ∧ ∀ i ∈ Region.ready md ops listed, wpOp P ops Q i (fun a' w' => ((listed.setIfInBounds i true).getD b false = false → S w') ∧ wpAnyU P md ops Q S b n (listed.setIfInBounds i true) a' w') a w
theorem wpAny_of_U : ∀ (n : Nat) (listed : Array Bool) (a : Act) (w : World), wpAnyU P md ops Q S b n listed a w → wpAny P md ops Q n listed a w
  | 0, _, _, _, h => h
  | n + 1, _, _, _, h => ⟨h.1, fun i hi => wpOp_mono (fun a' w' h' => wpAny_of_U n _ a' w' h'.2) (h.2 i hi)⟩
theorem U_first {i : Nat} {oi ob : Oper} {v : Value} (hi : ops[i]? = some oi) (hob : ops[b]? = some ob) (hsel : ∀ (j : Nat) (o : Oper) cs c, ops[j]? = some o → o.op ≠ .select cs c)
    (hQ : ∀ c a w, Q (.panic c) (a.put oi.dst v) w → Q (.panic c) a w) (hib : i ≠ b) (hw : ∃ e ∈ ob.after, Region.binds md e = true ∧ e.on = i) :
    ∀ (n : Nat) (listed : Array Bool) (a : Act) (w : World), listed.getD b false = false →
      (∀ j oj, ops[j]? = some oj → j ≠ i → listed.getD j true = false → (∀ e ∈ oj.after, Region.binds md e = true → e.on ≠ i) → oi.apart ops oj = true) →
      i ∈ Region.ready md ops listed → YieldsIf P ops S oi v a → S w →
      wpAnyU P md ops Q S b n (listed.setIfInBounds i true) (a.put oi.dst v) w → wpAnyU P md ops Q S b (n + 1) listed a w := by
  have waits : ∀ {listed : Array Bool} {j : Nat} {oj : Oper}, i ∈ Region.ready md ops listed → (∀ e ∈ oj.after, Region.binds md e = true → listed.getD e.on false = true) → ∀ e ∈ oj.after, Region.binds md e = true → e.on ≠ i := by
    intro listed j oj hr hall e he hb heq
    have h1 := hall e he hb
    have h0 := (mem_ready.1 hr).1
    rw [heq] at h1
    cases hx : listed[i]? with
    | none => simp [hx] at h1
    | some x => simp [hx] at h0 h1; rw [h0] at h1; cases h1
  intro n
  induction n with
  | zero =>
    intro listed a w hnb _ hr hy hS H
    refine ⟨fun h => (by rw [h] at hr; cases hr), fun j hj => ?_⟩
    by_cases hji : j = i
    · subst hji; exact hy.wpOp hi hS ⟨fun _ => hS, H⟩
    · have hm := ready_mono hj hji
      rw [H.1] at hm
      cases hm
  | succ n ih =>
    intro listed a w hnb hfree hr hy hS H
    refine ⟨fun h => (by rw [h] at hr; cases hr), fun j hj => ?_⟩
    by_cases hji : j = i
    · subst hji; exact hy.wpOp hi hS ⟨fun _ => hS, H⟩
    · obtain ⟨hjun, oj, hoj, hall⟩ := mem_ready.1 hj
      have hnot := waits (j := j) (oj := oj) hr hall
      have hjb : j ≠ b := fun e => by
        subst e
        rw [hob] at hoj
        cases hoj
        obtain ⟨e, he, hb, hei⟩ := hw
        exact hnot e he hb hei
      have h2 := wpOp_putIf hoj (hfree j oj hoj hji hjun hnot) (fun cs c => hsel i oi cs c hi) (fun cs c => hsel j oj cs c hoj) hQ hy (H.2 j (ready_mono hj hji))
      refine wpOp_mono (fun a' w' h3 => ?_) h2
      have hS' : S w' := h3.2.1 (by rw [getD_set_ne false hjb, getD_set_ne false hib]; exact hnb)
      refine ⟨fun _ => hS', ih (listed.setIfInBounds j true) a' w' (by rw [getD_set_ne false hjb]; exact hnb) (fun m om hm hmi hun hno => hfree m om hm hmi ?_ hno) (ready_mono hr (Ne.symm hji)) h3.1 hS' ?_⟩
      · by_cases hjm : j = m
        · subst hjm; exact hjun
        · rw [getD_set_ne true hjm] at hun; exact hun
      · rw [Array.setIfInBounds_comm _ _ hji]
        exact h3.2.2
theorem U_first0 {i : Nat} {oi : Oper} {v : Value} (hi : ops[i]? = some oi) (hsel : ∀ (j : Nat) (o : Oper) cs c, ops[j]? = some o → o.op ≠ .select cs c)
    (hQ : ∀ c a w, Q (.panic c) (a.put oi.dst v) w → Q (.panic c) a w) (hib : i ≠ b) :
    ∀ (n : Nat) (listed : Array Bool) (a : Act) (w : World),
      (∀ j oj, ops[j]? = some oj → j ≠ i → listed.getD j true = false → (∀ e ∈ oj.after, Region.binds md e = true → e.on ≠ i) → oi.apart ops oj = true) →
      i ∈ Region.ready md ops listed → YieldsIf P ops (fun _ => True) oi v a → (listed.getD b false = false → S w) →
      wpAnyU P md ops Q S b n (listed.setIfInBounds i true) (a.put oi.dst v) w → wpAnyU P md ops Q S b (n + 1) listed a w := by
  have waits : ∀ {listed : Array Bool} {oj : Oper}, i ∈ Region.ready md ops listed → (∀ e ∈ oj.after, Region.binds md e = true → listed.getD e.on false = true) → ∀ e ∈ oj.after, Region.binds md e = true → e.on ≠ i := by
    intro listed oj hr hall e he hb heq
    have h1 := hall e he hb
    have h0 := (mem_ready.1 hr).1
    rw [heq] at h1
    cases hx : listed[i]? with
    | none => simp [hx] at h1
    | some x => simp [hx] at h0 h1; rw [h0] at h1; cases h1
  intro n
  induction n with
  | zero =>
    intro listed a w _ hr hy hS H
    refine ⟨fun h => (by rw [h] at hr; cases hr), fun j hj => ?_⟩
    by_cases hji : j = i
    · subst hji; exact hy.wpOp hi trivial ⟨fun h => hS (by rw [getD_set_ne false hib] at h; exact h), H⟩
    · have hm := ready_mono hj hji
      rw [H.1] at hm
      cases hm
  | succ n ih =>
    intro listed a w hfree hr hy hS H
    refine ⟨fun h => (by rw [h] at hr; cases hr), fun j hj => ?_⟩
    by_cases hji : j = i
    · subst hji; exact hy.wpOp hi trivial ⟨fun h => hS (by rw [getD_set_ne false hib] at h; exact h), H⟩
    · obtain ⟨hjun, oj, hoj, hall⟩ := mem_ready.1 hj
      have hnot := waits (oj := oj) hr hall
      have h2 := wpOp_putIf hoj (hfree j oj hoj hji hjun hnot) (fun cs c => hsel i oi cs c hi) (fun cs c => hsel j oj cs c hoj) hQ hy (H.2 j (ready_mono hj hji))
      refine wpOp_mono (fun a' w' h3 => ?_) h2
      have hS' : (listed.setIfInBounds j true).getD b false = false → S w' := fun h => h3.2.1 (by rw [Array.setIfInBounds_comm _ _ (Ne.symm hji), getD_set_ne false hib]; exact h)
      refine ⟨hS', ih (listed.setIfInBounds j true) a' w' (fun m om hm hmi hun hno => hfree m om hm hmi ?_ hno) (ready_mono hr (Ne.symm hji)) h3.1 hS' ?_⟩
      · by_cases hjm : j = m
        · subst hjm; exact hjun
        · rw [getD_set_ne true hjm] at hun; exact hun
      · rw [Array.setIfInBounds_comm _ _ hji]
        exact h3.2.2
theorem uh {oi : Oper} {n : Nat} {listed : Array Bool} {a : Act} {w : World} (i : Nat) (v : Value) (hS : S w)
    (h : wpAnyU P md ops Q S b n (listed.setIfInBounds i true) (a.put oi.dst v) w) (hQ : ∀ c a w, Q (.panic c) (a.put oi.dst v) w → Q (.panic c) a w) (hi : ops[i]? = some oi := by rfl)
    (hs : Region.noSelect ops = true := by kernel_rfl) (hf : Region.free md ops listed i = true := by kernel_rfl) (hr : (Region.ready md ops listed).contains i = true := by kernel_rfl)
    (hib : i ≠ b := by decide) (hy : YieldsIf P ops (fun _ => True) oi v a := by exact Or.inl ⟨by kernel_rfl, fun _ _ => by go_simp⟩) : wpAnyU P md ops Q S b (n + 1) listed a w :=
  U_first0 hi (Region.noSelect_spec hs) hQ hib n listed a w (Region.free_spec hi hf) (by simpa using hr) hy (fun _ => hS) h
theorem uz {oi : Oper} {n : Nat} {listed : Array Bool} {a : Act} {w : World} (i : Nat) (v : Value)
    (h : wpAnyU P md ops Q S b n (listed.setIfInBounds i true) (a.put oi.dst v) w) (hQ : ∀ c a w, Q (.panic c) (a.put oi.dst v) w → Q (.panic c) a w) (hi : ops[i]? = some oi := by rfl)
    (hs : Region.noSelect ops = true := by kernel_rfl) (hf : Region.free md ops listed i = true := by kernel_rfl) (hr : (Region.ready md ops listed).contains i = true := by kernel_rfl)
    (hib : i ≠ b := by decide) (hl : listed.getD b false = true := by kernel_rfl) (hy : YieldsIf P ops (fun _ => True) oi v a := by exact Or.inl ⟨by kernel_rfl, fun _ _ => by go_simp⟩) : wpAnyU P md ops Q S b (n + 1) listed a w :=
  U_first0 hi (Region.noSelect_spec hs) hQ hib n listed a w (Region.free_spec hi hf) (by simpa using hr) hy (fun e => by rw [hl] at e; cases e) h
theorem ug {oi ob : Oper} {n : Nat} {listed : Array Bool} {a : Act} {w : World} (i : Nat) (v : Value) (hi : ops[i]? = some oi) (hy : YieldsIf P ops S oi v a) (hS : S w)
    (h : wpAnyU P md ops Q S b n (listed.setIfInBounds i true) (a.put oi.dst v) w) (hQ : ∀ c a w, Q (.panic c) (a.put oi.dst v) w → Q (.panic c) a w) (hob : ops[b]? = some ob := by rfl)
    (hs : Region.noSelect ops = true := by kernel_rfl) (hf : Region.free md ops listed i = true := by kernel_rfl) (hr : (Region.ready md ops listed).contains i = true := by kernel_rfl)
    (hib : i ≠ b := by decide) (hw : (ob.after.any fun e => Region.binds md e && e.on == i) = true := by kernel_rfl) (hnb : listed.getD b false = false := by kernel_rfl) : wpAnyU P md ops Q S b (n + 1) listed a w := by
  refine U_first hi hob (Region.noSelect_spec hs) hQ hib ?_ n listed a w hnb (Region.free_spec hi hf) (by simpa using hr) hy hS h
  obtain ⟨e, he, h2⟩ := Array.any_eq_true'.1 hw
  exact ⟨e, he, by simpa using h2⟩
theorem uop {o : Oper} {i : Nat} {a : Act} {w : World} {K : Act → World → Prop} (ho : ops[i]? = some o) (h : if Region.wanted o (yielded ops a.tmps) = true then Oper.wp P o a w K Q else K (a.put o.dst undef) w) : wpOp P ops Q i K a w := by
  unfold wpOp
  simp only [ho]
  split
  · rename_i hw; rw [if_pos hw] at h; exact .inl h
  · rename_i hw; rw [if_neg hw] at h; exact h
theorem uq1 {o : Oper} {n : Nat} {listed : Array Bool} {a : Act} {w : World} (i : Nat)
    (h : ∀ K' : Act → World → Prop, Shut (∀ a w, ((listed.setIfInBounds i true).getD b false = false → S w) → wpAnyU P md ops Q S b n (listed.setIfInBounds i true) a w → K' a w) → if Region.wanted o (yielded ops a.tmps) = true then Oper.wp P o a w K' Q else K' (a.put o.dst undef) w)
    (ho : ops[i]? = some o := by rfl) (hr : Region.ready md ops listed = [i] := by kernel_rfl) : wpAnyU P md ops Q S b (n + 1) listed a w := by
  refine ⟨fun h0 => (by rw [hr] at h0; cases h0), fun j hj => ?_⟩
  rw [hr] at hj
  obtain rfl := List.mem_singleton.1 hj
  exact uop ho (h _ fun a w h1 h2 => ⟨h1, h2⟩)
theorem uq2 {o o' : Oper} {n : Nat} {listed : Array Bool} {a : Act} {w : World} (i j : Nat)
    (h : ∀ K' : Act → World → Prop, Shut (∀ a w, ((listed.setIfInBounds i true).getD b false = false → S w) → wpAnyU P md ops Q S b n (listed.setIfInBounds i true) a w → K' a w) → if Region.wanted o (yielded ops a.tmps) = true then Oper.wp P o a w K' Q else K' (a.put o.dst undef) w)
    (h' : ∀ K' : Act → World → Prop, Shut (∀ a w, ((listed.setIfInBounds j true).getD b false = false → S w) → wpAnyU P md ops Q S b n (listed.setIfInBounds j true) a w → K' a w) → if Region.wanted o' (yielded ops a.tmps) = true then Oper.wp P o' a w K' Q else K' (a.put o'.dst undef) w)
    (ho : ops[i]? = some o := by rfl) (ho' : ops[j]? = some o' := by rfl) (hr : Region.ready md ops listed = [i, j] := by kernel_rfl) : wpAnyU P md ops Q S b (n + 1) listed a w := by
  refine ⟨fun h0 => (by rw [hr] at h0; cases h0), fun m hm => ?_⟩
  rw [hr] at hm
  rcases List.mem_cons.1 hm with rfl | hm
  · exact uop ho (h _ fun a w h1 h2 => ⟨h1, h2⟩)
  · obtain rfl := List.mem_singleton.1 hm
    exact uop ho' (h' _ fun a w h1 h2 => ⟨h1, h2⟩)
theorem udone {listed : Array Bool} {a : Act} {w : World} (hr : Region.ready md ops listed = []) (h : Q .normal a w) : ∀ n, wpAnyU P md ops Q S b n listed a w
  | 0 => ⟨hr, h⟩
  | _ + 1 => ⟨fun _ => h, by rw [hr]; simp⟩
theorem wp_region_U {id : Nat} {a : Act} {w : World} (b : Nat) (S : World → Prop) (hm : P.follows .mixedOrders = true) (h : wpAnyU P .any ops Q S b ops.size (Array.replicate ops.size false) a w.drew) : (Code.region id ops true).wp P Q a w :=
  wp_region_any hm (wpAny_of_U _ _ _ _ h)
end
end Go.Proofs.YtomogijjkdiomaaDoor
