/-
  A region whose last operation breaks what holds, and which waits for the others through others.
-/
import Derived.Test.YtoimgcjbcbhclaaGreatDoorAo26
import Derived.Test.YtoimgcjbcbhclaaGreatDoorAo23
set_option maxRecDepth 100000
set_option maxHeartbeats 16000000
namespace Go.Proofs.YtoimgcjbcbhclaaGreatDoor
open Go.RowKit
section
variable {P : Program} {md : Region.Mode} {ops : Array Oper} {Q : Exit → Act → World → Prop} {S : World → Prop} {b : Nat}
def depB (md : Region.Mode) (ops : Array Oper) : Nat → Nat → Nat → Bool
 | 0, _, _ => false
 | n + 1, b, i => match ops[b]? with
  | none => false
  | some ob => ob.after.any fun e => Region.binds md e && (e.on == i || depB md ops n e.on i)
def Closed (md : Region.Mode) (ops : Array Oper) (listed : Array Bool) : Prop := ∀ (j : Nat) (oj : Oper), ops[j]? = some oj → listed.getD j false = true → ∀ e ∈ oj.after, Region.binds md e = true → listed.getD e.on false = true
theorem closed_dep {listed : Array Bool} {i : Nat} (hc : Closed md ops listed) : ∀ (n j : Nat) (oj : Oper), ops[j]? = some oj → (∀ e ∈ oj.after, Region.binds md e = true → listed.getD e.on false = true) → depB md ops n j i = true → listed.getD i false = true
 | 0, _, _, _, _, h => by cases h
 | n + 1, j, oj, ho, hall, h => by
  rw [depB, ho] at h; obtain ⟨e, he, h2⟩ := Array.any_eq_true'.1 h; rw [Bool.and_eq_true, Bool.or_eq_true] at h2; have h3 := hall e he h2.1
  rcases h2.2 with h4 | h4
  ·
   rw [← eq_of_beq h4]; exact h3
  ·
   cases hoe : ops[e.on]? with
   | none =>
    cases n with
    | zero => cases h4
    | succ n => rw [depB, hoe] at h4; cases h4
   | some oe => exact closed_dep hc n e.on oe hoe (hc e.on oe hoe h3) h4
theorem getD_set_mono {listed : Array Bool} {j k : Nat} (h : listed.getD k false = true) : (listed.setIfInBounds j true).getD k false = true := by
 by_cases hjk : j = k
 ·
  subst hjk; have hl : j < listed.size := by
   rcases Nat.lt_or_ge j listed.size with hl | hl
   ·
    exact hl
   ·
    rw [Array.getD_eq_getD_getElem?, Array.getElem?_eq_none hl] at h; cases h
  simp [hl]
 ·
  rw [getD_set_ne false hjk]; exact h
theorem closed_set {listed : Array Bool} {j : Nat} {oj : Oper} (hc : Closed md ops listed) (ho : ops[j]? = some oj) (hall : ∀ e ∈ oj.after, Region.binds md e = true → listed.getD e.on false = true) : Closed md ops (listed.setIfInBounds j true) := by
 intro m om hm hl e he hb
 refine getD_set_mono ?_
 by_cases hjm : j = m
 ·
  subst hjm; rw [ho] at hm; cases hm; exact hall e he hb
 ·
  rw [getD_set_ne false hjm] at hl; exact hc m om hm hl e he hb
def closedB (md : Region.Mode) (ops : Array Oper) (listed : Array Bool) : Bool := (List.range ops.size).all fun j => !(listed.getD j false) || (match ops[j]? with | some o => o.after.all fun e => !(Region.binds md e) || listed.getD e.on false | none => true)
theorem closed_of {listed : Array Bool} (h : closedB md ops listed = true) : Closed md ops listed := by
 intro j oj ho hl e he hb
 have hj : j < ops.size := (Array.getElem?_eq_some_iff.1 ho).1
 have h1 := List.all_eq_true.1 h j (List.mem_range.2 hj)
 rw [hl, ho] at h1
 simp only [Bool.not_true, Bool.false_or] at h1
 have h2 := Array.all_eq_true'.1 h1 e he
 rw [hb] at h2
 simpa using h2
theorem U_firstC {i k : Nat} {oi : Oper} {v : Value} (hi : ops[i]? = some oi) (hsel : ∀ (j : Nat) (o : Oper) cs c, ops[j]? = some o → o.op ≠ .select cs c)
  (hQ : ∀ c a w, Q (.panic c) (a.put oi.dst v) w → Q (.panic c) a w) (hib : i ≠ b) (hw : depB md ops k b i = true) :
  ∀ (n : Nat) (listed : Array Bool) (a : Act) (w : World), listed.getD b false = false → Closed md ops listed →
   (∀ j oj, ops[j]? = some oj → j ≠ i → listed.getD j true = false → (∀ e ∈ oj.after, Region.binds md e = true → e.on ≠ i) → oi.apart ops oj = true) →
   i ∈ Region.ready md ops listed → YieldsIf P ops S oi v a → S w →
   wpAnyU P md ops Q S b n (listed.setIfInBounds i true) (a.put oi.dst v) w → wpAnyU P md ops Q S b (n + 1) listed a w := by
 have waits : ∀ {listed : Array Bool} {j : Nat} {oj : Oper}, i ∈ Region.ready md ops listed → (∀ e ∈ oj.after, Region.binds md e = true → listed.getD e.on false = true) → ∀ e ∈ oj.after, Region.binds md e = true → e.on ≠ i := by
  intro listed j oj hr hall e he hb heq; exact zbdf
 intro n
 induction n with
 | zero =>
  intro listed a w hnb _ _ hr hy hS H; exact zbel
 | succ n ih =>
  intro listed a w hnb hcl hfree hr hy hS H; refine ⟨fun h => (by rw [h] at hr; cases hr), fun j hj => ?_⟩
  by_cases hji : j = i
  ·
   subst hji; exact hy.wpOp hi hS ⟨fun _ => hS, H⟩
  ·
   obtain ⟨hjun, oj, hoj, hall⟩ := mem_ready.1 hj; have hnot := waits (j := j) (oj := oj) hr hall; have hjb : j ≠ b := fun e => by
    subst e; have h9 := closed_dep hcl k j oj hoj hall hw; have h0 := (mem_ready.1 hr).1
    cases hx : listed[i]? with
    | none => simp [hx] at h9
    | some x => simp [hx] at h0 h9; rw [h0] at h9; cases h9
   have h2 := wpOp_putIf hoj (hfree j oj hoj hji hjun hnot) (fun cs c => hsel i oi cs c hi) (fun cs c => hsel j oj cs c hoj) hQ hy (H.2 j (ready_mono hj hji)); refine wpOp_mono (fun a' w' h3 => ?_) h2
   have hS' : S w' := h3.2.1 (by rw [getD_set_ne false hjb, getD_set_ne false hib]; exact hnb)
   refine ⟨fun _ => hS', ih (listed.setIfInBounds j true) a' w' (by rw [getD_set_ne false hjb]; exact hnb) (closed_set hcl hoj hall) (fun m om hm hmi hun hno => hfree m om hm hmi ?_ hno) (ready_mono hr (Ne.symm hji)) h3.1 hS' ?_⟩
   ·
    exact zbet
   ·
    rw [Array.setIfInBounds_comm _ _ hji]; exact h3.2.2
theorem uc {oi : Oper} {n : Nat} {listed : Array Bool} {a : Act} {w : World} (i : Nat) (v : Value) (hi : ops[i]? = some oi) (hy : YieldsIf P ops S oi v a) (hS : S w)
  (h : wpAnyU P md ops Q S b n (listed.setIfInBounds i true) (a.put oi.dst v) w) (hQ : ∀ c a w, Q (.panic c) (a.put oi.dst v) w → Q (.panic c) a w := by exact fun _ _ _ h => h)
  (hs : Region.noSelect ops = true := by kernel_rfl) (hf : Region.free md ops listed i = true := by kernel_rfl) (hr : (Region.ready md ops listed).contains i = true := by kernel_rfl)
  (hib : i ≠ b := by decide) (hw : depB md ops ops.size b i = true := by kernel_rfl) (hcl : closedB md ops listed = true := by kernel_rfl) (hnb : listed.getD b false = false := by kernel_rfl) : wpAnyU P md ops Q S b (n + 1) listed a w :=
 U_firstC hi (Region.noSelect_spec hs) hQ hib hw n listed a w hnb (closed_of hcl) (Region.free_spec hi hf) (by simpa using hr) hy hS h
end
theorem NAt.c2 {I : Nat → Prop} {w : World} {t : Tr} {p : Nat} (h : NAt I w t p) : w.cell? ⟨p, 2, none⟩ = some (.int .i64 t.n) := by
 obtain ⟨u, ps, hb, _⟩ := NAt.opens2 h
 exact (node_cells hb).2.2.1
theorem open_new (w : World) (kd n : Int) (tx : ByteArray) : Open w.heap.size (w.alloc (nodeObj kd tx n (.slice none 0 0))) (.mk kd tx n []) w.heap.size (.slice none 0 0) [] :=
 ⟨Nat.le_refl _, heap_new _ _, ⟨rfl, Or.inl ⟨rfl, rfl⟩⟩, by simp [Value.ownBlock], NAts.nil⟩
theorem Open.drew {B : Nat} {w : World} {t : Tr} {p : Nat} {u : Value} {ps : List Nat} (h : Open B w t p u ps) : Open B w.drew t p u ps :=
 ⟨h.low, h.blk, owns_stay (w := w) (w' := w.drew) (I := fun _ => True) (fun _ _ _ => rfl) (fun _ _ => trivial) h.row, h.own, NAts.later (w := w) (w' := w.drew) (fun _ _ _ => rfl) _ _ h.kids⟩
theorem copy_any : ∀ (m : Nat) (t : Tr), t.count ≤ m → t.count ≤ 20000 → ∀ (p : Nat) (w : World), NTr w t p →
  Calls Tryz.prog 35 #[nPtr p] w fun e w' => (∃ q, e = .returned (nPtr q) ∧ NAt (fun b => w.heap.size ≤ b) w' t q) ∧ Below w.heap.size w w' := by
 intro m
 induction m with
 | zero => intro t ht; have := count_pos t; omega
 | succ m ih =>
  intro t ht hc p w hN; obtain ⟨i0, hi0, hz0, hz1, hz2⟩ := info_parts info22; obtain ⟨hpl, c0, c1, u, c3, hr⟩ := hN.cells; have c2 := NAt.c2 hN; obtain ⟨ua, uc, rfl⟩ := hr.form; have HR := hide hr
  have htc : t.count = 1 + Tr.counts t.kids := by cases t with | mk kd tx n ks => exact count_mk _ _ _ _
  have HIH : Hid (∀ k (hk : k < t.kids.length), t.kids[k].count ≤ m ∧ t.kids[k].count ≤ 20000) := fun k hk => by
   have := counts_le t.kids k hk; omega
  have hkl : t.kids.length ≤ 20000 := by have := counts_len t.kids; omega
  have HI := hide ih; have HT : Hid (t = .mk t.kd t.tx t.n t.kids) := by show _ = _; cases t; rfl
  clear hr ih hN htc ht hc
  generalize t.kd = kd at c0 HT
  generalize t.tx = tx at c1 HT
  generalize t.n = n at c2 HT
  generalize t.kids = ks at *
  have HW := hide (open_new w kd n tx); go_enter Tryz.func35, Tryz.ntmps35; go_wp2_with fail
  go_region
  go_wp2_with fail
  go_loopw [27] (fun i wr => ∃ (k : Nat) (uu : Value) (qs : List Nat), k ≤ ks.length ∧ i = .int .i64 k ∧ Open w.heap.size wr (.mk kd tx n (ks.take k)) w.heap.size uu qs ∧ Below w.heap.size w wr) (fun i _ => ks.length - (intOf i).toNat)
  case atStart =>
   refine ⟨0, .slice none 0 0, [], Nat.zero_le _, rfl, ?_, ?_⟩
   ·
    first
    | exact HW.out.drew
    | exact HW.out
   ·
    first
    | exact ((Below.refl _ _).alloc (Nat.le_refl _) _).drew
    | exact ((Below.refl _ _).alloc (Nat.le_refl _) _)
    | exact ((Below.refl _ _).drew.alloc (Nat.le_refl _) _)
  case round =>
   obtain ⟨k, uu, qs, hk, rfl, ho, hb⟩ := hrel; have HO := hide ho; have HB := hide hb; have hsz := hb.size; obtain ⟨oa, oc, rfl⟩ : ∃ a c, uu = .slice a k c := by
    obtain ⟨a, c, e⟩ := ho.shape; refine ⟨a, c, e.trans ?_⟩; have : (Tr.mk kd tx n (ks.take k)).kids.length = k := by show (ks.take k).length = k; rw [List.length_take]; omega
    rw [this]
   have HOC := hide ho.cell; clear ho hb
   by_cases hlt : k < ks.length
   ·
    obtain ⟨g, cap, q, hv, hg, hc0, hn0⟩ := HR.out.cell k hlt; simp only [Value.slice.injEq] at hv; obtain ⟨rfl, _, rfl⟩ := hv
    have hc : wr.cell? ⟨g, k, none⟩ = some (nPtr q) := by rw [HB.out.cell (p := ⟨g, k, none⟩) hg]; exact hc0
    have hki : (k : Int) < (ks.length : Int) := by omega
    have hgr : g < wr.heap.size := by omega
    have HN := hide (fun W (hW : Below wr.heap.size wr W) => unhide HI ks[k] (unhide HIH k hlt).1 (unhide HIH k hlt).2 q W ((hn0.later HB.out).later hW)); have HTK := hide (List.take_succ_eq_append_getElem hlt)
    clear hn0 hc0 c0 c1 c2 c3; go_wp2_with fail; have hS0 : Below wr.heap.size wr wr.drew := (Below.refl _ _).drew; have HOD := hide HO.out.drew; refine wp_region_U 8 (fun X => Below wr.heap.size wr X) (by kernel_rfl) ?_
    obtain ⟨wd, hwd⟩ : ∃ wd, wd = wr.drew := ⟨_, rfl⟩; have hsd : wd.heap.size = wr.heap.size := by rw [hwd]; rfl
    rw [← hwd] at hS0 HOD ⊢; have HSD := hide hsd; clear hwd hsd; refine uh 0 (nPtr w.heap.size) hS0 ?_; refine uh 1 (nPtr w.heap.size) hS0 ?_; refine uh 2 (nPtr w.heap.size) hS0 ?_
    refine uh 3 (.pointer (some ⟨w.heap.size, 3, none⟩)) hS0 ?_; refine ug 4 (.slice oa k oc) rfl (Or.inl ⟨by kernel_rfl, fun X hX => by have h0 := keepC hX HOC.out.1; go_simp⟩) hS0 ?_
    refine uh 5 (nPtr q) hS0 ?_; refine uq1 6 fun K hK => ?_; go_simp; refine cm (unhide HN wd hS0) ?_; rintro e wc ⟨⟨pc, rfl, hnc⟩, hbc⟩; have hsc := hbc.size
    have HBC : Hid (Below wr.heap.size wr wc) := hS0.trans (hbc.mono (Nat.le_of_eq HSD.out.symm)); have hAp : Ap p wd.heap.size wd wc := Ap.of hbc; have HOc := hide (HOD.out.stay hAp hpl)
    have HNc := hide (HOD.out.apart2 (by have := unhide HSD; omega) (Nat.le_refl _) (NAts.cons hnc NAts.nil) (HOD.out.kb hAp hpl))
    have HOW := hide HOc.out.row; have HGC := hide HOc.out.cell; have hszc : w.heap.size ≤ wc.heap.size := by have := unhide HSD; omega
    have hql : qs.length = k := by
     have h1 := HOc.out.row.1; have h2 := NAts.length _ _ HOc.out.kids; rw [h2]
     show (ks.take k).length = k
     rw [List.length_take]; omega
    refine hK.out _ _ (fun _ => HBC.out) ?_; clear hK K hS0 hbc hnc hAp HN HOD; refine uq1 7 fun K hK => ?_; go_simp; refine hK.out _ _ (fun _ => HBC.out.alloc (by have := HBC.out.size; omega) _) ?_
    clear hK K; have HQL := hide hql; clear hql; refine uq1 8 fun K hK => ?_; have hown : wc.ownsRow w.heap.size 22 1 (.slice oa k oc) k (qs.map nPtr) := by
     have h := unhide HOW; rw [HQL.out] at h; exact h
    refine step_append_lies _ rfl _ _ 46 rfl w.heap.size 22 i0 (.pointer none) 1 8 Tryz.underlying46 hi0 hz0 hz1 hz2 rfl (by decide) _ _ _ rfl (hown.alloc _) ⟨wc.heap.size, 0, none⟩ 1 1 [nPtr pc] rfl rfl (one_cells wc pc _ rfl) (one_one pc) (by decide) (by simp [maxLen]; omega) (by omega) (by simp; omega) (wc.heap.size + 1) (by simp) ?_
    intro g3 cap3 w3 hown3 hgr3 hg3 _; have HEV := hide (Open.push2 HOc.out HNc.out (by show k + 1 = (ks.take k).length + 1; rw [List.length_take]; omega) hown3 hgr3 hg3)
    have HBW : ∀ v, Hid (Below w.heap.size wc (w3.setCell ⟨w.heap.size, 3, none⟩ v)) := fun v => HOc.out.grows ((Below.refl _ wc).alloc hszc _) (by simp; omega) hgr3
    have hbb : w3.heap[w.heap.size]? = wc.heap[w.heap.size]? := (hgr3.block w.heap.size (by simp; omega) (fun e => HOc.out.own e.symm)).trans (Below.heap_alloc wc _ w.heap.size HGC.out.2.2)
    have hp3c : w3.cell? ⟨w.heap.size, 3, none⟩ = some (.slice oa k oc) := (World.cell?_of_block (w := wc) hbb).trans HGC.out.1
    have hp3f : w3.frozen? ⟨w.heap.size, 3, none⟩ = false := (World.frozen?_of_block (w := wc) hbb).trans (HGC.out.2.1 3); have HNB : Hid (w3.heap[w.heap.size]? = wc.heap[w.heap.size]?) := hbb
    refine hK.out _ _ (fun h => by cases h) ?_; clear hK K hown3 hgr3 hg3 hbb hown; refine uz 9 (nPtr w.heap.size) ?_; refine uz 10 (.pointer (some ⟨w.heap.size, 3, none⟩)) ?_; refine uq1 11 fun K hK => ?_; go_simp
    refine hK.out _ _ (fun h => by cases h) ?_; clear hK K hp3c hp3f; refine udone (by kernel_rfl) ?_ _; go_simp; go_wp2_with fail
    go_roundw
    case rel =>
     obtain ⟨p1, u1, qs1, he1, ho1⟩ := HEV.out.opens; obtain rfl : w.heap.size = p1 := by simpa [nPtr] using he1
     refine ⟨k + 1, u1, qs1, by omega, by go_num, ?_, HB.out.trans ((HBC.out.mono hsz).trans (unhide (HBW _)))⟩; rw [HTK.out]; exact ho1
    case measure => simp [intOf]; omega
   ·
    have hkk : k = ks.length := by omega
    subst hkk; go_wp2_with fail; go_ret; obtain ⟨q, e1, e2⟩ := HO.out.ev.nv; rw [List.take_length] at e2; rw [HT.out]; exact ⟨⟨q, by rw [← e1]; rfl, e2⟩, HB.out⟩
theorem copy_nil (w : World) : Calls Tryz.prog 35 #[.pointer none] w fun e w' => e = .returned (.pointer none) ∧ w' = w := by
 go_enter Tryz.func35, Tryz.ntmps35
 go_wp2
 go_ret
 exact ⟨rfl, rfl⟩
theorem rpairs_nil {c : PC} {F : Fns} (hF : RCt c F) (w : World) (d i g o : Nat) (r : PR Tr) (hd : d ≤ 30) (hs : r = rpairs c.l F d [] i) (ho : r ≠ .out) (h : Ps c w i 0 (-1)) :
  Calls Tryz.prog 254 #[pPtr c, .int .i64 (d : Int), .slice (some ⟨g, o, none⟩) 0 0] w (QPost c w (NV w.heap.size) ZN r) := by
 have HC := hide (hF.sg w d i r hd hs ho h)
 have HO := hide ho
 clear h hs ho hF
 go_enter Tryz.func254, Tryz.ntmps254
 exact zbcl
def PairC (c : PC) (F : Fns) (d g o : Nat) (ls : List ByteArray) : Prop := ∀ w i r, r = rpairs c.l F d ls i → r ≠ .out → Ps c w i 0 (-1) → w.heap[g]? = some (.cells lvCells 9 (0, 0)) → Calls Tryz.prog 254 #[pPtr c, .int .i64 (d : Int), .slice (some ⟨g, o, none⟩) ls.length ls.length] w (QPost c w (NV w.heap.size) ZN r)
theorem nv_at {B : Nat} {w : World} {t : Tr} {q : Nat} (h : NV B w t (nPtr q)) : NAt (fun b => B ≤ b) w t q := by
 exact zbgf
theorem ops_made2 (W : World) (N : Nat) (hN : N = W.heap.size) : ∃ m1 m2 m3 m4 m5 m6 m7 : Array MapEntry,
  (Instr.makeMap 89 none).run Tryz.prog W.drew.drew = .ok (.map (some N)) (W.alloc (.map #[] 0)).drew.drew
  ∧ (Instr.mapUpdate 89 (.map (some N)) (.string tOr) (.int .i64 25)).run Tryz.prog (W.alloc (.map #[] 0)).drew.drew = .ok () (W.alloc (.map m1 1)).drew.drew
  ∧ (Instr.mapUpdate 89 (.map (some N)) (.string tAnd) (.int .i64 26)).run Tryz.prog (W.alloc (.map m1 1)).drew.drew = .ok () (W.alloc (.map m2 2)).drew.drew
  ∧ (Instr.mapUpdate 89 (.map (some N)) (.string tSame) (.int .i64 27)).run Tryz.prog (W.alloc (.map m2 2)).drew.drew = .ok () (W.alloc (.map m3 3)).drew.drew
  ∧ (Instr.mapUpdate 89 (.map (some N)) (.string tLess) (.int .i64 28)).run Tryz.prog (W.alloc (.map m3 3)).drew.drew = .ok () (W.alloc (.map m4 4)).drew.drew
  ∧ (Instr.mapUpdate 89 (.map (some N)) (.string tAdd) (.int .i64 29)).run Tryz.prog (W.alloc (.map m4 4)).drew.drew = .ok () (W.alloc (.map m5 5)).drew.drew
  ∧ (Instr.mapUpdate 89 (.map (some N)) (.string tSub) (.int .i64 30)).run Tryz.prog (W.alloc (.map m5 5)).drew.drew = .ok () (W.alloc (.map m6 6)).drew.drew
  ∧ (Instr.mapUpdate 89 (.map (some N)) (.string tMul) (.int .i64 31)).run Tryz.prog (W.alloc (.map m6 6)).drew.drew = .ok () (W.alloc (.map m7 7)).drew.drew
  ∧ ∀ s, (Instr.lookup 89 (.map (some N)) (.string s) false).run Tryz.prog (W.alloc (.map m7 7)).drew.drew = .ok (.int .i64 (opK s)) (W.alloc (.map m7 7)).drew.drew := by
 subst hN
 exact ops_made W.drew.drew
theorem fits_ways (s x : ByteArray) :
  (fitsB s x = true ∧ (x.toList == s.toList) = true) ∨ (fitsB s x = true ∧ (x.toList == s.toList) = false ∧ (s.toList == [43, 45]) = true ∧ (x.toList == [43]) = true)
  ∨ (fitsB s x = true ∧ (x.toList == s.toList) = false ∧ (s.toList == [43, 45]) = true ∧ (x.toList == [43]) = false ∧ (x.toList == [45]) = true)
  ∨ (fitsB s x = false ∧ (x.toList == s.toList) = false ∧ (s.toList == [43, 45]) = false)
  ∨ (fitsB s x = false ∧ (x.toList == s.toList) = false ∧ (s.toList == [43, 45]) = true ∧ (x.toList == [43]) = false ∧ (x.toList == [45]) = false) := by
 unfold fitsB
 by_cases h1 : x = s
 ·
  exact Or.inl ⟨by simp [h1], tl_eq h1⟩
 ·
  by_cases h2 : s = tPM
  ·
   by_cases h3 : x = tAdd
   ·
    exact Or.inr (Or.inl ⟨by simp [h2, h3], tl_ne h1, tl_eqL (b := tPM) rfl h2, tl_eqL (b := tAdd) rfl h3⟩)
   ·
    by_cases h4 : x = tSub
    ·
     exact Or.inr (Or.inr (Or.inl ⟨by simp [h2, h4], tl_ne h1, tl_eqL (b := tPM) rfl h2, tl_neL (b := tAdd) rfl h3, tl_eqL (b := tSub) rfl h4⟩))
    ·
     exact Or.inr (Or.inr (Or.inr (Or.inr ⟨by simp [h1, h3, h4], tl_ne h1, tl_eqL (b := tPM) rfl h2, tl_neL (b := tAdd) rfl h3, tl_neL (b := tSub) rfl h4⟩)))
  ·
   exact Or.inr (Or.inr (Or.inr (Or.inl ⟨by simp [h1, h2], tl_ne h1, tl_neL (b := tPM) rfl h2⟩)))
section
variable {c : PC} {F : Fns} {d g o : Nat} {s : ByteArray} {rest : List ByteArray} (hg : g ≠ c.P) (hso : lvCells[o]? = some (.string s))
include c F d g o s rest hg hso
theorem rpairs_more (hz : rest ≠ []) (hC : PairC c F d g (o + 1) rest) : PairC c F d g o (s :: rest) := by
 intro w i r hs ho h hk
 unfold rpairs at hs
 have HLT := hide h.rlt
 have HSO := hide hso
 have HO := hide ho
 have HS := hide hs
 have HK := hide hk
 have HGN := hide hg
 have HC := hide (fun r hr ho => hC w i r hr ho h hk)
 have HPC := hide hC
 clear hs ho hso
 unfold PairC at HPC
 simp only [List.length_cons]
 obtain ⟨n, hn⟩ : ∃ n, rest.length = n := ⟨_, rfl⟩
 rw [hn] at HC HPC
 rw [hn]
 have hn0 : ¬ n = 0 := by rw [← hn]; intro h0; exact hz (List.length_eq_zero_iff.1 h0)
 have b0 : (((n : Nat) : Int) + 1 == 0) = false := beq_eq_false_iff_ne.2 (by omega)
 clear hz hn
 clear h hk hC hg
 cases hr : rpairs c.l F d rest i with
 | out => rw [hr] at HS; exact absurd HS.out HO.out
 | bad er pl =>
  exact zbch
 | ok t0 j0 =>
  have HC' := hide (HC.out _ hr.symm (by nofun)); rw [hr] at HS; have HS2 : Hid (rpairLoop c.l (rpairs c.l F d rest) s F.fuel t0 j0 = r) := HS.out.symm; clear HC hr HS; go_enter Tryz.func254, Tryz.ntmps254
  go_wp2_with fail; refine cm HC'.out ?_; rintro e w1 ⟨⟨v, rfl, q, rfl, hn1⟩, hp1, ha1⟩; have HP1 := hide hp1; have HA1 := hide ha1; have HN1 : Hid (NV w.heap.size w1 t0 (nPtr q)) := ⟨q, rfl, hn1⟩; clear hp1 ha1 hn1 HC'
  go_wp2_with fail
  go_loopg [7] F.fuel (fun k v wr => (∃ t j, rpairLoop c.l (rpairs c.l F d rest) s k t j = r ∧ NV w.heap.size wr t v ∧ Ps c wr j 0 (-1) ∧ Ap c.P w.heap.size w wr)
   ∨ (∃ er pl, r = .bad er pl ∧ er ≠ 0 ∧ (∃ j, Ps c wr j er (pl : Int)) ∧ Ap c.P w.heap.size w wr ∧ ZN v))
  case atStart => exact Or.inl ⟨t0, j0, HS2.out, HN1.out, HP1.out, HA1.out⟩
  case round =>
   clear HS2 HP1 HA1 HN1
   rcases hrel with ⟨t, j, hq, hnv, hps, hap⟩ | ⟨er, pl, hq, he, ⟨j, hps⟩, hap, q, rfl⟩
   ·
    obtain ⟨k, rfl⟩ : ∃ k, gk = k + 1 := by
     exact zbdj
    obtain ⟨q, rfl, hn⟩ := hnv; have HN := hide hn; have HPS := hide hps; have HAP := hide hap; have h0 := hps.c0; have h1 := hps.c1; have f1 := hps.fz 1; obtain ⟨k0, k1, k2, k3⟩ := hps.toks
    have hlt : (j : Int) < (c.l.length : Int) := by have := hps.lt; omega
    have hl3 := hps.base.len; have hR := hps.rlt; have hT := hps.base.tlt; have hR1 : c.P < wr.heap.size + 1 := by omega
    have hT1 : c.tb < wr.heap.size + 1 := by omega
    have hgb := (hap.block g (lt_of_heap HK.out) HGN.out).trans HK.out; have HGB := hide hgb; have hgl := lt_of_heap hgb; have hg1 : g < wr.heap.size + 1 := by omega
    have kg : wr.cell? ⟨g, o, none⟩ = some (.string s) := by rw [cell_of hgb]; exact unhide HSO
    have HC1 := hide (rok_new hps); have hnx : (tkA c.l j).kd = 5 → j + 1 < c.l.length := fun hk => next_lt hps.base.ends hps.lt (by rw [hk]; decide)
    have HNX := hide hnx; unfold rpairLoop at hq; have HQ := hide hq; clear hq hn hps hap hgb hnx
    by_cases h5 : (tkA c.l j).kd = 5
    ·
     rcases fits_ways s (tkA c.l j).tx with ⟨hf, b1⟩ | ⟨hf, b1, b2, b3⟩ | ⟨hf, b1, b2, b3, b4⟩ | ⟨hf, b1, b2⟩ | ⟨hf, b1, b2, b3, b4⟩
     ·
      exact zbab
     ·
      exact zbab
     ·
      exact zbab
     all_goals
      have b5 : ((tkA c.l j).kd != 5) = false := by rw [h5]; rfl
      rw [if_neg (fun h => by rw [hf] at h; exact absurd h.2 (by decide))] at HQ
      have hq : r = .ok t j := HQ.out.symm; subst hq; clear HQ hf h5 HPC HNX HO HK HSO
      generalize tkA c.l j = tk at *
      go_wp2_with fail; refine cm HC1.out ?_; rintro e w2 ⟨rfl, rfl⟩; clear HC1; go_wp2_with fail
      go_region
      go_wp2_with fail
      go_region
      go_wp2_with fail; go_ret
      exact ⟨⟨_, rfl, q, rfl, nv_at (NV.later ⟨q, rfl, HN.out⟩ (((Ap.refl c.P w2.heap.size w2).alloc (Nat.le_refl _) _).drew.drew) HLT.out)⟩, (HPS.out.alloc _).drew.drew, (HAP.out.alloc HAP.out.size _).drew.drew⟩
    ·
     exact zbbw
   ·
    have HC1 := hide (rok_old he hps); have HP1 := hide hps; have HA1 := hide hap; clear hps hap; subst hq; exact zbcp
theorem rpairs_one (hz : rest = []) (hC : PairC c F d g o rest) : PairC c F d g o (s :: rest) := by
 intro w i r hs ho h hk
 unfold rpairs at hs
 have HLT := hide h.rlt
 have HSO := hide hso
 have HO := hide ho
 have HS := hide hs
 have HK := hide hk
 have HGN := hide hg
 have HC := hide (fun r hr ho => hC w i r hr ho h hk)
 have HPC := hide hC
 clear hs ho hso
 subst hz
 simp only [List.length_cons, List.length_nil, Nat.zero_add]
 unfold PairC at HPC
 simp only [List.length_nil] at HC HPC
 clear h hk hC hg
 cases hr : rpairs c.l F d [] i with
 | out => rw [hr] at HS; exact absurd HS.out HO.out
 | bad er pl =>
  exact zbch
 | ok t0 j0 =>
  have HC' := hide (HC.out _ hr.symm (by nofun)); rw [hr] at HS; have HS2 : Hid (rpairLoop c.l (rpairs c.l F d []) s F.fuel t0 j0 = r) := HS.out.symm; clear HC hr HS; go_enter Tryz.func254, Tryz.ntmps254; go_wp2_with fail
  refine cm HC'.out ?_; rintro e w1 ⟨⟨v, rfl, q, rfl, hn1⟩, hp1, ha1⟩; have HP1 := hide hp1; have HA1 := hide ha1; have HN1 : Hid (NV w.heap.size w1 t0 (nPtr q)) := ⟨q, rfl, hn1⟩; clear hp1 ha1 hn1 HC'; go_wp2_with fail
  go_loopg [7] F.fuel (fun k v wr => (∃ t j, rpairLoop c.l (rpairs c.l F d []) s k t j = r ∧ NV w.heap.size wr t v ∧ Ps c wr j 0 (-1) ∧ Ap c.P w.heap.size w wr)
   ∨ (∃ er pl, r = .bad er pl ∧ er ≠ 0 ∧ (∃ j, Ps c wr j er (pl : Int)) ∧ Ap c.P w.heap.size w wr ∧ ZN v))
  case atStart => exact Or.inl ⟨t0, j0, HS2.out, HN1.out, HP1.out, HA1.out⟩
  case round =>
   clear HS2 HP1 HA1 HN1
   rcases hrel with ⟨t, j, hq, hnv, hps, hap⟩ | ⟨er, pl, hq, he, ⟨j, hps⟩, hap, q, rfl⟩
   ·
    obtain ⟨k, rfl⟩ : ∃ k, gk = k + 1 := by
     exact zbdj
    obtain ⟨q, rfl, hn⟩ := hnv; have HN := hide hn; have HPS := hide hps; have HAP := hide hap; have h0 := hps.c0; have h1 := hps.c1; have f1 := hps.fz 1; obtain ⟨k0, k1, k2, k3⟩ := hps.toks
    have hlt : (j : Int) < (c.l.length : Int) := by have := hps.lt; omega
    have hl3 := hps.base.len; have hR := hps.rlt; have hT := hps.base.tlt; have hR1 : c.P < wr.heap.size + 1 := by omega
    have hT1 : c.tb < wr.heap.size + 1 := by omega
    have hgb := (hap.block g (lt_of_heap HK.out) HGN.out).trans HK.out; have HGB := hide hgb; have hgl := lt_of_heap hgb; have hg1 : g < wr.heap.size + 1 := by omega
    have kg : wr.cell? ⟨g, o, none⟩ = some (.string s) := by rw [cell_of hgb]; exact unhide HSO
    have HC1 := hide (rok_new hps); have hnx : (tkA c.l j).kd = 5 → j + 1 < c.l.length := fun hk => next_lt hps.base.ends hps.lt (by rw [hk]; decide)
    have HNX := hide hnx; unfold rpairLoop at hq; have HQ := hide hq; clear hq hn hps hap hgb hnx
    by_cases h5 : (tkA c.l j).kd = 5
    ·
     rcases fits_ways s (tkA c.l j).tx with ⟨hf, b1⟩ | ⟨hf, b1, b2, b3⟩ | ⟨hf, b1, b2, b3, b4⟩ | ⟨hf, b1, b2⟩ | ⟨hf, b1, b2, b3, b4⟩
     ·
      exact zbac
     ·
      exact zbac
     ·
      exact zbac
     all_goals
      have b5 : ((tkA c.l j).kd != 5) = false := by rw [h5]; rfl
      rw [if_neg (fun h => by rw [hf] at h; exact absurd h.2 (by decide))] at HQ
      have hq : r = .ok t j := HQ.out.symm; subst hq; clear HQ hf h5 HPC HNX HO HK HSO
      generalize tkA c.l j = tk at *
      go_wp2_with fail; refine cm HC1.out ?_; rintro e w2 ⟨rfl, rfl⟩; clear HC1; go_wp2_with fail
      go_region
      go_wp2_with fail
      go_region
      go_wp2_with fail; go_ret
      exact ⟨⟨_, rfl, q, rfl, nv_at (NV.later ⟨q, rfl, HN.out⟩ (((Ap.refl c.P w2.heap.size w2).alloc (Nat.le_refl _) _).drew.drew) HLT.out)⟩, (HPS.out.alloc _).drew.drew, (HAP.out.alloc HAP.out.size _).drew.drew⟩
    ·
     exact zbbw
   ·
    have HC1 := hide (rok_old he hps); have HP1 := hide hps; have HA1 := hide hap; clear hps hap; subst hq; exact zbcp
end
theorem rpairs_any {c : PC} {F : Fns} (hF : RCt c F) {d g : Nat} (hd : d ≤ 30) (hg : g ≠ c.P) : ∀ (ls : List ByteArray) (o : Nat), lvls.drop o = ls → PairC c F d g o ls
 | [], o, _ => fun w i r hs ho h _ => rpairs_nil hF w d i g o r hd hs ho h
 | s :: rest, o, he => by
  have h1 : lvls[o]? = some s := by
   have : (lvls.drop o)[0]? = some s := by rw [he]; rfl
   rw [List.getElem?_drop] at this; exact this
  have h2 : lvls.drop (o + 1) = rest := by
   have : (lvls.drop o).tail = rest := by rw [he]; rfl
   rw [List.tail_drop] at this; exact this
  have h3 : lvCells[o]? = some (.string s) := by
   unfold lvCells; rw [List.getElem?_toArray, List.getElem?_map, h1]; rfl
  by_cases hz : rest = []
  ·
   exact rpairs_one hg h3 hz (by rw [hz]; exact fun w i r hs ho h _ => rpairs_nil hF w d i g o r hd hs ho h)
  ·
   exact rpairs_more hg h3 hz (rpairs_any hF hd hg rest (o + 1) h2)
theorem rpr_any {c : PC} {F : Fns} (hF : RCt c F) (w : World) (d i : Nat) (r : PR Tr) (g : Nat) (hd : d ≤ 30) (hs : r = rpr c.l F 2 d i) (ho : r ≠ .out) (h : Ps c w i 0 (-1)) (hk : w.heap[g]? = some (.cells lvCells 9 (0, 0))) (hg : g ≠ c.P) :
  Calls Tryz.prog 254 #[pPtr c, .int .i64 (d : Int), .slice (some ⟨g, 0, none⟩) 6 6] w (QPost c w (NV w.heap.size) ZN r) :=
 rpairs_any hF hd hg lvls 0 rfl w i r hs ho h hk
abbrev lvO : Obj := .cells #[.string tOr, .string tAnd, .string tSame, .string tLess, .string tPM, .string tMul] 9
theorem rvalue_any {c : PC} {F : Fns} (hF : RCt c F) (w : World) (d i : Nat) (r : PR Tr) (hd : d ≤ 30) (hs : r = deepP c.l (valueP c.l F) d i) (ho : r ≠ .out) (h : Ps c w i 0 (-1)) :
  Calls Tryz.prog 193 #[pPtr c, .int .i64 ((d : Int) + 1)] w (QPost c w (NV w.heap.size) ZN r) := by
 have HC := hide (rok_new h)
 have HO := hide ho
 have HLT := hide h.rlt
 have HP := hide h
 unfold deepP at hs
 by_cases h30 : d = 30
 ·
  rw [if_pos h30] at hs; have hq : r = .bad 4 (tkA c.l i).pl := hs; subst hq; subst h30; have HC2 := hide (rfail_new c w i 4 (by decide) h); clear h hs ho hF; go_enter Tryz.func193, Tryz.ntmps193; go_wp2_with fail
  refine cm HC.out ?_; rintro e w1 ⟨rfl, rfl⟩; clear HC; go_wp2_with fail; refine cm HC2.out ?_; rintro e w2 ⟨⟨v, rfl, q, rfl⟩, hp, he, ha⟩; have HP2 := hide hp; have HA2 := hide ha; clear hp ha HC2 HP; exact zbck
 ·
  rw [if_neg h30] at hs; have hd2 : d + 1 ≤ 30 := by omega
  have hdd : decide ((30 : Int) < (d : Int) + 1) = false := decide_eq_false (by omega); unfold valueP at hs; have h1 := h.c1; have f1 := h.fz 1; have hR := h.rlt; have HS := hide hs; have HF := hide hF; have HH := hide h
  have hcast : (((d + 1 : Nat) : Nat) : Int) = (d : Int) + 1 := by omega
  have HCP := hide (fun r hr ho => hF.pr (w.alloc lvO) (d + 1) i r w.heap.size hd2 hr ho (h.alloc lvO) (heap_new _ _) (Nat.ne_of_gt h.rlt)); rw [hcast] at HCP
  have HAL : Hid (Ap c.P w.heap.size w (w.alloc lvO)) := (Ap.refl c.P w.heap.size w).alloc (Nat.le_refl _) _; clear h hs ho hF h30 hcast
  cases hr : F.pr 2 (d + 1) i with
  | out => rw [hr] at HS; exact absurd HS.out HO.out
  | bad er pl =>
   have HC2 := hide (HCP.out _ hr.symm (by nofun)); rw [hr] at HS; have hq : r = .bad er pl := unhide HS; subst hq; clear hr HCP HS; go_enter Tryz.func193, Tryz.ntmps193; go_wp2_with fail; refine cm HC.out ?_
   rintro e w1 ⟨rfl, rfl⟩; clear HC; go_wp2_with fail; refine cm HC2.out ?_; rintro e w2 ⟨⟨v, rfl, q, rfl⟩, ⟨j, hp⟩, he, ha⟩; have HP2 := hide hp; have HA2 := hide (HAL.out.next ha)
   have HC3 := hide (rnext_old c w2 j er pl he tEq hp); clear hp ha HC2 HAL h1 f1; go_wp2_with fail; refine cm HC3.out ?_; rintro e w3 ⟨rfl, hb⟩; have HP3 := hide (HP2.out.later hb)
   have HA3 := hide (HA2.out.next (Ap.of hb)); clear hb HC3; go_wp2_with fail; go_ret; exact ⟨⟨_, rfl, _, rfl⟩, ⟨j, HP3.out⟩, he, HA3.out⟩
  | ok t i1 =>
   have HC2 := hide (HCP.out _ hr.symm (by nofun)); rw [hr] at HS
   have HS2 : Hid (r = if fx c.l i1 = tEq then (if t.kd = 23 ∨ t.kd = 36 then (deepP c.l F.vl (d + 1) (i1 + 1)).bind fun v i2 => .ok (.mk 24 noText 0 [t, v]) i2 else badF c.l 1 i) else .ok t i1) := unhide HS
   clear hr HCP HS; go_enter Tryz.func193, Tryz.ntmps193; go_wp2_with fail; refine cm HC.out ?_; rintro e w1 ⟨rfl, rfl⟩; clear HC; go_wp2_with fail; refine cm HC2.out ?_; rintro e w2 ⟨⟨v, rfl, q, rfl, hn⟩, hp, ha⟩
   have HP2 := hide hp; have HA2 := hide (HAL.out.next ha); have HN2 : Hid (NV w1.heap.size w2 t (nPtr q)) := NV.mono ⟨q, rfl, hn⟩ HAL.out.size; have HC3 := hide (rnext_any c w2 i1 tEq (by decide) hp)
   have hfl := fx_lt hp.base.ends hp.lt (s := tEq); have HFL := hide hfl; clear hp ha hn HC2 HAL h1 f1 hR hfl
   by_cases hx : fx c.l i1 = tEq
   ·
    rw [decide_eq_true hx] at HC3; rw [if_pos hx] at HS2; have hl := HFL.out hx (by decide); clear hx HFL; go_wp2_with fail; refine cm HC3.out ?_; rintro e w3 ⟨rfl, hb⟩; have HP3 := hide (HP2.out.later hb)
    have HA3 := hide (HA2.out.next (Ap.of hb)); have HN3 := hide (NV.later HN2.out (Ap.of (R := c.P) hb) HLT.out); clear hb HC3 HN2 HP2 HA2; obtain ⟨u0, ps0, hblk, _⟩ := NAt.opens (nv_at HN3.out)
    have kk : w3.cell? ⟨q, 0, none⟩ = some (.int .i64 t.kd) := by rw [cell_of hblk]; rfl
    have hql := lt_of_heap hblk; have h1 := HP3.out.c1; have f1 := HP3.out.fz 1; have hR := HP3.out.rlt; have hl3 := HP3.out.base.len; have hlt : (i1 : Int) < (c.l.length : Int) := by have := HP3.out.lt; omega
    clear hblk
    by_cases ht : t.kd = 23 ∨ t.kd = 36
    ·
     rw [if_pos ht] at HS2; have hnj : ((i1 : Int) + 1) = (((i1 + 1 : Nat)) : Int) := by omega
     have HP4 : Hid (Ps c (w3.setCell ⟨c.P, 1, none⟩ (.int .i64 ((i1 : Int) + 1))) (i1 + 1) 0 (-1)) := by rw [hnj]; exact HP3.out.step hl
     have HA4 : Hid (Ap c.P w1.heap.size w1 (w3.setCell ⟨c.P, 1, none⟩ (.int .i64 ((i1 : Int) + 1)))) := HA3.out.setCell (p := ⟨c.P, 1, none⟩) (Or.inr rfl) _
     have HN4 : Hid (NV w1.heap.size (w3.setCell ⟨c.P, 1, none⟩ (.int .i64 ((i1 : Int) + 1))) t (nPtr q)) := NV.later HN3.out ((Ap.refl c.P w3.heap.size w3).setCell (p := ⟨c.P, 1, none⟩) (Or.inr rfl) _) HLT.out
     have hcast2 : ((d + 1 : Nat) : Int) + 1 = (d : Int) + 1 + 1 := by omega
     cases hr2 : deepP c.l F.vl (d + 1) (i1 + 1) with
     | out => rw [hr2] at HS2; exact absurd HS2.out HO.out
     | bad er pl =>
      have hc4 := HF.out.vl _ (d + 1) (i1 + 1) _ hd2 hr2.symm (by nofun) HP4.out; rw [hcast2] at hc4; have HC4 := hide hc4; rw [hr2] at HS2; have hq : r = .bad er pl := unhide HS2; subst hq; clear hr2 HS2 hc4 hcast2 hnj
      rcases ht with ht | ht
      ·
       have b1 : (t.kd != 23) = false := by rw [ht]; rfl
       exact zbda
      ·
       have b1 : (t.kd != 23) = true := by rw [ht]; rfl
       have b2 : (t.kd != 36) = false := by rw [ht]; rfl
       exact zbda
     | ok v j2 =>
      have hc4 := HF.out.vl _ (d + 1) (i1 + 1) _ hd2 hr2.symm (by nofun) HP4.out; rw [hcast2] at hc4; have HC4 := hide hc4; rw [hr2] at HS2; have hq : r = .ok (.mk 24 noText 0 [t, v]) j2 := unhide HS2; subst hq
      clear hr2 HS2 hc4 hcast2 hnj
      rcases ht with ht | ht
      ·
       have b1 : (t.kd != 23) = false := by rw [ht]; rfl
       exact zbco
      ·
       have b1 : (t.kd != 23) = true := by rw [ht]; rfl
       have b2 : (t.kd != 36) = false := by rw [ht]; rfl
       exact zbco
    ·
     rw [if_neg ht] at HS2; have hq : r = .bad 1 (tkA c.l i).pl := unhide HS2; subst hq; have b1 : (t.kd != 23) = true := bne_iff_ne.2 fun h => ht (Or.inl h)
     have b2 : (t.kd != 36) = true := bne_iff_ne.2 fun h => ht (Or.inr h); have HP4 : Hid (Ps c (w3.setCell ⟨c.P, 1, none⟩ (.int .i64 (i : Int))) i 0 (-1)) := HP3.out.step HH.out.lt
     have HA4 : Hid (Ap c.P w1.heap.size w1 (w3.setCell ⟨c.P, 1, none⟩ (.int .i64 (i : Int)))) := HA3.out.setCell (p := ⟨c.P, 1, none⟩) (Or.inr rfl) _; have HC4 := hide (rfail_new c _ i 1 (by decide) HP4.out); clear ht HS2
     go_wp2_with fail; refine cm HC4.out ?_; rintro e w4 ⟨⟨v, rfl, q4, rfl⟩, hp4, he, ha4⟩; have HP5 := hide hp4; have HA5 := hide (HA4.out.next ha4); clear hp4 ha4 HC4; go_wp2_with fail; go_ret
     exact ⟨⟨_, rfl, _, rfl⟩, HP5.out, he, HA5.out⟩
   ·
    rw [decide_eq_false hx] at HC3; rw [if_neg hx] at HS2; have hq : r = .ok t i1 := unhide HS2; subst hq; clear hx HFL HS2; go_wp2_with fail; refine cm HC3.out ?_; rintro e w3 ⟨rfl, hb⟩
    have HP3 := hide (HP2.out.later hb); have HA3 := hide (HA2.out.next (Ap.of hb)); have HN3 := hide (NV.later HN2.out (Ap.of (R := c.P) hb) HLT.out); clear hb HC3 HN2 HP2 HA2; go_wp2_with fail; go_ret
    exact ⟨⟨_, rfl, HN3.out⟩, HP3.out, HA3.out⟩
end Go.Proofs.YtoimgcjbcbhclaaGreatDoor
