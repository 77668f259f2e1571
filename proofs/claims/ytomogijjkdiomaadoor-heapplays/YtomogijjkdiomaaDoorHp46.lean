/-
  The law's loop, and the law.
-/
import Derived.Test.YtomogijjkdiomaaDoorHp43
import Derived.Test.YtomogijjkdiomaaDoorHp45
import Derived.LaidMore
set_option maxRecDepth 100000
set_option maxHeartbeats 16000000
namespace Go.Proofs.YtomogijjkdiomaaDoor
open Go.RowKit

section
variable {w0 W W' : World} {H R D V : Nat} {M N M' : Mo} {d : Dv} {k : Nat}
set_option maxRecDepth 100000
set_option maxHeartbeats 4000000
theorem r2_all (h0 : Case0) (Q : Exit → Act → World → Prop) (n cap off g j : Nat) (v6 v7 : Value) (f : Nat → Value) (hj : j < n) (hn : n ≤ 80)
    (hc : ∀ t u, d.cells[t]? = some u → W.cell? ⟨g, off + j * 7 + t, none⟩ = some u)
    (hh : HeapH H W M) (hr : HeapR R W M) (hf : FrT (Th ++ Tr) w0.heap.size w0 W) (he : errType w0) (lh : w0.heap.size ≤ H) (lr : w0.heap.size ≤ R) (hM : M.Inv j) (hP : ∀ c a a' w, Q (.panic c) a w → Q (.panic c) a' w)
    (hRet : ∀ f' v6' v7' W', f' 2 = .bool true → Below w0.heap.size w0 W' → Q .ret (fr (.slice (some ⟨g, off, none⟩) n cap) (pH H) (pH R) (.int .i64 (j : Int)) v6' v7' f') W')
    (hQ : ∀ f' v6' v7' W' M', M'.Inv (j + 1) → HeapH H W' M' → HeapR R W' M' → FrT (Th ++ Tr) w0.heap.size w0 W' → Q .normal (fr (.slice (some ⟨g, off, none⟩) n cap) (pH H) (pH R) (.int .i64 ((j + 1 : Nat) : Int)) v6' v7' f') W') :
    R2Wp Q (fr (.slice (some ⟨g, off, none⟩) n cap) (pH H) (pH R) (.int .i64 (j : Int)) v6 v7 f) W := by
  refine wp_seq (x := .block 1 (cl (cl (cr (cl (cl (cr (cl (cr (cr (cr (cr (Tryd.f3.body.getD .skip))))))))))))) (y := cr (cr (cl (cl (cr (cl (cr (cr (cr (cr (Tryd.f3.body.getD .skip))))))))))) ?_
  refine wp_block ?_
  have key : ∀ f' W' M' D V d', M'.Inv (j + 1) → Rd w0 W' H R D V M' M' d' → R7Wp Q (fr (.slice (some ⟨g, off, none⟩) n cap) (pH H) (pH R) (.int .i64 (j : Int)) (pH D) (pH V) f') W' := fun f' W' M' D V d' hI hS => r7_all Q _ _ _ _ _ j (by omega) f' fun f'' => hQ f'' _ _ W' M' hI hS.hh hS.hr hS.fr
  refine x_all h0 _ n cap off g j v6 v7 f hj (hc 0 _ rfl) (hc 1 _ rfl) (hc 2 _ rfl) (hc 3 _ rfl) (hc 4 _ rfl) (hc 5 _ rfl) (hc 6 _ rfl) hh hr hf he lh lr hM (by omega) hP hRet (fun f' W' M' D V d' hI hS => ?_) (fun f' W' M' D V d' hI hS => ?_)
  · simp only [Exit.inBlock, Exit.then, ↓reduceIte]
    exact key f' W' M' D V d' hI hS
  · simp only [Exit.inBlock, Exit.then]
    exact key f' W' M' D V d' hI hS
theorem round_all (h0 : Case0) (Q : Exit → Act → World → Prop) (n cap off g j : Nat) (v6 v7 : Value) (f : Nat → Value) (hj : j ≤ n) (hn : n ≤ 80)
    (hc : j < n → ∃ d : Dv, ∀ t u, d.cells[t]? = some u → W.cell? ⟨g, off + j * 7 + t, none⟩ = some u)
    (hh : HeapH H W M) (hr : HeapR R W M) (hf : FrT (Th ++ Tr) w0.heap.size w0 W) (he : errType w0) (lh : w0.heap.size ≤ H) (lr : w0.heap.size ≤ R) (hM : M.Inv j) (hP : ∀ c a a' w, Q (.panic c) a w → Q (.panic c) a' w)
    (hRet : ∀ f' v6' v7' W', f' 2 = .bool true → Below w0.heap.size w0 W' → Q .ret (fr (.slice (some ⟨g, off, none⟩) n cap) (pH H) (pH R) (.int .i64 (j : Int)) v6' v7' f') W')
    (hX : ∀ f', Q (.exit 0) (fr (.slice (some ⟨g, off, none⟩) n cap) (pH H) (pH R) (.int .i64 (j : Int)) v6 v7 f') W)
    (hQ : j < n → ∀ f' v6' v7' W' M', M'.Inv (j + 1) → HeapH H W' M' → HeapR R W' M' → FrT (Th ++ Tr) w0.heap.size w0 W' → Q .normal (fr (.slice (some ⟨g, off, none⟩) n cap) (pH H) (pH R) (.int .i64 ((j + 1 : Nat) : Int)) v6' v7' f') W') :
    RoundWp Q (fr (.slice (some ⟨g, off, none⟩) n cap) (pH H) (pH R) (.int .i64 (j : Int)) v6 v7 f) W := by
  rcases Nat.lt_or_ge j n with hlt | hge
  · obtain ⟨d, hd⟩ := hc hlt
    have HR2 : Hid (∀ f', R2Wp Q (fr (.slice (some ⟨g, off, none⟩) n cap) (pH H) (pH R) (.int .i64 (j : Int)) v6 v7 f') W) := fun f' => r2_all h0 Q n cap off g j v6 v7 f' hlt hn hd hh hr hf he lh lr hM hP hRet (hQ hlt)
    clear hc hh hr hf he lh lr hM hP hRet hX hQ hd hj
    unfold RoundWp
    simp only [cl, cr, Tryd.f3, Option.getD_some]
    unfold pH fr
    refine wp_seq_k fun K1 hK1 => ?_
    replace hK1 : ∀ a w, R2Wp Q a w → K1 a w := hK1
    go_wp2_with fail
    rw [fr_of _ rfl rfl rfl rfl rfl rfl rfl]
    exact HR2.out _
  · have hje : j = n := by omega
    have HX := hide hX
    clear hc hh hr hf he lh lr hM hP hRet hX hQ hge hj
    subst hje
    unfold RoundWp
    simp only [cl, cr, Tryd.f3, Option.getD_some]
    unfold pH fr
    refine wp_seq_k fun K1 hK1 => ?_
    replace hK1 : ∀ a w, R2Wp Q a w → K1 a w := hK1
    go_wp2_with fail
    exact fin Q (.exit 0) _ rfl rfl rfl rfl rfl rfl rfl (HX.out _)
def noPanic (Q : Exit → Act → World → Prop) (e : Exit) (a : Act) (w : World) : Prop := (∀ c, e ≠ .panic c) ∧ Q e a w
theorem inv_nil : (⟨[], []⟩ : Mo).Inv 0 :=
  ⟨⟨fun i x h => by simp at h, fun i x h => by simp at h, fun i x h => by simp at h, fun i x h => by simp at h, fun i x h => by simp at h⟩, ⟨by simp, by simp, fun x h => by simp at h, fun x h => by simp at h⟩, fun i x h => by simp at h⟩
theorem plays (h0 : Case0) (w : World) (n cap off g : Nat) (hn : n ≤ 80) (hg : g < w.heap.size) (he : errType w)
    (hc : ∀ j, j < n → ∃ d : Dv, ∀ t u, d.cells[t]? = some u → w.cell? ⟨g, off + j * 7 + t, none⟩ = some u) :
    Calls Tryd.prog 3 #[.slice (some ⟨g, off, none⟩) n cap] w fun e w' => e = .returned (.bool true) ∧ Below w.heap.size w w' := by
  have HC := hide hc
  have HE := hide he
  have hb0 := ((Below.refl w.heap.size w).alloc (Nat.le_refl _) (.cells #[.slice none 0 0, .slice none 0 0] 26)).alloc (by simp) (.cells #[.slice none 0 0, .slice none 0 0, .slice none 0 0] 32)
  have HF0 : Hid (FrT (Th ++ Tr) w.heap.size w ((w.alloc (.cells #[.slice none 0 0, .slice none 0 0] 26)).alloc (.cells #[.slice none 0 0, .slice none 0 0, .slice none 0 0] 32))) := FrT.of hb0 (Nat.le_refl _)
  have HH0 : Hid (HeapH w.heap.size ((w.alloc (.cells #[.slice none 0 0, .slice none 0 0] 26)).alloc (.cells #[.slice none 0 0, .slice none 0 0, .slice none 0 0] 32)) ⟨[], []⟩) := by
    refine ⟨_, _, _, _, ?_, Tb.nil (by decide), Tb.nil (by decide)⟩
    exact (((Below.refl _ _).alloc (Nat.le_refl _) _).block _ (by simp)).trans (heap_alloc_new w _)
  have HR0 : Hid (HeapR (w.heap.size + 1) ((w.alloc (.cells #[.slice none 0 0, .slice none 0 0] 26)).alloc (.cells #[.slice none 0 0, .slice none 0 0, .slice none 0 0] 32)) ⟨[], []⟩) := by
    refine ⟨_, _, _, _, _, ?_, World.ownsRow_nil _ _ _ _, Tb.nil (by decide), Tb.nil (by decide)⟩
    have := heap_alloc_new (w.alloc (.cells #[.slice none 0 0, .slice none 0 0] 26)) (.cells #[.slice none 0 0, .slice none 0 0, .slice none 0 0] 32)
    simpa using this
  clear hc he hb0
  go_enter Tryd.func3, Tryd.ntmps3
  go_wp2_with fail
  refine wp_loop (fun a' w' => ∃ (f : Nat → Value) (v6 v7 : Value) (j : Nat) (M : Mo), a' = fr (.slice (some ⟨g, off, none⟩) n cap) (pH w.heap.size) (pH (w.heap.size + 1)) (.int .i64 (j : Int)) v6 v7 f ∧ j ≤ n ∧ M.Inv j ∧ HeapH w.heap.size w' M ∧ HeapR (w.heap.size + 1) w' M ∧ FrT (Th ++ Tr) w.heap.size w w') (fun a' _ => n - (intOf (a'.tmps.getD 5 undef)).toNat) ?_ ?_
  · exact ⟨_, _, _, 0, ⟨[], []⟩, fr_of _ rfl rfl rfl rfl rfl rfl rfl, Nat.zero_le _, inv_nil, HH0.out, HR0.out, HF0.out⟩
  · rintro a wr ⟨f, v6, v7, j, M, rfl, hj, hI, hh, hr, hf⟩
    have HF := hide hf
    refine Code.wp_mono (Q := noPanic _) (fun e a w h => h.2) ?_
    refine round_all h0 _ n cap off g j v6 v7 f hj hn (fun hlt => ?_) hh hr hf HE.out (Nat.le_refl _) (Nat.le_succ _) hI ?_ ?_ ?_ ?_
    · obtain ⟨d, hd⟩ := HC.out j hlt
      exact ⟨d, fun t u h => (hf.below.cell (p := ⟨g, off + j * 7 + t, none⟩) hg).trans (hd t u h)⟩
    · exact fun c _ _ _ h => absurd rfl (h.1 c)
    · intro f' v6' v7' W' h2 hb
      refine ⟨(fun c h => by cases h), ?_⟩
      simp only [Exit.inBlock, Exit.then]
      exact bodyPost_ret (v := .bool true) (by unfold fr; simp [results, Tryd.results3, go_sem, h2]) rfl ⟨rfl, hb⟩
    · intro f'
      refine ⟨(fun c h => by cases h), ?_⟩
      simp only [Exit.inBlock, Exit.then, ↓reduceIte]
      clear hh hr hf hI HC HE HH0 HR0 HF0 hg
      unfold pH fr
      go_wp2_with fail
      go_ret
      exact ⟨rfl, HF.out.below⟩
    · intro hlt f' v6' v7' W' M' hI' hh' hr' hf'
      refine ⟨(fun c h => by cases h), ⟨f', v6', v7', j + 1, M', rfl, hlt, hI', hh', hr', hf'⟩, ?_⟩
      simp [fr, intOf]
      omega
theorem case0_is : Case0 := fun Q l v5 f s ld hM hk q hP hQ => case0_all Q l v5 f s ld hM hk q hP hQ
theorem plays_long (w : World) (a : Option Addr) (n cap : Nat) (hn : 80 < n) : Calls Tryd.prog 3 #[.slice a n cap] w fun e w' => e = .returned (.bool true) ∧ Below w.heap.size w w' := by
  have h1 : (80 : Int) < (n : Int) := by omega
  go_enter Tryd.func3, Tryd.ntmps3
  go_wp2_with fail
  go_ret
  exact ⟨rfl, Below.refl _ _⟩
end

section
set_option maxRecDepth 100000
set_option maxHeartbeats 4000000
theorem plays_nil (w : World) (a : Option Addr) (cap : Nat) : Calls Tryd.prog 3 #[.slice a 0 cap] w fun e w' => e = .returned (.bool true) ∧ Below w.heap.size w w' := by
  have HB := hide (((Below.refl w.heap.size w).alloc (Nat.le_refl _) (.cells #[.slice none 0 0, .slice none 0 0] 26)).alloc (by simp) (.cells #[.slice none 0 0, .slice none 0 0, .slice none 0 0] 32))
  go_enter Tryd.func3, Tryd.ntmps3
  go_wp2_with fail
  refine wp_loop_once ?_
  go_wp2_with fail
  go_ret
  exact ⟨rfl, HB.out⟩
end

section
variable {T : Type} {enc : TypeId × Value → T} {W : World} {base : Nat} {sp : Nat → Bool} {held : Bool}
theorem len7 {cs : List Value} (h : cs.length = 7) : ∃ a b c d e f g, cs = [a, b, c, d, e, f, g] := by
  match cs, h with
  | [a, b, c, d, e, f, g], _ => exact ⟨a, b, c, d, e, f, g, rfl⟩
theorem open_do {n : Nat} {cs : List Value} {x : DataW T × List MemPlace} (h : DataW.trod enc Tryd.prog W base sp held n 34 cs = some x) : ∃ d : Dv, cs = d.cells := by
  obtain ⟨xs, m, _, _, hl, hx, hf⟩ := DataW.trod_struct Tryd.underlying34 h
  have hl7 : cs.length = 7 := hl.trans (by kernel_rfl)
  obtain ⟨a, b, c, d, e, f, g, rfl⟩ := len7 hl7
  have hx7 : xs.length = 7 := hx
  have get : ∀ i, i < 7 → ∃ y, xs[i]? = some y := fun i hi => ⟨_, List.getElem?_eq_getElem (by omega)⟩
  have c3 : Tryd.prog.cellsOf 3 = 1 := by kernel_rfl
  have c9 : Tryd.prog.cellsOf 9 = 1 := by kernel_rfl
  have c4 : Tryd.prog.cellsOf 4 = 1 := by kernel_rfl
  obtain ⟨y0, e0⟩ := get 0 (by omega)
  obtain ⟨y1, e1⟩ := get 1 (by omega)
  obtain ⟨y2, e2⟩ := get 2 (by omega)
  obtain ⟨y3, e3⟩ := get 3 (by omega)
  obtain ⟨y4, e4⟩ := get 4 (by omega)
  obtain ⟨y5, e5⟩ := get 5 (by omega)
  obtain ⟨y6, e6⟩ := get 6 (by omega)
  obtain ⟨n0, h0, _⟩ := DataW.trod_int Tryd.underlying3 ((hf 0 _ rfl).trans e0)
  obtain ⟨n1, h1, _⟩ := DataW.trod_int Tryd.underlying3 ((hf 1 _ rfl).trans e1)
  obtain ⟨n2, h2, _⟩ := DataW.trod_int Tryd.underlying3 ((hf 2 _ rfl).trans e2)
  obtain ⟨n3, h3, _⟩ := DataW.trod_string Tryd.underlying9 ((hf 3 _ rfl).trans e3)
  obtain ⟨n4, h4, _⟩ := DataW.trod_int Tryd.underlying3 ((hf 4 _ rfl).trans e4)
  obtain ⟨n5, h5, _⟩ := DataW.trod_int Tryd.underlying3 ((hf 5 _ rfl).trans e5)
  obtain ⟨n6, h6, _⟩ := DataW.trod_bool Tryd.underlying4 ((hf 6 _ rfl).trans e6)
  simp [c3, c4, c9] at h0 h1 h2 h3 h4 h5 h6
  subst h0 h1 h2 h3 h4 h5 h6
  exact ⟨⟨n0, n1, n2, n3, n4, n5, n6⟩, rfl⟩
theorem add_none (g o m t : Nat) : (Addr.add (Addr.add ⟨g, o, none⟩ m) t) = ⟨g, o + m + t, none⟩ := by
  unfold Addr.add
  split <;> split <;> simp_all <;> omega
theorem open_dos {n : Nat} {cs : List Value} {x : DataW T × List MemPlace} (h : DataW.trod enc Tryd.prog W base sp held n 22 cs = some x) :
    (∃ a cap, cs = [.slice a 0 cap]) ∨ ∃ g off len cap, cs = [.slice (some ⟨g, off, none⟩) len cap] ∧ g < W.heap.size ∧ ∀ j, j < len → ∃ d : Dv, ∀ t u, d.cells[t]? = some u → W.cell? ⟨g, off + j * 7 + t, none⟩ = some u := by
  have c34 : Tryd.prog.cellsOf 34 = 7 := by kernel_rfl
  rcases DataW.trod_slice Tryd.underlying22 h with ⟨rfl, _⟩ | ⟨a, len, cap, elems, rest, m, _, rfl, _, _, _, _, hlen, hel, _⟩
  · exact .inl ⟨none, 0, rfl⟩
  · rw [c34] at hel
    have key : ∀ j, j < len → ∃ d : Dv, a.block < W.heap.size ∧ ∀ t u, d.cells[t]? = some u → W.cell? ((a.add (j * 7)).add t) = some u := fun j hj => by
      have h1 := hel j hj
      obtain ⟨y, hy⟩ : ∃ y, elems[j]? = some y := ⟨_, List.getElem?_eq_getElem (by omega)⟩
      rw [hy, Option.bind_eq_some_iff] at h1
      obtain ⟨c1, hc1, hd⟩ := h1
      obtain ⟨d, rfl⟩ := open_do hd
      obtain ⟨_, _, hc⟩ := World.cells?_some hc1
      have hb := World.cells?_block hc1 (by omega)
      refine ⟨d, ?_, fun t u hu => ?_⟩
      · have : (a.add (j * 7)).block = a.block := by unfold Addr.add; split <;> rfl
        rw [← this]; exact hb
      · have ht : t < 7 := (List.getElem?_eq_some_iff.1 hu).1
        rw [hc t ht]; exact hu
    rcases Nat.eq_zero_or_pos len with rfl | hp
    · exact .inl ⟨_, _, rfl⟩
    · obtain ⟨d, hb, hd⟩ := key 0 hp
      have h0 := hd 0 _ rfl
      obtain ⟨g, off, z⟩ := a
      have hz : z = none := by
        cases z with
        | none => rfl
        | some z =>
          simp [Addr.add, World.cell?] at h0
          split at h0 <;> simp at h0
      subst hz
      refine .inr ⟨g, off, len, cap, rfl, hb, fun j hj => ?_⟩
      obtain ⟨d, _, hd⟩ := key j hj
      exact ⟨d, fun t u hu => by rw [← add_none]; exact hd t u hu⟩
end
end Go.Proofs.YtomogijjkdiomaaDoor
