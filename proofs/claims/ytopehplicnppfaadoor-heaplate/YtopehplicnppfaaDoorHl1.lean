/-
  What is declared.
-/
import Derived.Test.YtopehplicnppfaaDoorHl0
import Derived.Deep.AppendLies
set_option maxRecDepth 100000
set_option maxHeartbeats 16000000
namespace Go.Proofs.YtopehplicnppfaaDoor
open Go.RowKit

theorem info58 : (Tryd.prog.info? 66).map (fun i => (i.zero, i.size, i.bytes)) = some (some (.agg #[.string ⟨#[]⟩, .int .i64 0, .int .i64 0, .string ⟨#[]⟩, .int .i64 0, .bool false]), 6, 64) := by kernel_rfl
theorem new6_cells (w : World) (H : Nat) (hH : w.heap.size = H) (x y : ByteArray) (a b c : Int) (r : Bool) (j : Nat) (u : Value) (h : ([.string x, .int .i64 a, .int .i64 b, .string y, .int .i64 c, .bool r] : List Value)[j]? = some u) :
    (w.alloc (.cells #[.string x, .int .i64 a, .int .i64 b, .string y, .int .i64 c, .bool r] 66)).cell? (Addr.add ⟨H, 0, none⟩ j) = some u := by
  subst hH
  match j, h with
  | 0, h => simp at h; subst h; simp [Addr.add]
  | 1, h => simp at h; subst h; simp [Addr.add]
  | 2, h => simp at h; subst h; simp [Addr.add]
  | 3, h => simp at h; subst h; simp [Addr.add]
  | 4, h => simp at h; subst h; simp [Addr.add]
  | 5, h => simp at h; subst h; simp [Addr.add]
  | k + 6, h => simp at h
theorem new6_one (x y : ByteArray) (a b c : Int) (r : Bool) : ∀ u ∈ ([.string x, .int .i64 a, .int .i64 b, .string y, .int .i64 c, .bool r] : List Value), u.oneCell' = true := by
  intro u hu
  simp at hu
  rcases hu with rfl | rfl | rfl | rfl | rfl | rfl <;> rfl
theorem rowB_snoc (bs : List Bd) (b : Bd) : rowB (bs ++ [b]) = rowB bs ++ b.cells := by simp [rowB]
def readyOf (k : Int) : Bool := decide (k ≠ 1) && decide (k ≠ 2)
theorem declare_0 {H : Nat} {w : World} {L : List Sc} {sv : Value} {vs : List Value} (h : HR H w L sv vs) (i : Nat) (s : Sc) (hi : L[i]? = some s) (nm : ByteArray) (hk : firstS nm s.bs = none) (a n : Int) (t : ByteArray) (hl : s.bs.length < 100) :
    Calls Tryd.prog 14 #[hP H, .int .i64 (i : Int), .string nm, (.int .i64 0), .agg #[.int .i64 a, .int .i64 n, .string t]] w fun e w' => e = .returned .nilIface ∧ (∃ v', HR H w' (L.set i ⟨s.outer, s.bs ++ [⟨nm, a, n, t, 0, true⟩]⟩) sv (vs.set i v')) ∧ Fr H w w' := by
  obtain ⟨W0, hW0⟩ : ∃ W0, W0 = w.alloc (.cells #[.int .i64 a, .int .i64 n, .string t] 28) := ⟨_, rfl⟩
  have hb0 : Below w.heap.size w W0 := by rw [hW0]; exact (Below.refl _ _).alloc (Nat.le_refl _) _
  have hsz : W0.heap.size = w.heap.size + 1 := by rw [hW0]; simp
  have h0 := h.later hb0
  have HWL := hide (lt_of_block h.blk)
  have HH0 := hide h0
  have HI := hide hi
  have HK := hide hk
  have HLN := hide hl
  have HB0 := hide hb0
  have HSZ := hide hsz
  have HN : Hid (∀ w1, Below W0.heap.size W0 w1 → Below (w.heap.size + 1) (w.alloc (.cells #[.int .i64 a, .int .i64 n, .string t] 28)) w1) := fun w1 hb => by rw [← hW0, ← hsz]; exact hb
  obtain ⟨c0, c1, cf, cl⟩ := HH0.out.c0
  obtain ⟨g, cap, v, rfl, hlt, hv, k0, k1, k2, hrow, hg, hHg, _⟩ := HH0.out.at_ HI.out
  have HC := hide (at_in g cap L.length i hlt W0)
  have HD := hide (bind_any g (i * 3) v s.bs H nm W0 k2 hrow (Nat.le_trans (HH0.out.smalls i s HI.out) (by decide)))
  rw [HK.out, show bptr v none = none from bptr_none v] at HD
  have HV := hide hv
  have hHw : H < w.heap.size := HWL.out
  have hW0' := hide hW0
  rw [hW0] at c1
  rw [World.cell?_alloc_lt _ _ _ (by exact hHw)] at c1
  clear h hi hk h0 hb0 hsz k0 k2 hrow hv hl c0 cf hW0
  unfold hP
  go_enter Tryd.func14, Tryd.ntmps14
  go_wp2_with fail
  rw [← hW0'.out]
  refine Calls.mono HC.out ?_
  rintro e w1 ⟨rfl, hw⟩
  rw [hw]
  clear hw c1
  go_wp2_with fail
  refine Calls.mono HD.out ?_
  rintro e w1 ⟨rfl, hb1⟩
  have HH1 := hide (HH0.out.later hb1)
  have HB1 := hide hb1
  obtain ⟨n0, n1, n2, nf, nl⟩ := new3 (HN.out _ HB1.out)
  obtain ⟨g', cap', v', hsv, _, hv2, k0, k1, k2, hrow, hg1, _, kf⟩ := HH1.out.at_ HI.out
  simp only [Value.slice.injEq, Option.some.injEq, Addr.mk.injEq, and_true, true_and] at hsv
  obtain ⟨rfl, rfl⟩ := hsv
  rw [HV.out] at hv2
  cases hv2
  have HROW := hide hrow
  obtain ⟨ii, hi0, hz0, hz1, hz2⟩ := info_parts info58
  have hH1 : H < w1.heap.size := lt_of_block HH1.out.blk
  have hl := HLN.out
  clear hb1 hrow HC HD
  go_wp2_with fail
  refine wp_region_any (by kernel_rfl) ?_
  change wpAny _ _ _ _ _ _ _ (World.drew _)
  refine wt 0 (.pointer (some ⟨g, i * 3, none⟩)) ?_
  refine wt 1 (.pointer (some ⟨g, i * 3, none⟩)) ?_
  refine wt 2 (.pointer (some ⟨g, i * 3, none⟩)) ?_
  refine wt 3 (.pointer (some ⟨g, i * 3 + 2, none⟩)) ?_
  refine wt 5 (.string nm) ?_
  refine wt 7 (.int .i64 0) ?_
  refine wt 8 (.bool true) ?_
  refine wr2 4 6 (fun K hK => ?ca) fun K hK => ?cb
  case' ca =>
    go_simp
    refine hK _ _ ?_
    clear hK K
    refine wr1 6 fun K hK => ?_
    go_simp
    refine hK _ _ ?_
    clear hK K
    refine wt 9 (.agg #[.string nm, .int .i64 a, .int .i64 n, .string t, .int .i64 0, .bool true]) ?_
    refine wr1 10 fun K hK => ?_
    go_simp
    refine hK _ _ ?_
    clear hK K
  case' cb =>
    go_simp
    refine hK _ _ ?_
    clear hK K
    refine wt 9 (.agg #[.string nm, .int .i64 a, .int .i64 n, .string t, .int .i64 0, .bool true]) ?_
    refine wr2 4 10 (fun K hK => ?cc) fun K hK => ?cd
  case' cc =>
    go_simp
    refine hK _ _ ?_
    clear hK K
    refine wr1 10 fun K hK => ?_
    go_simp
    refine hK _ _ ?_
    clear hK K
  case' cd =>
    go_simp
    refine hK _ _ ?_
    clear hK K
    refine wr1 4 fun K hK => ?_
    go_simp
    refine hK _ _ ?_
    clear hK K
  all_goals
    refine wr1 11 fun K hK => ?_
    refine step_append_lies _ rfl _ _ 55 rfl H 66 ii _ 6 64 Tryd.underlying55 hi0 hz0 hz1 hz2 rfl (by decide) _ _ _ rfl (HROW.out.drew.alloc _) ⟨w1.heap.size, 0, none⟩ 1 1 [.string nm, .int .i64 a, .int .i64 n, .string t, .int .i64 0, .bool true] rfl rfl (new6_cells _ _ rfl _ _ _ _ _ _) (new6_one _ _ _ _ _ _) (by decide) (by unfold maxLen; omega) (by omega) (by simp; omega) (w1.heap.size + 1) (by simp) ?_
    intro gn capn w3 hown3 hgr3 hg3 _
    refine hK _ _ ?_
    clear hK K
    have hgr : w1.grownBy w3 v.ownBlock := grown_trans (grown_trans (b := w1.drew) ⟨rfl, rfl, rfl, Nat.le_refl _, fun _ _ _ => rfl⟩ (World.grownBy_alloc _ _ _)) hgr3
    have hz := HH1.out.put HI.out HV.out hgr (v' := .slice (some ⟨gn, 0, none⟩) (s.bs.length + 1) capn) (bs' := s.bs ++ [⟨nm, a, n, t, 0, true⟩]) (by rw [rowB_snoc]; simpa [Bd.cells] using hown3) (hg3.imp (fun e => e.symm) (fun e => ⟨gn, rfl, by rw [e]; exact Nat.le_succ _⟩)) (by simp; omega)
    have HZ := hide hz
    have kg : w3.cell? ⟨g, i * 3 + 2, none⟩ = some v ∧ w3.frozen? ⟨g, i * 3 + 2, none⟩ = false := by
      have hne : some g ≠ v.ownBlock := fun e => by
        obtain ⟨_, _, hnn⟩ := HH1.out.ne HV.out
        exact (hnn g e.symm).2.2.1 rfl
      have hbk := hgr.block g hg1 hne
      exact ⟨(World.cell?_of_block (w := w1) (a := ⟨g, i * 3 + 2, none⟩) hbk).trans k2, (World.frozen?_of_block (w := w1) (a := ⟨g, i * 3 + 2, none⟩) hbk).trans kf⟩
    obtain ⟨kg1, kg2⟩ := kg
    clear hz hgr hown3 hgr3 hg3 k0 k1 k2 kf n0 n1 n2 nf
    refine wt 12 (.pointer (some ⟨g, i * 3, none⟩)) ?_
    refine wt 13 (.pointer (some ⟨g, i * 3 + 2, none⟩)) ?_
    refine wr1 14 fun K hK => ?_
    go_simp
    refine hK _ _ ?_
    clear hK K
    refine wpAny_done (by kernel_rfl) ?_ _
    go_simp
    go_wp2_with fail
    go_ret
    exact ⟨rfl, ⟨_, HZ.out.1⟩, ((Fr.of HB0.out (Nat.le_of_lt HWL.out)).trans (Fr.of HB1.out (Nat.le_of_lt cl))).trans HZ.out.2⟩
theorem declare_4 {H : Nat} {w : World} {L : List Sc} {sv : Value} {vs : List Value} (h : HR H w L sv vs) (i : Nat) (s : Sc) (hi : L[i]? = some s) (nm : ByteArray) (hk : firstS nm s.bs = none) (a n : Int) (t : ByteArray) (hl : s.bs.length < 100) :
    Calls Tryd.prog 14 #[hP H, .int .i64 (i : Int), .string nm, (.int .i64 4), .agg #[.int .i64 a, .int .i64 n, .string t]] w fun e w' => e = .returned .nilIface ∧ (∃ v', HR H w' (L.set i ⟨s.outer, s.bs ++ [⟨nm, a, n, t, 4, true⟩]⟩) sv (vs.set i v')) ∧ Fr H w w' := by
  obtain ⟨W0, hW0⟩ : ∃ W0, W0 = w.alloc (.cells #[.int .i64 a, .int .i64 n, .string t] 28) := ⟨_, rfl⟩
  have hb0 : Below w.heap.size w W0 := by rw [hW0]; exact (Below.refl _ _).alloc (Nat.le_refl _) _
  have hsz : W0.heap.size = w.heap.size + 1 := by rw [hW0]; simp
  have h0 := h.later hb0
  have HWL := hide (lt_of_block h.blk)
  have HH0 := hide h0
  have HI := hide hi
  have HK := hide hk
  have HLN := hide hl
  have HB0 := hide hb0
  have HSZ := hide hsz
  have HN : Hid (∀ w1, Below W0.heap.size W0 w1 → Below (w.heap.size + 1) (w.alloc (.cells #[.int .i64 a, .int .i64 n, .string t] 28)) w1) := fun w1 hb => by rw [← hW0, ← hsz]; exact hb
  obtain ⟨c0, c1, cf, cl⟩ := HH0.out.c0
  obtain ⟨g, cap, v, rfl, hlt, hv, k0, k1, k2, hrow, hg, hHg, _⟩ := HH0.out.at_ HI.out
  have HC := hide (at_in g cap L.length i hlt W0)
  have HD := hide (bind_any g (i * 3) v s.bs H nm W0 k2 hrow (Nat.le_trans (HH0.out.smalls i s HI.out) (by decide)))
  rw [HK.out, show bptr v none = none from bptr_none v] at HD
  have HV := hide hv
  have hHw : H < w.heap.size := HWL.out
  have hW0' := hide hW0
  rw [hW0] at c1
  rw [World.cell?_alloc_lt _ _ _ (by exact hHw)] at c1
  clear h hi hk h0 hb0 hsz k0 k2 hrow hv hl c0 cf hW0
  unfold hP
  go_enter Tryd.func14, Tryd.ntmps14
  go_wp2_with fail
  rw [← hW0'.out]
  refine Calls.mono HC.out ?_
  rintro e w1 ⟨rfl, hw⟩
  rw [hw]
  clear hw c1
  go_wp2_with fail
  refine Calls.mono HD.out ?_
  rintro e w1 ⟨rfl, hb1⟩
  have HH1 := hide (HH0.out.later hb1)
  have HB1 := hide hb1
  obtain ⟨n0, n1, n2, nf, nl⟩ := new3 (HN.out _ HB1.out)
  obtain ⟨g', cap', v', hsv, _, hv2, k0, k1, k2, hrow, hg1, _, kf⟩ := HH1.out.at_ HI.out
  simp only [Value.slice.injEq, Option.some.injEq, Addr.mk.injEq, and_true, true_and] at hsv
  obtain ⟨rfl, rfl⟩ := hsv
  rw [HV.out] at hv2
  cases hv2
  have HROW := hide hrow
  obtain ⟨ii, hi0, hz0, hz1, hz2⟩ := info_parts info58
  have hH1 : H < w1.heap.size := lt_of_block HH1.out.blk
  have hl := HLN.out
  clear hb1 hrow HC HD
  go_wp2_with fail
  refine wp_region_any (by kernel_rfl) ?_
  change wpAny _ _ _ _ _ _ _ (World.drew _)
  refine wt 0 (.pointer (some ⟨g, i * 3, none⟩)) ?_
  refine wt 1 (.pointer (some ⟨g, i * 3, none⟩)) ?_
  refine wt 2 (.pointer (some ⟨g, i * 3, none⟩)) ?_
  refine wt 3 (.pointer (some ⟨g, i * 3 + 2, none⟩)) ?_
  refine wt 5 (.string nm) ?_
  refine wt 7 (.int .i64 4) ?_
  refine wt 8 (.bool true) ?_
  refine wr2 4 6 (fun K hK => ?ca) fun K hK => ?cb
  case' ca =>
    go_simp
    refine hK _ _ ?_
    clear hK K
    refine wr1 6 fun K hK => ?_
    go_simp
    refine hK _ _ ?_
    clear hK K
    refine wt 9 (.agg #[.string nm, .int .i64 a, .int .i64 n, .string t, .int .i64 4, .bool true]) ?_
    refine wr1 10 fun K hK => ?_
    go_simp
    refine hK _ _ ?_
    clear hK K
  case' cb =>
    go_simp
    refine hK _ _ ?_
    clear hK K
    refine wt 9 (.agg #[.string nm, .int .i64 a, .int .i64 n, .string t, .int .i64 4, .bool true]) ?_
    refine wr2 4 10 (fun K hK => ?cc) fun K hK => ?cd
  case' cc =>
    go_simp
    refine hK _ _ ?_
    clear hK K
    refine wr1 10 fun K hK => ?_
    go_simp
    refine hK _ _ ?_
    clear hK K
  case' cd =>
    go_simp
    refine hK _ _ ?_
    clear hK K
    refine wr1 4 fun K hK => ?_
    go_simp
    refine hK _ _ ?_
    clear hK K
  all_goals
    refine wr1 11 fun K hK => ?_
    refine step_append_lies _ rfl _ _ 55 rfl H 66 ii _ 6 64 Tryd.underlying55 hi0 hz0 hz1 hz2 rfl (by decide) _ _ _ rfl (HROW.out.drew.alloc _) ⟨w1.heap.size, 0, none⟩ 1 1 [.string nm, .int .i64 a, .int .i64 n, .string t, .int .i64 4, .bool true] rfl rfl (new6_cells _ _ rfl _ _ _ _ _ _) (new6_one _ _ _ _ _ _) (by decide) (by unfold maxLen; omega) (by omega) (by simp; omega) (w1.heap.size + 1) (by simp) ?_
    intro gn capn w3 hown3 hgr3 hg3 _
    refine hK _ _ ?_
    clear hK K
    have hgr : w1.grownBy w3 v.ownBlock := grown_trans (grown_trans (b := w1.drew) ⟨rfl, rfl, rfl, Nat.le_refl _, fun _ _ _ => rfl⟩ (World.grownBy_alloc _ _ _)) hgr3
    have hz := HH1.out.put HI.out HV.out hgr (v' := .slice (some ⟨gn, 0, none⟩) (s.bs.length + 1) capn) (bs' := s.bs ++ [⟨nm, a, n, t, 4, true⟩]) (by rw [rowB_snoc]; simpa [Bd.cells] using hown3) (hg3.imp (fun e => e.symm) (fun e => ⟨gn, rfl, by rw [e]; exact Nat.le_succ _⟩)) (by simp; omega)
    have HZ := hide hz
    have kg : w3.cell? ⟨g, i * 3 + 2, none⟩ = some v ∧ w3.frozen? ⟨g, i * 3 + 2, none⟩ = false := by
      have hne : some g ≠ v.ownBlock := fun e => by
        obtain ⟨_, _, hnn⟩ := HH1.out.ne HV.out
        exact (hnn g e.symm).2.2.1 rfl
      have hbk := hgr.block g hg1 hne
      exact ⟨(World.cell?_of_block (w := w1) (a := ⟨g, i * 3 + 2, none⟩) hbk).trans k2, (World.frozen?_of_block (w := w1) (a := ⟨g, i * 3 + 2, none⟩) hbk).trans kf⟩
    obtain ⟨kg1, kg2⟩ := kg
    clear hz hgr hown3 hgr3 hg3 k0 k1 k2 kf n0 n1 n2 nf
    refine wt 12 (.pointer (some ⟨g, i * 3, none⟩)) ?_
    refine wt 13 (.pointer (some ⟨g, i * 3 + 2, none⟩)) ?_
    refine wr1 14 fun K hK => ?_
    go_simp
    refine hK _ _ ?_
    clear hK K
    refine wpAny_done (by kernel_rfl) ?_ _
    go_simp
    go_wp2_with fail
    go_ret
    exact ⟨rfl, ⟨_, HZ.out.1⟩, ((Fr.of HB0.out (Nat.le_of_lt HWL.out)).trans (Fr.of HB1.out (Nat.le_of_lt cl))).trans HZ.out.2⟩

theorem HR.start (w : World) : HR w.heap.size (w.alloc (.cells #[.slice none 0 0, .slice none 0 0] 25)) [] (.slice none 0 0) [] :=
  ⟨heap_alloc_new w _, World.ownsRow_nil _ _ _ _, rfl, fun i s v h => by simp at h, fun i j a b g h => by simp at h, by simp, fun i s h => by simp at h⟩
theorem HR.push {H : Nat} {w w1 : World} {L : List Sc} {sv : Value} {vs : List Value} (h : HR H w L sv vs) (o : Int) {g cap : Nat} (hgr : w.grownBy w1 sv.ownBlock)
    (hown : w1.ownsRow H 57 3 (.slice (some ⟨g, 0, none⟩) (L.length + 1) cap) (L.length + 1) (rowS L vs ++ [.int .i64 o, .int .i64 (-1), .slice none 0 0])) (hg' : sv.ownBlock = some g ∨ w.heap.size ≤ g) (hl : L.length < 100) :
    HR H (w1.setCell ⟨H, 1, none⟩ (.slice (some ⟨g, 0, none⟩) (L.length + 1) cap)) (L ++ [⟨o, []⟩]) (.slice (some ⟨g, 0, none⟩) (L.length + 1) cap) (vs ++ [.slice none 0 0]) ∧ Fr H w (w1.setCell ⟨H, 1, none⟩ (.slice (some ⟨g, 0, none⟩) (L.length + 1) cap)) := by
  have hHl := lt_of_block h.blk
  have hsv : ∀ k, sv.ownBlock = some k → H < k ∧ k < w.heap.size ∧ ∃ c, w.heap[k]? = some (.cells c 57 (0, 0)) := fun k hk => by
    obtain ⟨c, hc⟩ := row_tag h.row hk
    have h1 := h.row.lt k hk
    have h2 : k ≠ H := tags_ne hc h.blk (by decide)
    exact ⟨by omega, h1.2, c, hc⟩
  have hgH : g ≠ H := by
    rcases hg' with e | e
    · have := (hsv g e).1; omega
    · omega
  have hb1 : w1.heap[H]? = some (.cells #[.slice none 0 0, sv] 25 (0, 0)) := by
    rw [hgr.block H hHl (fun e => by have := (hsv H e.symm).1; omega)]; exact h.blk
  refine ⟨⟨?_, ?_, by simp [h.len], ?_, ?_, by simp; omega, ?_⟩, ?_⟩
  · rw [heap_setCell_same w1 H 1 _ 25 _ hb1]; rfl
  · have e := rowS_app L [⟨o, []⟩] vs [.slice none 0 0] h.len
    rw [e]
    simp only [List.length_append, List.length_singleton]
    exact ownsRow_setCell_other hown (by simp [Value.ownBlock]; exact hgH) _
  · intro j s' v' hj hv'
    by_cases hjl : j < L.length
    · rw [List.getElem?_append_left hjl] at hj
      rw [List.getElem?_append_left (by rw [h.len]; exact hjl)] at hv'
      obtain ⟨_, _, hn⟩ := h.ne hv'
      refine ownsRow_setCell_other ((h.own j s' v' hj hv').kept hgr ?_) (fun e => by have := (hn H e).1; omega) _
      cases hq : v'.ownBlock with
      | none => exact .inl rfl
      | some q => exact .inr fun e => (hn q hq).2.2.1 e.symm
    · have hj' := (List.getElem?_eq_some_iff.1 hj).1
      simp at hj'
      have : j = L.length := by omega
      subst this
      rw [List.getElem?_append_right (by omega)] at hj
      rw [List.getElem?_append_right (by rw [h.len]; omega)] at hv'
      simp [h.len] at hj hv'
      subst hj hv'
      exact World.ownsRow_nil _ _ _ _
  · intro i j a b q ha hb hqa hqb
    have key : ∀ (i : Nat) (a : Value), (vs ++ [Value.slice none 0 0])[i]? = some a → a.ownBlock = some q → vs[i]? = some a := by
      intro i a hi hq
      by_cases hil : i < vs.length
      · rw [List.getElem?_append_left hil] at hi; exact hi
      · have hi' := (List.getElem?_eq_some_iff.1 hi).1
        simp at hi'
        have : i = vs.length := by omega
        subst this
        rw [List.getElem?_append_right (by omega)] at hi
        simp at hi
        subst hi
        simp [Value.ownBlock] at hq
    exact h.apart i j a b q (key i a ha hqa) (key j b hb hqb) hqa hqb
  · intro j s' hj
    by_cases hjl : j < L.length
    · rw [List.getElem?_append_left hjl] at hj
      exact h.smalls j s' hj
    · have hj' := (List.getElem?_eq_some_iff.1 hj).1
      simp at hj'
      have : j = L.length := by omega
      subst this
      rw [List.getElem?_append_right (by omega)] at hj
      simp at hj
      subst hj
      simp
  · exact Fr.setCell (Fr.grown hgr (Nat.le_of_lt hHl) fun k hk => ⟨Nat.le_of_lt (hsv k hk).1, (hsv k hk).2.2.choose, 57, (hsv k hk).2.2.choose_spec, by decide⟩) hb1 (by decide) (Nat.le_refl _) _
theorem new3_cells (w : World) (H : Nat) (hH : w.heap.size = H) (a b : Int) (v : Value) (j : Nat) (u : Value) (h : ([.int .i64 a, .int .i64 b, v] : List Value)[j]? = some u) :
    (w.alloc (.cells #[.int .i64 a, .int .i64 b, v] 57)).cell? (Addr.add ⟨H, 0, none⟩ j) = some u := by
  subst hH
  match j, h with
  | 0, h => simp at h; subst h; simp [Addr.add]
  | 1, h => simp at h; subst h; simp [Addr.add]
  | 2, h => simp at h; subst h; simp [Addr.add]
  | k + 3, h => simp at h
theorem new3_one (a b : Int) : ∀ u ∈ ([.int .i64 a, .int .i64 b, .slice none 0 0] : List Value), u.oneCell' = true := by
  intro u hu
  simp at hu
  rcases hu with rfl | rfl | rfl <;> rfl
theorem info46 : (Tryd.prog.info? 57).map (fun i => (i.zero, i.size, i.bytes)) = some (some (.agg #[.int .i64 0, .int .i64 0, .slice none 0 0]), 3, 40) := by kernel_rfl
theorem scope_first {H : Nat} {w : World} {L : List Sc} {sv : Value} {vs : List Value} (h : HR H w L sv vs) (hl : L.length < 100) :
    Calls Tryd.prog 12 #[hP H, .int .i64 (-1), .int .i64 (-1)] w fun e w' => e = .returned (.int .i64 (L.length : Int)) ∧ (∃ sv', HR H w' (L ++ [⟨(-1), []⟩]) sv' (vs ++ [.slice none 0 0])) ∧ Fr H w w' := by
  have hH : H < w.heap.size := lt_of_block h.blk
  obtain ⟨c0, c1, cf, cl⟩ := h.c0
  have HH := hide h
  have HC := hide (at_out sv L.length (row_form h.row) (-1) (.inl (by decide)) (w.alloc (.cells #[.int .i64 (-1), .int .i64 (-1), .slice none 0 0] 57)))
  have HD := hide (at_none (-1) (w.alloc (.cells #[.int .i64 (-1), .int .i64 (-1), .slice none 0 0] 57)))
  clear h
  unfold hP
  go_enter Tryd.func12, Tryd.ntmps12
  go_wp2_with fail
  refine Calls.mono HC.out ?_
  rintro e w1 ⟨rfl, hw⟩
  rw [hw]
  clear hw
  go_wp2_with fail
  refine Calls.mono HD.out ?_
  rintro e w1 ⟨rfl, hw⟩
  rw [hw]
  clear hw
  go_wp2_with fail
  obtain ⟨ii, hi0, hz0, hz1, hz2⟩ := info_parts info46
  obtain ⟨W0, hW0⟩ : ∃ W0, W0 = w.alloc (.cells #[.int .i64 (-1), .int .i64 (-1), .slice none 0 0] 57) := ⟨_, rfl⟩
  have hb0 : Below w.heap.size w W0 := by rw [hW0]; exact (Below.refl _ _).alloc (Nat.le_refl _) _
  have HB0 := hide hb0
  have HH1 := hide (HH.out.later hb0)
  obtain ⟨n0, n1, n2, nf, nl⟩ := new3 (w1 := W0) (by rw [hW0]; exact Below.refl _ _)
  obtain ⟨d0, d1, df, dl⟩ := HH1.out.c0
  rw [← hW0]
  have HROW := hide HH1.out.row
  clear hW0 hb0 c0 c1 cf cl HC HD d0
  refine wp_region_any (by kernel_rfl) ?_
  change wpAny _ _ _ _ _ _ _ (World.drew _)
  refine wt 0 (.pointer (some ⟨H, 0, none⟩)) ?_
  refine wt 1 (.pointer (some ⟨H, 0, none⟩)) ?_
  refine wt 2 (.pointer (some ⟨H, 0, none⟩)) ?_
  refine wt 3 (.pointer (some ⟨H, 1, none⟩)) ?_
  refine wr2 4 5 (fun K hK => ?ca) fun K hK => ?cb
  case' ca =>
    go_simp
    refine hK _ _ ?_
    clear hK K
    refine wr1 5 fun K hK => ?_
    go_simp
    refine hK _ _ ?_
    clear hK K
    refine wr1 6 fun K hK => ?_
    go_simp
    refine hK _ _ ?_
    clear hK K
  case' cb =>
    go_simp
    refine hK _ _ ?_
    clear hK K
    refine wr2 4 6 (fun K hK => ?cc) fun K hK => ?cd
  case' cc =>
    go_simp
    refine hK _ _ ?_
    clear hK K
    refine wr1 6 fun K hK => ?_
    go_simp
    refine hK _ _ ?_
    clear hK K
  case' cd =>
    go_simp
    refine hK _ _ ?_
    clear hK K
    refine wr1 4 fun K hK => ?_
    go_simp
    refine hK _ _ ?_
    clear hK K
  all_goals
    refine wr1 7 fun K hK => ?_
    refine step_append_lies _ rfl _ _ 23 rfl H 57 ii _ 3 40 Tryd.underlying23 hi0 hz0 hz1 hz2 rfl (by decide) _ _ _ rfl (HROW.out.drew.alloc _) ⟨W0.heap.size, 0, none⟩ 1 1 [.int .i64 (-1), .int .i64 (-1), .slice none 0 0] rfl rfl (new3_cells _ _ rfl _ _ _) (new3_one _ _) (by decide) (by unfold maxLen; omega) (by omega) (by simp; omega) (W0.heap.size + 1) (by simp) ?_
    intro gn capn w3 hown3 hgr3 hg3 _
    refine hK _ _ ?_
    clear hK K
    have hgr : W0.grownBy w3 sv.ownBlock := grown_trans (grown_trans (b := W0.drew) ⟨rfl, rfl, rfl, Nat.le_refl _, fun _ _ _ => rfl⟩ (World.grownBy_alloc _ _ _)) hgr3
    have hz := HH1.out.push (-1) hgr hown3 (hg3.imp id (fun e => by rw [e]; exact Nat.le_succ _)) hl
    have HZ := hide hz
    have kg : w3.cell? ⟨H, 1, none⟩ = some sv ∧ w3.frozen? ⟨H, 1, none⟩ = false := by
      have hne : some H ≠ sv.ownBlock := fun e => by
        obtain ⟨c, hc⟩ := row_tag HH1.out.row e.symm
        exact tags_ne hc HH1.out.blk (by decide) rfl
      have hbk := hgr.block H dl hne
      exact ⟨(World.cell?_of_block (w := W0) (a := ⟨H, 1, none⟩) hbk).trans d1, (World.frozen?_of_block (w := W0) (a := ⟨H, 1, none⟩) hbk).trans df⟩
    obtain ⟨kg1, kg2⟩ := kg
    clear hz hgr hown3 hgr3 hg3 d1 df n0 n1 n2 nf
    refine wt 8 (.pointer (some ⟨H, 0, none⟩)) ?_
    refine wt 9 (.pointer (some ⟨H, 1, none⟩)) ?_
    refine wr1 10 fun K hK => ?_
    go_simp
    refine hK _ _ ?_
    clear hK K
    refine wpAny_done (by kernel_rfl) ?_ _
    go_simp
    go_wp2_with fail
    go_ret
    exact ⟨rfl, ⟨_, HZ.out.1⟩, (Fr.of HB0.out (Nat.le_of_lt hH)).trans HZ.out.2⟩
theorem scope_in {H : Nat} {w : World} {L : List Sc} {sv : Value} {vs : List Value} (h : HR H w L sv vs) (hl : L.length < 100) (k : Nat) (hk : k < L.length) :
    Calls Tryd.prog 12 #[hP H, .int .i64 (k : Int), .int .i64 (-1)] w fun e w' => e = .returned (.int .i64 (L.length : Int)) ∧ (∃ sv', HR H w' (L ++ [⟨(k : Int), []⟩]) sv' (vs ++ [.slice none 0 0])) ∧ Fr H w w' := by
  have hH : H < w.heap.size := lt_of_block h.blk
  obtain ⟨c0, c1, cf, cl⟩ := h.c0
  have HH := hide h
  obtain ⟨g, cap, hsv⟩ : ∃ g cap, sv = .slice (some ⟨g, 0, none⟩) L.length cap := by
    rcases row_form h.row with ⟨_, hn⟩ | h
    · omega
    · exact h
  have HC := hide (at_in g cap L.length k hk (w.alloc (.cells #[.int .i64 (k : Int), .int .i64 (-1), .slice none 0 0] 57)))
  rw [← hsv] at HC
  clear hsv
  have HD := hide (at_none (-1) (w.alloc (.cells #[.int .i64 (k : Int), .int .i64 (-1), .slice none 0 0] 57)))
  clear h
  unfold hP
  go_enter Tryd.func12, Tryd.ntmps12
  go_wp2_with fail
  refine Calls.mono HC.out ?_
  rintro e w1 ⟨rfl, hw⟩
  rw [hw]
  clear hw
  go_wp2_with fail
  refine Calls.mono HD.out ?_
  rintro e w1 ⟨rfl, hw⟩
  rw [hw]
  clear hw
  go_wp2_with fail
  obtain ⟨ii, hi0, hz0, hz1, hz2⟩ := info_parts info46
  obtain ⟨W0, hW0⟩ : ∃ W0, W0 = w.alloc (.cells #[.int .i64 (k : Int), .int .i64 (-1), .slice none 0 0] 57) := ⟨_, rfl⟩
  have hb0 : Below w.heap.size w W0 := by rw [hW0]; exact (Below.refl _ _).alloc (Nat.le_refl _) _
  have HB0 := hide hb0
  have HH1 := hide (HH.out.later hb0)
  obtain ⟨n0, n1, n2, nf, nl⟩ := new3 (w1 := W0) (by rw [hW0]; exact Below.refl _ _)
  obtain ⟨d0, d1, df, dl⟩ := HH1.out.c0
  rw [← hW0]
  have HROW := hide HH1.out.row
  clear hW0 hb0 c0 c1 cf cl HC HD d0
  refine wp_region_any (by kernel_rfl) ?_
  change wpAny _ _ _ _ _ _ _ (World.drew _)
  refine wt 0 (.pointer (some ⟨H, 0, none⟩)) ?_
  refine wt 1 (.pointer (some ⟨H, 0, none⟩)) ?_
  refine wt 2 (.pointer (some ⟨H, 0, none⟩)) ?_
  refine wt 3 (.pointer (some ⟨H, 1, none⟩)) ?_
  refine wr2 4 5 (fun K hK => ?ca) fun K hK => ?cb
  case' ca =>
    go_simp
    refine hK _ _ ?_
    clear hK K
    refine wr1 5 fun K hK => ?_
    go_simp
    refine hK _ _ ?_
    clear hK K
    refine wr1 6 fun K hK => ?_
    go_simp
    refine hK _ _ ?_
    clear hK K
  case' cb =>
    go_simp
    refine hK _ _ ?_
    clear hK K
    refine wr2 4 6 (fun K hK => ?cc) fun K hK => ?cd
  case' cc =>
    go_simp
    refine hK _ _ ?_
    clear hK K
    refine wr1 6 fun K hK => ?_
    go_simp
    refine hK _ _ ?_
    clear hK K
  case' cd =>
    go_simp
    refine hK _ _ ?_
    clear hK K
    refine wr1 4 fun K hK => ?_
    go_simp
    refine hK _ _ ?_
    clear hK K
  all_goals
    refine wr1 7 fun K hK => ?_
    refine step_append_lies _ rfl _ _ 23 rfl H 57 ii _ 3 40 Tryd.underlying23 hi0 hz0 hz1 hz2 rfl (by decide) _ _ _ rfl (HROW.out.drew.alloc _) ⟨W0.heap.size, 0, none⟩ 1 1 [.int .i64 (k : Int), .int .i64 (-1), .slice none 0 0] rfl rfl (new3_cells _ _ rfl _ _ _) (new3_one _ _) (by decide) (by unfold maxLen; omega) (by omega) (by simp; omega) (W0.heap.size + 1) (by simp) ?_
    intro gn capn w3 hown3 hgr3 hg3 _
    refine hK _ _ ?_
    clear hK K
    have hgr : W0.grownBy w3 sv.ownBlock := grown_trans (grown_trans (b := W0.drew) ⟨rfl, rfl, rfl, Nat.le_refl _, fun _ _ _ => rfl⟩ (World.grownBy_alloc _ _ _)) hgr3
    have hz := HH1.out.push (k : Int) hgr hown3 (hg3.imp id (fun e => by rw [e]; exact Nat.le_succ _)) hl
    have HZ := hide hz
    have kg : w3.cell? ⟨H, 1, none⟩ = some sv ∧ w3.frozen? ⟨H, 1, none⟩ = false := by
      have hne : some H ≠ sv.ownBlock := fun e => by
        obtain ⟨c, hc⟩ := row_tag HH1.out.row e.symm
        exact tags_ne hc HH1.out.blk (by decide) rfl
      have hbk := hgr.block H dl hne
      exact ⟨(World.cell?_of_block (w := W0) (a := ⟨H, 1, none⟩) hbk).trans d1, (World.frozen?_of_block (w := W0) (a := ⟨H, 1, none⟩) hbk).trans df⟩
    obtain ⟨kg1, kg2⟩ := kg
    clear hz hgr hown3 hgr3 hg3 d1 df n0 n1 n2 nf
    refine wt 8 (.pointer (some ⟨H, 0, none⟩)) ?_
    refine wt 9 (.pointer (some ⟨H, 1, none⟩)) ?_
    refine wr1 10 fun K hK => ?_
    go_simp
    refine hK _ _ ?_
    clear hK K
    refine wpAny_done (by kernel_rfl) ?_ _
    go_simp
    go_wp2_with fail
    go_ret
    exact ⟨rfl, ⟨_, HZ.out.1⟩, (Fr.of HB0.out (Nat.le_of_lt hH)).trans HZ.out.2⟩

theorem of_any (n : Int) (w : World) : Calls Tryd.prog 6 #[.int .i64 n] w fun e w' => e = .returned (.agg #[.int .i64 3, .int .i64 n, .string ⟨#[]⟩]) ∧ Below w.heap.size w w' := by
  go_enter Tryd.func6, Tryd.ntmps6
  go_wp2
  exact bodyPost_ret (v := .agg #[.int .i64 3, .int .i64 n, .string ⟨#[]⟩]) (by simp [results, Tryd.results6, go_sem]) rfl ⟨rfl, (Below.refl _ _).alloc (Nat.le_refl _) _⟩
theorem say_any (s : ByteArray) (w : World) : Calls Tryd.prog 10 #[.string s] w fun e w' => e = .returned (.agg #[.int .i64 4, .int .i64 0, .string s]) ∧ Below w.heap.size w w' := by
  go_enter Tryd.func10, Tryd.ntmps10
  go_wp2
  exact bodyPost_ret (v := .agg #[.int .i64 4, .int .i64 0, .string s]) (by simp [results, Tryd.results10, go_sem]) rfl ⟨rfl, (Below.refl _ _).alloc (Nat.le_refl _) _⟩

theorem hasS_one (s : ByteArray) (o : Int) (b : Bd) : hasS s ⟨o, [b]⟩ = isS s b := by
  cases h : isS s b <;> simp [hasS, firstS, List.findIdx?_cons, h]
theorem firstS_one {s : ByteArray} {b : Bd} (h : isS s b = true) : firstS s [b] = some 0 := by simp [firstS, List.findIdx?_cons, h]
theorem isS_self (s : ByteArray) (a n : Int) (t : ByteArray) (k : Int) (r : Bool) : isS s ⟨s, a, n, t, k, r⟩ = true := by simp [isS]
theorem isS_ab (a n : Int) (t : ByteArray) (k : Int) (r : Bool) : isS ⟨#[98]⟩ ⟨⟨#[97]⟩, a, n, t, k, r⟩ = false := by
  show ((⟨#[97]⟩ : ByteArray).toList == (⟨#[98]⟩ : ByteArray).toList) = false
  kernel_rfl
theorem heaped_any (w : World) : Calls Tryd.prog 13 #[] w fun e w' => e = .returned (.bool true) ∧ Below w.heap.size w w' := by
  have HS0 := hide (HR.start w)
  have HC := hide (scope_first HS0.out (by decide))
  have HF0 := hide ((Below.refl w.heap.size w).alloc (Nat.le_refl _) (.cells #[.slice none 0 0, .slice none 0 0] 25))
  unfold hP at HC
  go_enter Tryd.func13, Tryd.ntmps13
  go_wp2_with fail
  refine Calls.mono HC.out ?_
  rintro e w1 ⟨rfl, ⟨sv1, hh1⟩, hf1⟩
  have HH1 := hide hh1
  have HF1 := hide (HF0.out.trans hf1.below)
  have HO := hide (of_any 3 w1)
  clear hh1 hf1 HC
  go_wp2_with fail
  refine Calls.mono HO.out ?_
  rintro e w2 ⟨rfl, hb2⟩
  have HH2 := hide (HH1.out.later hb2)
  have HF2 := hide (HF1.out.trans (hb2.mono HF1.out.size))
  have HD := hide (declare_0 HH2.out 0 ⟨-1, []⟩ rfl ⟨#[97]⟩ rfl 3 3 ⟨#[]⟩ (by decide))
  unfold hP at HD
  clear hb2 HO
  go_wp2_with fail
  refine Calls.mono HD.out ?_
  rintro e w3 ⟨rfl, ⟨v3, hh3⟩, hf3⟩
  have HH3 := hide hh3
  have HF3 := hide (HF2.out.trans hf3.below)
  have HR_ := hide (read_ok HH3.out 0 ⟨-1, [⟨⟨#[97]⟩, 3, 3, ⟨#[]⟩, 0, true⟩]⟩ rfl ⟨#[97]⟩ 0 _ (firstS_one (by simp [isS])) rfl rfl)
  unfold hP vOf at HR_
  clear hh3 hf3 HD
  go_wp2_with fail
  refine Calls.mono HR_.out ?_
  rintro e w4 ⟨rfl, hb4⟩
  have HH4 := hide (HH3.out.later hb4)
  have HF4 := hide (HF3.out.trans (hb4.mono HF3.out.size))
  clear hb4 HR_
  go_wp2_with fail
  obtain ⟨W5, hW5⟩ : ∃ W5, W5 = w4.alloc (.cells #[.int .i64 3, .int .i64 3, .string ⟨#[]⟩] 28) := ⟨_, rfl⟩
  have hb5 : Below w4.heap.size w4 W5 := by rw [hW5]; exact (Below.refl _ _).alloc (Nat.le_refl _) _
  have HH5 := hide (HH4.out.later hb5)
  have HF5 := hide (HF4.out.trans (hb5.mono HF4.out.size))
  obtain ⟨n0, n1, n2, nf, nl⟩ := new3 (w1 := W5) (by rw [hW5]; exact Below.refl _ _)
  have HN : Hid (∀ W, Below W5.heap.size W5 W → W.cell? ⟨w4.heap.size, 0, none⟩ = some (.int .i64 3) ∧ W.cell? ⟨w4.heap.size, 1, none⟩ = some (.int .i64 3) ∧ W.cell? ⟨w4.heap.size, 2, none⟩ = some (.string ⟨#[]⟩)) := fun W hW =>
    ⟨(cell_below hW (a := ⟨w4.heap.size, 0, none⟩) nl).trans n0, (cell_below hW (a := ⟨w4.heap.size, 1, none⟩) nl).trans n1, (cell_below hW (a := ⟨w4.heap.size, 2, none⟩) nl).trans n2⟩
  rw [← hW5]
  clear hW5 hb5 n0 n1 n2 nf nl
  have HS := hide (Below.refl W5.heap.size W5).drew
  refine wp_region_held (S := fun W => Below W5.heap.size W5 W) (by kernel_rfl) ?_
  change wpAnyH _ _ _ _ _ _ _ _ (World.drew _)
  refine wh 0 (.nilIface) HS.out ?_
  refine wh 1 (.bool true) HS.out ?_
  refine wh 2 (.bool true) HS.out ?_
  refine wh 3 (.nilIface) HS.out ?_
  refine wh 4 (.bool true) HS.out ?_
  refine wh 5 (.bool true) HS.out ?_
  refine wh 6 (.bool true) HS.out ?_
  refine wg 7 (.agg #[.int .i64 3, .int .i64 3, .string ⟨#[]⟩]) rfl (Or.inl ⟨by kernel_rfl, fun W hW => by obtain ⟨q0, q1, q2⟩ := HN.out W hW; go_simp⟩) HS.out ?_
  refine wq1 8 fun K hK => ?_
  go_simp
  refine Calls.mono (of_any 3 W5.drew) ?_
  rintro e w6 ⟨rfl, hb6⟩
  have HS6 : Hid (Below W5.heap.size W5 w6) := HS.out.trans hb6
  refine hK.out _ _ HS6.out (fun _ => ?_)
  clear hK K hb6
  refine wh 9 (.bool true) HS6.out ?_
  refine wh 10 (.bool true) HS6.out ?_
  refine wh 11 (.bool true) HS6.out ?_
  refine wh 12 (.int .i64 0) HS6.out ?_
  refine wh 14 (.int .i64 0) HS6.out ?_
  refine wq1 13 fun K hK => ?_
  go_simp
  have HA := hide (find_any (HH5.out.later HS6.out) 0 0 ⟨#[97]⟩ (Finds.here 0 ⟨-1, [⟨⟨#[97]⟩, 3, 3, ⟨#[]⟩, 0, true⟩]⟩ rfl (by rw [hasS_one]; exact isS_self _ _ _ _ _ _)))
  unfold hP at HA
  refine Calls.mono HA.out ?_
  rintro e w7 ⟨rfl, hb7⟩
  have HS7 : Hid (Below W5.heap.size W5 w7) := HS6.out.trans (hb7.mono HS6.out.size)
  refine hK.out _ _ HS7.out (fun _ => ?_)
  clear hK K hb7 HA
  refine wh 15 (.bool true) HS7.out ?_
  refine wh 16 (.bool true) HS7.out ?_
  refine wh 17 (.bool true) HS7.out ?_
  refine wh 18 (.int .i64 0) HS7.out ?_
  refine wq1 19 fun K hK => ?_
  go_simp
  have HA := hide (find_any (HH5.out.later HS7.out) 0 (-1) ⟨#[98]⟩ (Finds.on 0 ⟨-1, [⟨⟨#[97]⟩, 3, 3, ⟨#[]⟩, 0, true⟩]⟩ _ rfl (by rw [hasS_one]; exact isS_ab _ _ _ _ _) (by decide) (Finds.out _ (.inl (by decide)))))
  unfold hP at HA
  refine Calls.mono HA.out ?_
  rintro e w8 ⟨rfl, hb8⟩
  have HS8 : Hid (Below W5.heap.size W5 w8) := HS7.out.trans (hb8.mono HS7.out.size)
  refine hK.out _ _ HS8.out (fun _ => ?_)
  clear hK K hb8 HA
  refine wh 20 (.bool true) HS8.out ?_
  refine wh 21 (.bool true) HS8.out ?_
  refine wh 22 (.bool true) HS8.out ?_
  refine wpAnyH_done (by kernel_rfl) ?_ _
  go_simp
  go_wp2_with fail
  go_ret
  exact ⟨rfl, HF5.out.trans (HS8.out.mono HF5.out.size)⟩

theorem declare_1 {H : Nat} {w : World} {L : List Sc} {sv : Value} {vs : List Value} (h : HR H w L sv vs) (i : Nat) (s : Sc) (hi : L[i]? = some s) (nm : ByteArray) (hk : firstS nm s.bs = none) (a n : Int) (t : ByteArray) (hl : s.bs.length < 100) :
    Calls Tryd.prog 14 #[hP H, .int .i64 (i : Int), .string nm, (.int .i64 1), .agg #[.int .i64 a, .int .i64 n, .string t]] w fun e w' => e = .returned .nilIface ∧ (∃ v', HR H w' (L.set i ⟨s.outer, s.bs ++ [⟨nm, a, n, t, 1, false⟩]⟩) sv (vs.set i v')) ∧ Fr H w w' := by
  obtain ⟨W0, hW0⟩ : ∃ W0, W0 = w.alloc (.cells #[.int .i64 a, .int .i64 n, .string t] 28) := ⟨_, rfl⟩
  have hb0 : Below w.heap.size w W0 := by rw [hW0]; exact (Below.refl _ _).alloc (Nat.le_refl _) _
  have hsz : W0.heap.size = w.heap.size + 1 := by rw [hW0]; simp
  have h0 := h.later hb0
  have HWL := hide (lt_of_block h.blk)
  have HH0 := hide h0
  have HI := hide hi
  have HK := hide hk
  have HLN := hide hl
  have HB0 := hide hb0
  have HSZ := hide hsz
  have HN : Hid (∀ w1, Below W0.heap.size W0 w1 → Below (w.heap.size + 1) (w.alloc (.cells #[.int .i64 a, .int .i64 n, .string t] 28)) w1) := fun w1 hb => by rw [← hW0, ← hsz]; exact hb
  obtain ⟨c0, c1, cf, cl⟩ := HH0.out.c0
  obtain ⟨g, cap, v, rfl, hlt, hv, k0, k1, k2, hrow, hg, hHg, _⟩ := HH0.out.at_ HI.out
  have HC := hide (at_in g cap L.length i hlt W0)
  have HD := hide (bind_any g (i * 3) v s.bs H nm W0 k2 hrow (Nat.le_trans (HH0.out.smalls i s HI.out) (by decide)))
  rw [HK.out, show bptr v none = none from bptr_none v] at HD
  have HV := hide hv
  have hHw : H < w.heap.size := HWL.out
  have hW0' := hide hW0
  rw [hW0] at c1
  rw [World.cell?_alloc_lt _ _ _ (by exact hHw)] at c1
  clear h hi hk h0 hb0 hsz k0 k2 hrow hv hl c0 cf hW0
  unfold hP
  go_enter Tryd.func14, Tryd.ntmps14
  go_wp2_with fail
  rw [← hW0'.out]
  refine Calls.mono HC.out ?_
  rintro e w1 ⟨rfl, hw⟩
  rw [hw]
  clear hw c1
  go_wp2_with fail
  refine Calls.mono HD.out ?_
  rintro e w1 ⟨rfl, hb1⟩
  have HH1 := hide (HH0.out.later hb1)
  have HB1 := hide hb1
  obtain ⟨n0, n1, n2, nf, nl⟩ := new3 (HN.out _ HB1.out)
  obtain ⟨g', cap', v', hsv, _, hv2, k0, k1, k2, hrow, hg1, _, kf⟩ := HH1.out.at_ HI.out
  simp only [Value.slice.injEq, Option.some.injEq, Addr.mk.injEq, and_true, true_and] at hsv
  obtain ⟨rfl, rfl⟩ := hsv
  rw [HV.out] at hv2
  cases hv2
  have HROW := hide hrow
  obtain ⟨ii, hi0, hz0, hz1, hz2⟩ := info_parts info58
  have hH1 : H < w1.heap.size := lt_of_block HH1.out.blk
  have hl := HLN.out
  clear hb1 hrow HC HD
  go_wp2_with fail
  refine wp_region_any (by kernel_rfl) ?_
  change wpAny _ _ _ _ _ _ _ (World.drew _)
  refine wt 0 (.pointer (some ⟨g, i * 3, none⟩)) ?_
  refine wt 1 (.pointer (some ⟨g, i * 3, none⟩)) ?_
  refine wt 2 (.pointer (some ⟨g, i * 3, none⟩)) ?_
  refine wt 3 (.pointer (some ⟨g, i * 3 + 2, none⟩)) ?_
  refine wt 5 (.string nm) ?_
  refine wt 7 (.int .i64 1) ?_
  refine wt 8 (.bool false) ?_
  refine wr2 4 6 (fun K hK => ?ca) fun K hK => ?cb
  case' ca =>
    go_simp
    refine hK _ _ ?_
    clear hK K
    refine wr1 6 fun K hK => ?_
    go_simp
    refine hK _ _ ?_
    clear hK K
    refine wt 9 (.agg #[.string nm, .int .i64 a, .int .i64 n, .string t, .int .i64 1, .bool false]) ?_
    refine wr1 10 fun K hK => ?_
    go_simp
    refine hK _ _ ?_
    clear hK K
  case' cb =>
    go_simp
    refine hK _ _ ?_
    clear hK K
    refine wt 9 (.agg #[.string nm, .int .i64 a, .int .i64 n, .string t, .int .i64 1, .bool false]) ?_
    refine wr2 4 10 (fun K hK => ?cc) fun K hK => ?cd
  case' cc =>
    go_simp
    refine hK _ _ ?_
    clear hK K
    refine wr1 10 fun K hK => ?_
    go_simp
    refine hK _ _ ?_
    clear hK K
  case' cd =>
    go_simp
    refine hK _ _ ?_
    clear hK K
    refine wr1 4 fun K hK => ?_
    go_simp
    refine hK _ _ ?_
    clear hK K
  all_goals
    refine wr1 11 fun K hK => ?_
    refine step_append_lies _ rfl _ _ 55 rfl H 66 ii _ 6 64 Tryd.underlying55 hi0 hz0 hz1 hz2 rfl (by decide) _ _ _ rfl (HROW.out.drew.alloc _) ⟨w1.heap.size, 0, none⟩ 1 1 [.string nm, .int .i64 a, .int .i64 n, .string t, .int .i64 1, .bool false] rfl rfl (new6_cells _ _ rfl _ _ _ _ _ _) (new6_one _ _ _ _ _ _) (by decide) (by unfold maxLen; omega) (by omega) (by simp; omega) (w1.heap.size + 1) (by simp) ?_
    intro gn capn w3 hown3 hgr3 hg3 _
    refine hK _ _ ?_
    clear hK K
    have hgr : w1.grownBy w3 v.ownBlock := grown_trans (grown_trans (b := w1.drew) ⟨rfl, rfl, rfl, Nat.le_refl _, fun _ _ _ => rfl⟩ (World.grownBy_alloc _ _ _)) hgr3
    have hz := HH1.out.put HI.out HV.out hgr (v' := .slice (some ⟨gn, 0, none⟩) (s.bs.length + 1) capn) (bs' := s.bs ++ [⟨nm, a, n, t, 1, false⟩]) (by rw [rowB_snoc]; simpa [Bd.cells] using hown3) (hg3.imp (fun e => e.symm) (fun e => ⟨gn, rfl, by rw [e]; exact Nat.le_succ _⟩)) (by simp; omega)
    have HZ := hide hz
    have kg : w3.cell? ⟨g, i * 3 + 2, none⟩ = some v ∧ w3.frozen? ⟨g, i * 3 + 2, none⟩ = false := by
      have hne : some g ≠ v.ownBlock := fun e => by
        obtain ⟨_, _, hnn⟩ := HH1.out.ne HV.out
        exact (hnn g e.symm).2.2.1 rfl
      have hbk := hgr.block g hg1 hne
      exact ⟨(World.cell?_of_block (w := w1) (a := ⟨g, i * 3 + 2, none⟩) hbk).trans k2, (World.frozen?_of_block (w := w1) (a := ⟨g, i * 3 + 2, none⟩) hbk).trans kf⟩
    obtain ⟨kg1, kg2⟩ := kg
    clear hz hgr hown3 hgr3 hg3 k0 k1 k2 kf n0 n1 n2 nf
    refine wt 12 (.pointer (some ⟨g, i * 3, none⟩)) ?_
    refine wt 13 (.pointer (some ⟨g, i * 3 + 2, none⟩)) ?_
    refine wr1 14 fun K hK => ?_
    go_simp
    refine hK _ _ ?_
    clear hK K
    refine wpAny_done (by kernel_rfl) ?_ _
    go_simp
    go_wp2_with fail
    go_ret
    exact ⟨rfl, ⟨_, HZ.out.1⟩, ((Fr.of HB0.out (Nat.le_of_lt HWL.out)).trans (Fr.of HB1.out (Nat.le_of_lt cl))).trans HZ.out.2⟩
theorem declare_2 {H : Nat} {w : World} {L : List Sc} {sv : Value} {vs : List Value} (h : HR H w L sv vs) (i : Nat) (s : Sc) (hi : L[i]? = some s) (nm : ByteArray) (hk : firstS nm s.bs = none) (a n : Int) (t : ByteArray) (hl : s.bs.length < 100) :
    Calls Tryd.prog 14 #[hP H, .int .i64 (i : Int), .string nm, (.int .i64 2), .agg #[.int .i64 a, .int .i64 n, .string t]] w fun e w' => e = .returned .nilIface ∧ (∃ v', HR H w' (L.set i ⟨s.outer, s.bs ++ [⟨nm, a, n, t, 2, false⟩]⟩) sv (vs.set i v')) ∧ Fr H w w' := by
  obtain ⟨W0, hW0⟩ : ∃ W0, W0 = w.alloc (.cells #[.int .i64 a, .int .i64 n, .string t] 28) := ⟨_, rfl⟩
  have hb0 : Below w.heap.size w W0 := by rw [hW0]; exact (Below.refl _ _).alloc (Nat.le_refl _) _
  have hsz : W0.heap.size = w.heap.size + 1 := by rw [hW0]; simp
  have h0 := h.later hb0
  have HWL := hide (lt_of_block h.blk)
  have HH0 := hide h0
  have HI := hide hi
  have HK := hide hk
  have HLN := hide hl
  have HB0 := hide hb0
  have HSZ := hide hsz
  have HN : Hid (∀ w1, Below W0.heap.size W0 w1 → Below (w.heap.size + 1) (w.alloc (.cells #[.int .i64 a, .int .i64 n, .string t] 28)) w1) := fun w1 hb => by rw [← hW0, ← hsz]; exact hb
  obtain ⟨c0, c1, cf, cl⟩ := HH0.out.c0
  obtain ⟨g, cap, v, rfl, hlt, hv, k0, k1, k2, hrow, hg, hHg, _⟩ := HH0.out.at_ HI.out
  have HC := hide (at_in g cap L.length i hlt W0)
  have HD := hide (bind_any g (i * 3) v s.bs H nm W0 k2 hrow (Nat.le_trans (HH0.out.smalls i s HI.out) (by decide)))
  rw [HK.out, show bptr v none = none from bptr_none v] at HD
  have HV := hide hv
  have hHw : H < w.heap.size := HWL.out
  have hW0' := hide hW0
  rw [hW0] at c1
  rw [World.cell?_alloc_lt _ _ _ (by exact hHw)] at c1
  clear h hi hk h0 hb0 hsz k0 k2 hrow hv hl c0 cf hW0
  unfold hP
  go_enter Tryd.func14, Tryd.ntmps14
  go_wp2_with fail
  rw [← hW0'.out]
  refine Calls.mono HC.out ?_
  rintro e w1 ⟨rfl, hw⟩
  rw [hw]
  clear hw c1
  go_wp2_with fail
  refine Calls.mono HD.out ?_
  rintro e w1 ⟨rfl, hb1⟩
  have HH1 := hide (HH0.out.later hb1)
  have HB1 := hide hb1
  obtain ⟨n0, n1, n2, nf, nl⟩ := new3 (HN.out _ HB1.out)
  obtain ⟨g', cap', v', hsv, _, hv2, k0, k1, k2, hrow, hg1, _, kf⟩ := HH1.out.at_ HI.out
  simp only [Value.slice.injEq, Option.some.injEq, Addr.mk.injEq, and_true, true_and] at hsv
  obtain ⟨rfl, rfl⟩ := hsv
  rw [HV.out] at hv2
  cases hv2
  have HROW := hide hrow
  obtain ⟨ii, hi0, hz0, hz1, hz2⟩ := info_parts info58
  have hH1 : H < w1.heap.size := lt_of_block HH1.out.blk
  have hl := HLN.out
  clear hb1 hrow HC HD
  go_wp2_with fail
  refine wp_region_any (by kernel_rfl) ?_
  change wpAny _ _ _ _ _ _ _ (World.drew _)
  refine wt 0 (.pointer (some ⟨g, i * 3, none⟩)) ?_
  refine wt 1 (.pointer (some ⟨g, i * 3, none⟩)) ?_
  refine wt 2 (.pointer (some ⟨g, i * 3, none⟩)) ?_
  refine wt 3 (.pointer (some ⟨g, i * 3 + 2, none⟩)) ?_
  refine wt 5 (.string nm) ?_
  refine wt 7 (.int .i64 2) ?_
  refine wt 8 (.bool false) ?_
  refine wr2 4 6 (fun K hK => ?ca) fun K hK => ?cb
  case' ca =>
    go_simp
    refine hK _ _ ?_
    clear hK K
    refine wr1 6 fun K hK => ?_
    go_simp
    refine hK _ _ ?_
    clear hK K
    refine wt 9 (.agg #[.string nm, .int .i64 a, .int .i64 n, .string t, .int .i64 2, .bool false]) ?_
    refine wr1 10 fun K hK => ?_
    go_simp
    refine hK _ _ ?_
    clear hK K
  case' cb =>
    go_simp
    refine hK _ _ ?_
    clear hK K
    refine wt 9 (.agg #[.string nm, .int .i64 a, .int .i64 n, .string t, .int .i64 2, .bool false]) ?_
    refine wr2 4 10 (fun K hK => ?cc) fun K hK => ?cd
  case' cc =>
    go_simp
    refine hK _ _ ?_
    clear hK K
    refine wr1 10 fun K hK => ?_
    go_simp
    refine hK _ _ ?_
    clear hK K
  case' cd =>
    go_simp
    refine hK _ _ ?_
    clear hK K
    refine wr1 4 fun K hK => ?_
    go_simp
    refine hK _ _ ?_
    clear hK K
  all_goals
    refine wr1 11 fun K hK => ?_
    refine step_append_lies _ rfl _ _ 55 rfl H 66 ii _ 6 64 Tryd.underlying55 hi0 hz0 hz1 hz2 rfl (by decide) _ _ _ rfl (HROW.out.drew.alloc _) ⟨w1.heap.size, 0, none⟩ 1 1 [.string nm, .int .i64 a, .int .i64 n, .string t, .int .i64 2, .bool false] rfl rfl (new6_cells _ _ rfl _ _ _ _ _ _) (new6_one _ _ _ _ _ _) (by decide) (by unfold maxLen; omega) (by omega) (by simp; omega) (w1.heap.size + 1) (by simp) ?_
    intro gn capn w3 hown3 hgr3 hg3 _
    refine hK _ _ ?_
    clear hK K
    have hgr : w1.grownBy w3 v.ownBlock := grown_trans (grown_trans (b := w1.drew) ⟨rfl, rfl, rfl, Nat.le_refl _, fun _ _ _ => rfl⟩ (World.grownBy_alloc _ _ _)) hgr3
    have hz := HH1.out.put HI.out HV.out hgr (v' := .slice (some ⟨gn, 0, none⟩) (s.bs.length + 1) capn) (bs' := s.bs ++ [⟨nm, a, n, t, 2, false⟩]) (by rw [rowB_snoc]; simpa [Bd.cells] using hown3) (hg3.imp (fun e => e.symm) (fun e => ⟨gn, rfl, by rw [e]; exact Nat.le_succ _⟩)) (by simp; omega)
    have HZ := hide hz
    have kg : w3.cell? ⟨g, i * 3 + 2, none⟩ = some v ∧ w3.frozen? ⟨g, i * 3 + 2, none⟩ = false := by
      have hne : some g ≠ v.ownBlock := fun e => by
        obtain ⟨_, _, hnn⟩ := HH1.out.ne HV.out
        exact (hnn g e.symm).2.2.1 rfl
      have hbk := hgr.block g hg1 hne
      exact ⟨(World.cell?_of_block (w := w1) (a := ⟨g, i * 3 + 2, none⟩) hbk).trans k2, (World.frozen?_of_block (w := w1) (a := ⟨g, i * 3 + 2, none⟩) hbk).trans kf⟩
    obtain ⟨kg1, kg2⟩ := kg
    clear hz hgr hown3 hgr3 hg3 k0 k1 k2 kf n0 n1 n2 nf
    refine wt 12 (.pointer (some ⟨g, i * 3, none⟩)) ?_
    refine wt 13 (.pointer (some ⟨g, i * 3 + 2, none⟩)) ?_
    refine wr1 14 fun K hK => ?_
    go_simp
    refine hK _ _ ?_
    clear hK K
    refine wpAny_done (by kernel_rfl) ?_ _
    go_simp
    go_wp2_with fail
    go_ret
    exact ⟨rfl, ⟨_, HZ.out.1⟩, ((Fr.of HB0.out (Nat.le_of_lt HWL.out)).trans (Fr.of HB1.out (Nat.le_of_lt cl))).trans HZ.out.2⟩

theorem read_not {H : Nat} {w : World} {L : List Sc} {sv : Value} {vs : List Value} (h : HR H w L sv vs) (i : Nat) (s : Sc) (hi : L[i]? = some s) (nm : ByteArray) (k : Nat) (b : Bd) (hk : firstS nm s.bs = some k) (hb : s.bs[k]? = some b) (hr : b.ready = false) :
    Calls Tryd.prog 15 #[hP H, .int .i64 (i : Int), .string nm] w fun e w' => e = .returned (.tuple #[noVal, (.iface 44 (.int .i64 6))]) ∧ Below w.heap.size w w' := by
  obtain ⟨h0, h1, hf, hl⟩ := h.c0
  obtain ⟨g, cap, v, rfl, hlt, hv, k0, k1, k2, hrow, hg, hHg, _⟩ := h.at_ hi
  have HC := hide (at_in g cap L.length i hlt (w.alloc vZ))
  have hrow' := hrow.alloc vZ
  have k2' : (w.alloc vZ).cell? ⟨g, i * 3 + 2, none⟩ = some v := by rw [World.cell?_alloc_lt _ _ _ hg]; exact k2
  have HD := hide (bind_any g (i * 3) v s.bs H nm (w.alloc vZ) k2' hrow' (Nat.le_trans (h.smalls i s hi) (by decide)))
  obtain ⟨gb, capb, rfl, hkl, -⟩ := bd_cells hrow hb
  have HROW := hide hrow'
  rw [hk] at HD
  have HBB := hide hb
  have HRR := hide hr
  clear h hi k0 k1 k2 k2' hrow hrow' hk hb hr
  unfold hP
  unfold vZ at HC HD HROW
  simp only [bptr] at HD
  go_enter Tryd.func15, Tryd.ntmps15
  go_wp2_with fail
  refine Calls.mono HC.out ?_
  rintro e w' ⟨rfl, rfl⟩
  go_wp2_with fail
  refine Calls.mono HD.out ?_
  rintro e w1 ⟨rfl, hb⟩
  obtain ⟨n0, n1, n2, nf, nl⟩ := new3 (hb.mono (by simp))
  obtain ⟨g', cap', hv', _, c0, c1, c2, c3, c4, c5, hgl, _, cf⟩ := bd_cells (row_later HROW.out hb) HBB.out
  simp only [Value.slice.injEq, Option.some.injEq, Addr.mk.injEq, and_true, true_and] at hv'
  obtain ⟨rfl, rfl⟩ := hv'
  rw [HRR.out] at c5
  have HB := hide (((Below.refl _ w).alloc (Nat.le_refl _) _).trans (hb.mono (by simp)))
  clear hb HC HD HROW
  go_wp2_with fail
  refine bodyPost_ret (v := .tuple #[noVal, (.iface 44 (.int .i64 6))]) (by simp [results, Tryd.results15, go_sem, noVal, n0, n1, n2]) rfl ⟨rfl, ?_⟩
  exact below3 HB.out (Nat.le_refl _) _ _ _
theorem write_state {H : Nat} {w : World} {L : List Sc} {sv : Value} {vs : List Value} (h : HR H w L sv vs) (i : Nat) (s : Sc) (hi : L[i]? = some s) (nm : ByteArray) (k : Nat) (b : Bd) (hk : firstS nm s.bs = some k) (hb : s.bs[k]? = some b) (hr : b.ready = false) (a n : Int) (t : ByteArray) :
    Calls Tryd.prog 16 #[hP H, .int .i64 (i : Int), .string nm, .agg #[.int .i64 a, .int .i64 n, .string t]] w fun e w' => e = .returned (.iface 44 (.int .i64 6)) ∧ Below w.heap.size w w' := by
  obtain ⟨W0, hW0⟩ : ∃ W0, W0 = w.alloc (.cells #[.int .i64 a, .int .i64 n, .string t] 28) := ⟨_, rfl⟩
  have hb0 : Below w.heap.size w W0 := by rw [hW0]; exact (Below.refl _ _).alloc (Nat.le_refl _) _
  have hsz : W0.heap.size = w.heap.size + 1 := by rw [hW0]; simp
  have h0 := h.later hb0
  have HWL := hide (lt_of_block h.blk)
  have HS := hide (has_any h0 i s hi nm)
  rw [show hasS nm s = true by simp [hasS, hk]] at HS
  have HH0 := hide h0
  have HI := hide hi
  have HK := hide hk
  have HBB := hide hb
  have HRR := hide hr
  have HB0 := hide hb0
  have HSZ := hide hsz
  have HN : Hid (∀ w1, Below W0.heap.size W0 w1 → Below (w.heap.size + 1) (w.alloc (.cells #[.int .i64 a, .int .i64 n, .string t] 28)) w1) := fun w1 hb => by rw [← hW0, ← hsz]; exact hb
  clear h hi hk hb hr h0 hb0 hsz
  unfold hP at HS ⊢
  go_enter Tryd.func16, Tryd.ntmps16
  go_wp2_with fail
  rw [← hW0]
  clear hW0
  refine Calls.mono HS.out ?_
  rintro e w1 ⟨rfl, hb1⟩
  have HH1 := hide (HH0.out.later hb1)
  have HB1 := hide hb1
  obtain ⟨c0, c1, cf, cl⟩ := HH1.out.c0
  obtain ⟨g, cap, v, rfl, hlt, hv, k0, k1, k2, hrow, hg, hHg, _⟩ := HH1.out.at_ HI.out
  have HC := hide (at_in g cap L.length i hlt w1)
  have HD := hide (bind_any g (i * 3) v s.bs H nm w1 k2 hrow (Nat.le_trans (HH1.out.smalls i s HI.out) (by decide)))
  obtain ⟨gb, capb, rfl, hkl, -⟩ := bd_cells hrow HBB.out
  rw [HK.out] at HD
  simp only [bptr] at HD
  have HV := hide hv
  have hne : gb ≠ w.heap.size := by
    obtain ⟨_, _, hnn⟩ := HH1.out.ne HV.out
    obtain ⟨_, _, _, cc, hcc⟩ := hnn gb rfl
    intro e
    subst e
    have : w1.heap[w.heap.size]? = some (.cells #[.int .i64 a, .int .i64 n, .string t] 28 (0, 0)) := ((HN.out _ HB1.out).block _ (Nat.lt_succ_self _)).trans (heap_alloc_new w _)
    rw [this] at hcc
    simp at hcc
  clear hb1 k0 k1 k2 hrow hv HS
  go_wp2_with fail
  refine Calls.mono HC.out ?_
  rintro e w2 ⟨rfl, rfl⟩
  go_wp2_with fail
  refine Calls.mono HD.out ?_
  rintro e w2 ⟨rfl, hb2⟩
  have HH2 := hide (HH1.out.later hb2)
  have HB2 := hide (HB1.out.trans (hb2.mono HB1.out.size))
  obtain ⟨n0, n1, n2, nf, nl⟩ := new3 (HN.out _ HB2.out)
  obtain ⟨g', cap', hv', _, d0, d1, d2, d3, d4, d5, hgl, _, df⟩ := bd_cells (HH2.out.own i s _ HI.out HV.out) HBB.out
  simp only [Value.slice.injEq, Option.some.injEq, Addr.mk.injEq, and_true, true_and] at hv'
  obtain ⟨rfl, rfl⟩ := hv'
  rw [HRR.out] at d5
  have HB02 := hide (HB0.out.trans (HB2.out.mono (by rw [HSZ.out]; exact Nat.le_succ _)))
  clear hb2 HC HD
  go_wp2_with fail
  go_ret
  exact ⟨rfl, HB02.out⟩
theorem write_arg {H : Nat} {w : World} {L : List Sc} {sv : Value} {vs : List Value} (h : HR H w L sv vs) (i : Nat) (s : Sc) (hi : L[i]? = some s) (nm : ByteArray) (k : Nat) (b : Bd) (hk : firstS nm s.bs = some k) (hb : s.bs[k]? = some b) (hr : b.ready = true) (h2 : b.kind = 2) (a n : Int) (t : ByteArray) :
    Calls Tryd.prog 16 #[hP H, .int .i64 (i : Int), .string nm, .agg #[.int .i64 a, .int .i64 n, .string t]] w fun e w' => e = .returned (.iface 44 (.int .i64 1)) ∧ Below w.heap.size w w' := by
  obtain ⟨W0, hW0⟩ : ∃ W0, W0 = w.alloc (.cells #[.int .i64 a, .int .i64 n, .string t] 28) := ⟨_, rfl⟩
  have hb0 : Below w.heap.size w W0 := by rw [hW0]; exact (Below.refl _ _).alloc (Nat.le_refl _) _
  have hsz : W0.heap.size = w.heap.size + 1 := by rw [hW0]; simp
  have h0 := h.later hb0
  have HWL := hide (lt_of_block h.blk)
  have HS := hide (has_any h0 i s hi nm)
  rw [show hasS nm s = true by simp [hasS, hk]] at HS
  have HH0 := hide h0
  have HI := hide hi
  have HK := hide hk
  have HBB := hide hb
  have HRR := hide hr
  have HB0 := hide hb0
  have HSZ := hide hsz
  have HN : Hid (∀ w1, Below W0.heap.size W0 w1 → Below (w.heap.size + 1) (w.alloc (.cells #[.int .i64 a, .int .i64 n, .string t] 28)) w1) := fun w1 hb => by rw [← hW0, ← hsz]; exact hb
  clear h hi hk hb hr h0 hb0 hsz
  unfold hP at HS ⊢
  go_enter Tryd.func16, Tryd.ntmps16
  go_wp2_with fail
  rw [← hW0]
  clear hW0
  refine Calls.mono HS.out ?_
  rintro e w1 ⟨rfl, hb1⟩
  have HH1 := hide (HH0.out.later hb1)
  have HB1 := hide hb1
  obtain ⟨c0, c1, cf, cl⟩ := HH1.out.c0
  obtain ⟨g, cap, v, rfl, hlt, hv, k0, k1, k2, hrow, hg, hHg, _⟩ := HH1.out.at_ HI.out
  have HC := hide (at_in g cap L.length i hlt w1)
  have HD := hide (bind_any g (i * 3) v s.bs H nm w1 k2 hrow (Nat.le_trans (HH1.out.smalls i s HI.out) (by decide)))
  obtain ⟨gb, capb, rfl, hkl, -⟩ := bd_cells hrow HBB.out
  rw [HK.out] at HD
  simp only [bptr] at HD
  have HV := hide hv
  have hne : gb ≠ w.heap.size := by
    obtain ⟨_, _, hnn⟩ := HH1.out.ne HV.out
    obtain ⟨_, _, _, cc, hcc⟩ := hnn gb rfl
    intro e
    subst e
    have : w1.heap[w.heap.size]? = some (.cells #[.int .i64 a, .int .i64 n, .string t] 28 (0, 0)) := ((HN.out _ HB1.out).block _ (Nat.lt_succ_self _)).trans (heap_alloc_new w _)
    rw [this] at hcc
    simp at hcc
  clear hb1 k0 k1 k2 hrow hv HS
  go_wp2_with fail
  refine Calls.mono HC.out ?_
  rintro e w2 ⟨rfl, rfl⟩
  go_wp2_with fail
  refine Calls.mono HD.out ?_
  rintro e w2 ⟨rfl, hb2⟩
  have HH2 := hide (HH1.out.later hb2)
  have HB2 := hide (HB1.out.trans (hb2.mono HB1.out.size))
  obtain ⟨n0, n1, n2, nf, nl⟩ := new3 (HN.out _ HB2.out)
  obtain ⟨g', cap', hv', _, d0, d1, d2, d3, d4, d5, hgl, _, df⟩ := bd_cells (HH2.out.own i s _ HI.out HV.out) HBB.out
  simp only [Value.slice.injEq, Option.some.injEq, Addr.mk.injEq, and_true, true_and] at hv'
  obtain ⟨rfl, rfl⟩ := hv'
  rw [HRR.out] at d5
  rw [h2] at d4
  have HB02 := hide (HB0.out.trans (HB2.out.mono (by rw [HSZ.out]; exact Nat.le_succ _)))
  clear hb2 HC HD
  go_wp2_with fail
  go_ret
  exact ⟨rfl, HB02.out⟩

theorem start_ok {H : Nat} {w : World} {L : List Sc} {sv : Value} {vs : List Value} (h : HR H w L sv vs) (i : Nat) (s : Sc) (hi : L[i]? = some s) (nm : ByteArray) (k : Nat) (b : Bd) (hk : firstS nm s.bs = some k) (hb : s.bs[k]? = some b) (a n : Int) (t : ByteArray) :
    Calls Tryd.prog 17 #[hP H, .int .i64 (i : Int), .string nm, .agg #[.int .i64 a, .int .i64 n, .string t]] w fun e w' => e = .returned .nilIface ∧ HR H w' (L.set i ⟨s.outer, s.bs.set k ⟨b.name, a, n, t, b.kind, true⟩⟩) sv vs ∧ Fr H w w' := by
  obtain ⟨W0, hW0⟩ : ∃ W0, W0 = w.alloc (.cells #[.int .i64 a, .int .i64 n, .string t] 28) := ⟨_, rfl⟩
  have hb0 : Below w.heap.size w W0 := by rw [hW0]; exact (Below.refl _ _).alloc (Nat.le_refl _) _
  have hsz : W0.heap.size = w.heap.size + 1 := by rw [hW0]; simp
  have h0 := h.later hb0
  have HWL := hide (lt_of_block h.blk)
  have HH0 := hide h0
  have HI := hide hi
  have HK := hide hk
  have HBB := hide hb
  have HB0 := hide hb0
  have HSZ := hide hsz
  have HN : Hid (∀ w1, Below W0.heap.size W0 w1 → Below (w.heap.size + 1) (w.alloc (.cells #[.int .i64 a, .int .i64 n, .string t] 28)) w1) := fun w1 hb => by rw [← hW0, ← hsz]; exact hb
  obtain ⟨e0, e1, ef, el⟩ := h.c0
  obtain ⟨c0, c1, cf, cl⟩ := HH0.out.c0
  obtain ⟨g, cap, v, rfl, hlt, hv, k0, k1, k2, hrow, hg, hHg, _⟩ := HH0.out.at_ HI.out
  have HC := hide (at_in g cap L.length i hlt W0)
  have HD := hide (bind_any g (i * 3) v s.bs H nm W0 k2 hrow (Nat.le_trans (HH0.out.smalls i s HI.out) (by decide)))
  obtain ⟨gb, capb, rfl, hkl, -⟩ := bd_cells hrow HBB.out
  rw [HK.out] at HD
  simp only [bptr] at HD
  have HV := hide hv
  have hW0' := hide hW0
  clear h hi hk hb h0 hb0 hsz k0 k1 k2 hrow hv c0 c1 cf hW0
  unfold hP
  go_enter Tryd.func17, Tryd.ntmps17
  go_wp2_with fail
  rw [← hW0'.out]
  refine Calls.mono HC.out ?_
  rintro e w1 ⟨rfl, hw⟩
  rw [hw]
  clear hw
  go_wp2_with fail
  refine Calls.mono HD.out ?_
  rintro e w2 ⟨rfl, hb2⟩
  have HH2 := hide (HH0.out.later hb2)
  have HB2 := hide hb2
  obtain ⟨n0, n1, n2, nf, nl⟩ := new3 (HN.out _ HB2.out)
  obtain ⟨g', cap', hv', _, d0, d1, d2, d3, d4, d5, hgl, _, df⟩ := bd_cells (HH2.out.own i s _ HI.out HV.out) HBB.out
  simp only [Value.slice.injEq, Option.some.injEq, Addr.mk.injEq, and_true, true_and] at hv'
  obtain ⟨rfl, rfl⟩ := hv'
  have HB02 := hide (HB0.out.trans (HB2.out.mono (by rw [HSZ.out]; exact Nat.le_succ _)))
  clear hb2 HC HD
  go_wp2_with fail
  go_ret
  have hz := HH2.out.setv HI.out HV.out HBB.out a n t true
  exact ⟨rfl, hz.1, (Fr.of HB02.out (Nat.le_of_lt HWL.out)).trans hz.2⟩
end Go.Proofs.YtopehplicnppfaaDoor
