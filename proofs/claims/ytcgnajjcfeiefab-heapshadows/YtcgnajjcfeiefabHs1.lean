/-
  What is declared.
-/
import Derived.Test.YtcgnajjcfeiefabHs0
import Derived.Deep.AppendLies
import Derived.Lib.SliceRun
set_option maxRecDepth 100000
set_option maxHeartbeats 16000000
namespace Go.Proofs.Ytcgnajjcfeiefab
open Go.RowKit

theorem info58 : (Try.prog.info? 58).map (fun i => (i.zero, i.size, i.bytes)) = some (some (.agg #[.string ⟨#[]⟩, .int .i64 0, .int .i64 0, .string ⟨#[]⟩, .int .i64 0, .bool false]), 6, 64) := by kernel_rfl
theorem new6_cells (w : World) (H : Nat) (hH : w.heap.size = H) (x y : ByteArray) (a b c : Int) (r : Bool) (j : Nat) (u : Value) (h : ([.string x, .int .i64 a, .int .i64 b, .string y, .int .i64 c, .bool r] : List Value)[j]? = some u) :
    (w.alloc (.cells #[.string x, .int .i64 a, .int .i64 b, .string y, .int .i64 c, .bool r] 58)).cell? (Addr.add ⟨H, 0, none⟩ j) = some u := by
  subst hH
  match j, h with
  | 0, h => simp at h; subst h; simp [Addr.add]
  | 1, h => simp at h; subst h; simp [Addr.add]
  | 2, h => simp at h; subst h; simp [Addr.add]
  | 3, h => simp at h; subst h; simp [Addr.add]
  | 4, h => simp at h; subst h; simp [Addr.add]
  | 5, h => simp at h; subst h; simp [Addr.add]
  | k + 6, h => simp at h
theorem new6_one (x y : ByteArray) (a b c : Int) (r : Bool) : ∀ u ∈ ([.string x, .int .i64 a, .int .i64 b, .string y, .int .i64 c, .bool r] : List Value), u.oneCell' = true := by
  intro u hu
  simp at hu
  rcases hu with rfl | rfl | rfl | rfl | rfl | rfl <;> rfl
theorem rowB_snoc (bs : List Bd) (b : Bd) : rowB (bs ++ [b]) = rowB bs ++ b.cells := by simp [rowB]
def readyOf (k : Int) : Bool := decide (k ≠ 1) && decide (k ≠ 2)
theorem declare_0 {H : Nat} {w : World} {L : List Sc} {sv : Value} {vs : List Value} (h : HR H w L sv vs) (i : Nat) (s : Sc) (hi : L[i]? = some s) (nm : ByteArray) (hk : firstS nm s.bs = none) (a n : Int) (t : ByteArray) (hl : s.bs.length < 100) :
    Calls Try.prog 6 #[hP H, .int .i64 (i : Int), .string nm, (.int .i64 0), .agg #[.int .i64 a, .int .i64 n, .string t]] w fun e w' => e = .returned .nilIface ∧ (∃ v', HR H w' (L.set i ⟨s.outer, s.bs ++ [⟨nm, a, n, t, 0, true⟩]⟩) sv (vs.set i v')) ∧ Fr H w w' := by
  obtain ⟨W0, hW0⟩ : ∃ W0, W0 = w.alloc (.cells #[.int .i64 a, .int .i64 n, .string t] 32) := ⟨_, rfl⟩
  have hb0 : Below w.heap.size w W0 := by rw [hW0]; exact (Below.refl _ _).alloc (Nat.le_refl _) _
  have hsz : W0.heap.size = w.heap.size + 1 := by rw [hW0]; simp
  have h0 := h.later hb0
  have HWL := hide (lt_of_block h.blk)
  have HH0 := hide h0
  have HI := hide hi
  have HK := hide hk
  have HLN := hide hl
  have HB0 := hide hb0
  have HSZ := hide hsz
  have HN : Hid (∀ w1, Below W0.heap.size W0 w1 → Below (w.heap.size + 1) (w.alloc (.cells #[.int .i64 a, .int .i64 n, .string t] 32)) w1) := fun w1 hb => by rw [← hW0, ← hsz]; exact hb
  obtain ⟨c0, c1, cf, cl⟩ := HH0.out.c0
  obtain ⟨g, cap, v, rfl, hlt, hv, k0, k1, k2, hrow, hg, hHg, _⟩ := HH0.out.at_ HI.out
  have HC := hide (at_in g cap L.length i hlt W0)
  have HD := hide (bind_any g (i * 3) v s.bs H nm W0 k2 hrow (Nat.le_trans (HH0.out.smalls i s HI.out) (by decide)))
  rw [HK.out, show bptr v none = none from bptr_none v] at HD
  have HV := hide hv
  have hHw : H < w.heap.size := HWL.out
  have hW0' := hide hW0
  rw [hW0] at c1
  rw [World.cell?_alloc_lt _ _ _ (by exact hHw)] at c1
  clear h hi hk h0 hb0 hsz k0 k2 hrow hv hl c0 cf hW0
  unfold hP
  go_enter Try.func6, Try.ntmps6
  go_wp2_with fail
  rw [← hW0'.out]
  refine Calls.mono HC.out ?_
  rintro e w1 ⟨rfl, hw⟩
  rw [hw]
  clear hw c1
  go_wp2_with fail
  refine Calls.mono HD.out ?_
  rintro e w1 ⟨rfl, hb1⟩
  have HH1 := hide (HH0.out.later hb1)
  have HB1 := hide hb1
  obtain ⟨n0, n1, n2, nf, nl⟩ := new3 (HN.out _ HB1.out)
  obtain ⟨g', cap', v', hsv, _, hv2, k0, k1, k2, hrow, hg1, _, kf⟩ := HH1.out.at_ HI.out
  simp only [Value.slice.injEq, Option.some.injEq, Addr.mk.injEq, and_true, true_and] at hsv
  obtain ⟨rfl, rfl⟩ := hsv
  rw [HV.out] at hv2
  cases hv2
  have HROW := hide hrow
  obtain ⟨ii, hi0, hz0, hz1, hz2⟩ := info_parts info58
  have hH1 : H < w1.heap.size := lt_of_block HH1.out.blk
  have hl := HLN.out
  clear hb1 hrow HC HD
  go_wp2_with fail
  refine wp_region_any (by kernel_rfl) ?_
  change wpAny _ _ _ _ _ _ _ (World.drew _)
  refine wt 0 (.pointer (some ⟨g, i * 3, none⟩)) ?_
  refine wt 1 (.pointer (some ⟨g, i * 3, none⟩)) ?_
  refine wt 2 (.pointer (some ⟨g, i * 3, none⟩)) ?_
  refine wt 3 (.pointer (some ⟨g, i * 3 + 2, none⟩)) ?_
  refine wt 5 (.string nm) ?_
  refine wt 7 (.int .i64 0) ?_
  refine wt 8 (.bool true) ?_
  refine wr2 4 6 (fun K hK => ?ca) fun K hK => ?cb
  case' ca =>
    go_simp
    refine hK _ _ ?_
    clear hK K
    refine wr1 6 fun K hK => ?_
    go_simp
    refine hK _ _ ?_
    clear hK K
    refine wt 9 (.agg #[.string nm, .int .i64 a, .int .i64 n, .string t, .int .i64 0, .bool true]) ?_
    refine wr1 10 fun K hK => ?_
    go_simp
    refine hK _ _ ?_
    clear hK K
  case' cb =>
    go_simp
    refine hK _ _ ?_
    clear hK K
    refine wt 9 (.agg #[.string nm, .int .i64 a, .int .i64 n, .string t, .int .i64 0, .bool true]) ?_
    refine wr2 4 10 (fun K hK => ?cc) fun K hK => ?cd
  case' cc =>
    go_simp
    refine hK _ _ ?_
    clear hK K
    refine wr1 10 fun K hK => ?_
    go_simp
    refine hK _ _ ?_
    clear hK K
  case' cd =>
    go_simp
    refine hK _ _ ?_
    clear hK K
    refine wr1 4 fun K hK => ?_
    go_simp
    refine hK _ _ ?_
    clear hK K
  all_goals
    refine wr1 11 fun K hK => ?_
    refine step_append_lies _ rfl _ _ 44 rfl H 58 ii _ 6 64 Try.underlying44 hi0 hz0 hz1 hz2 rfl (by decide) _ _ _ rfl (HROW.out.drew.alloc _) ⟨w1.heap.size, 0, none⟩ 1 1 [.string nm, .int .i64 a, .int .i64 n, .string t, .int .i64 0, .bool true] rfl rfl (new6_cells _ _ rfl _ _ _ _ _ _) (new6_one _ _ _ _ _ _) (by decide) (by unfold maxLen; omega) (by omega) (by simp; omega) (w1.heap.size + 1) (by simp) ?_
    intro gn capn w3 hown3 hgr3 hg3 _
    refine hK _ _ ?_
    clear hK K
    have hgr : w1.grownBy w3 v.ownBlock := grown_trans (grown_trans (b := w1.drew) ⟨rfl, rfl, rfl, Nat.le_refl _, fun _ _ _ => rfl⟩ (World.grownBy_alloc _ _ _)) hgr3
    have hz := HH1.out.put HI.out HV.out hgr (v' := .slice (some ⟨gn, 0, none⟩) (s.bs.length + 1) capn) (bs' := s.bs ++ [⟨nm, a, n, t, 0, true⟩]) (by rw [rowB_snoc]; simpa [Bd.cells] using hown3) (hg3.imp (fun e => e.symm) (fun e => ⟨gn, rfl, by rw [e]; exact Nat.le_succ _⟩)) (by simp; omega)
    have HZ := hide hz
    have kg : w3.cell? ⟨g, i * 3 + 2, none⟩ = some v ∧ w3.frozen? ⟨g, i * 3 + 2, none⟩ = false := by
      have hne : some g ≠ v.ownBlock := fun e => by
        obtain ⟨_, _, hnn⟩ := HH1.out.ne HV.out
        exact (hnn g e.symm).2.2.1 rfl
      have hbk := hgr.block g hg1 hne
      exact ⟨(World.cell?_of_block (w := w1) (a := ⟨g, i * 3 + 2, none⟩) hbk).trans k2, (World.frozen?_of_block (w := w1) (a := ⟨g, i * 3 + 2, none⟩) hbk).trans kf⟩
    obtain ⟨kg1, kg2⟩ := kg
    clear hz hgr hown3 hgr3 hg3 k0 k1 k2 kf n0 n1 n2 nf
    refine wt 12 (.pointer (some ⟨g, i * 3, none⟩)) ?_
    refine wt 13 (.pointer (some ⟨g, i * 3 + 2, none⟩)) ?_
    refine wr1 14 fun K hK => ?_
    go_simp
    refine hK _ _ ?_
    clear hK K
    refine wpAny_done (by kernel_rfl) ?_ _
    go_simp
    go_wp2_with fail
    go_ret
    exact ⟨rfl, ⟨_, HZ.out.1⟩, ((Fr.of HB0.out (Nat.le_of_lt HWL.out)).trans (Fr.of HB1.out (Nat.le_of_lt cl))).trans HZ.out.2⟩
theorem declare_4 {H : Nat} {w : World} {L : List Sc} {sv : Value} {vs : List Value} (h : HR H w L sv vs) (i : Nat) (s : Sc) (hi : L[i]? = some s) (nm : ByteArray) (hk : firstS nm s.bs = none) (a n : Int) (t : ByteArray) (hl : s.bs.length < 100) :
    Calls Try.prog 6 #[hP H, .int .i64 (i : Int), .string nm, (.int .i64 4), .agg #[.int .i64 a, .int .i64 n, .string t]] w fun e w' => e = .returned .nilIface ∧ (∃ v', HR H w' (L.set i ⟨s.outer, s.bs ++ [⟨nm, a, n, t, 4, true⟩]⟩) sv (vs.set i v')) ∧ Fr H w w' := by
  obtain ⟨W0, hW0⟩ : ∃ W0, W0 = w.alloc (.cells #[.int .i64 a, .int .i64 n, .string t] 32) := ⟨_, rfl⟩
  have hb0 : Below w.heap.size w W0 := by rw [hW0]; exact (Below.refl _ _).alloc (Nat.le_refl _) _
  have hsz : W0.heap.size = w.heap.size + 1 := by rw [hW0]; simp
  have h0 := h.later hb0
  have HWL := hide (lt_of_block h.blk)
  have HH0 := hide h0
  have HI := hide hi
  have HK := hide hk
  have HLN := hide hl
  have HB0 := hide hb0
  have HSZ := hide hsz
  have HN : Hid (∀ w1, Below W0.heap.size W0 w1 → Below (w.heap.size + 1) (w.alloc (.cells #[.int .i64 a, .int .i64 n, .string t] 32)) w1) := fun w1 hb => by rw [← hW0, ← hsz]; exact hb
  obtain ⟨c0, c1, cf, cl⟩ := HH0.out.c0
  obtain ⟨g, cap, v, rfl, hlt, hv, k0, k1, k2, hrow, hg, hHg, _⟩ := HH0.out.at_ HI.out
  have HC := hide (at_in g cap L.length i hlt W0)
  have HD := hide (bind_any g (i * 3) v s.bs H nm W0 k2 hrow (Nat.le_trans (HH0.out.smalls i s HI.out) (by decide)))
  rw [HK.out, show bptr v none = none from bptr_none v] at HD
  have HV := hide hv
  have hHw : H < w.heap.size := HWL.out
  have hW0' := hide hW0
  rw [hW0] at c1
  rw [World.cell?_alloc_lt _ _ _ (by exact hHw)] at c1
  clear h hi hk h0 hb0 hsz k0 k2 hrow hv hl c0 cf hW0
  unfold hP
  go_enter Try.func6, Try.ntmps6
  go_wp2_with fail
  rw [← hW0'.out]
  refine Calls.mono HC.out ?_
  rintro e w1 ⟨rfl, hw⟩
  rw [hw]
  clear hw c1
  go_wp2_with fail
  refine Calls.mono HD.out ?_
  rintro e w1 ⟨rfl, hb1⟩
  have HH1 := hide (HH0.out.later hb1)
  have HB1 := hide hb1
  obtain ⟨n0, n1, n2, nf, nl⟩ := new3 (HN.out _ HB1.out)
  obtain ⟨g', cap', v', hsv, _, hv2, k0, k1, k2, hrow, hg1, _, kf⟩ := HH1.out.at_ HI.out
  simp only [Value.slice.injEq, Option.some.injEq, Addr.mk.injEq, and_true, true_and] at hsv
  obtain ⟨rfl, rfl⟩ := hsv
  rw [HV.out] at hv2
  cases hv2
  have HROW := hide hrow
  obtain ⟨ii, hi0, hz0, hz1, hz2⟩ := info_parts info58
  have hH1 : H < w1.heap.size := lt_of_block HH1.out.blk
  have hl := HLN.out
  clear hb1 hrow HC HD
  go_wp2_with fail
  refine wp_region_any (by kernel_rfl) ?_
  change wpAny _ _ _ _ _ _ _ (World.drew _)
  refine wt 0 (.pointer (some ⟨g, i * 3, none⟩)) ?_
  refine wt 1 (.pointer (some ⟨g, i * 3, none⟩)) ?_
  refine wt 2 (.pointer (some ⟨g, i * 3, none⟩)) ?_
  refine wt 3 (.pointer (some ⟨g, i * 3 + 2, none⟩)) ?_
  refine wt 5 (.string nm) ?_
  refine wt 7 (.int .i64 4) ?_
  refine wt 8 (.bool true) ?_
  refine wr2 4 6 (fun K hK => ?ca) fun K hK => ?cb
  case' ca =>
    go_simp
    refine hK _ _ ?_
    clear hK K
    refine wr1 6 fun K hK => ?_
    go_simp
    refine hK _ _ ?_
    clear hK K
    refine wt 9 (.agg #[.string nm, .int .i64 a, .int .i64 n, .string t, .int .i64 4, .bool true]) ?_
    refine wr1 10 fun K hK => ?_
    go_simp
    refine hK _ _ ?_
    clear hK K
  case' cb =>
    go_simp
    refine hK _ _ ?_
    clear hK K
    refine wt 9 (.agg #[.string nm, .int .i64 a, .int .i64 n, .string t, .int .i64 4, .bool true]) ?_
    refine wr2 4 10 (fun K hK => ?cc) fun K hK => ?cd
  case' cc =>
    go_simp
    refine hK _ _ ?_
    clear hK K
    refine wr1 10 fun K hK => ?_
    go_simp
    refine hK _ _ ?_
    clear hK K
  case' cd =>
    go_simp
    refine hK _ _ ?_
    clear hK K
    refine wr1 4 fun K hK => ?_
    go_simp
    refine hK _ _ ?_
    clear hK K
  all_goals
    refine wr1 11 fun K hK => ?_
    refine step_append_lies _ rfl _ _ 44 rfl H 58 ii _ 6 64 Try.underlying44 hi0 hz0 hz1 hz2 rfl (by decide) _ _ _ rfl (HROW.out.drew.alloc _) ⟨w1.heap.size, 0, none⟩ 1 1 [.string nm, .int .i64 a, .int .i64 n, .string t, .int .i64 4, .bool true] rfl rfl (new6_cells _ _ rfl _ _ _ _ _ _) (new6_one _ _ _ _ _ _) (by decide) (by unfold maxLen; omega) (by omega) (by simp; omega) (w1.heap.size + 1) (by simp) ?_
    intro gn capn w3 hown3 hgr3 hg3 _
    refine hK _ _ ?_
    clear hK K
    have hgr : w1.grownBy w3 v.ownBlock := grown_trans (grown_trans (b := w1.drew) ⟨rfl, rfl, rfl, Nat.le_refl _, fun _ _ _ => rfl⟩ (World.grownBy_alloc _ _ _)) hgr3
    have hz := HH1.out.put HI.out HV.out hgr (v' := .slice (some ⟨gn, 0, none⟩) (s.bs.length + 1) capn) (bs' := s.bs ++ [⟨nm, a, n, t, 4, true⟩]) (by rw [rowB_snoc]; simpa [Bd.cells] using hown3) (hg3.imp (fun e => e.symm) (fun e => ⟨gn, rfl, by rw [e]; exact Nat.le_succ _⟩)) (by simp; omega)
    have HZ := hide hz
    have kg : w3.cell? ⟨g, i * 3 + 2, none⟩ = some v ∧ w3.frozen? ⟨g, i * 3 + 2, none⟩ = false := by
      have hne : some g ≠ v.ownBlock := fun e => by
        obtain ⟨_, _, hnn⟩ := HH1.out.ne HV.out
        exact (hnn g e.symm).2.2.1 rfl
      have hbk := hgr.block g hg1 hne
      exact ⟨(World.cell?_of_block (w := w1) (a := ⟨g, i * 3 + 2, none⟩) hbk).trans k2, (World.frozen?_of_block (w := w1) (a := ⟨g, i * 3 + 2, none⟩) hbk).trans kf⟩
    obtain ⟨kg1, kg2⟩ := kg
    clear hz hgr hown3 hgr3 hg3 k0 k1 k2 kf n0 n1 n2 nf
    refine wt 12 (.pointer (some ⟨g, i * 3, none⟩)) ?_
    refine wt 13 (.pointer (some ⟨g, i * 3 + 2, none⟩)) ?_
    refine wr1 14 fun K hK => ?_
    go_simp
    refine hK _ _ ?_
    clear hK K
    refine wpAny_done (by kernel_rfl) ?_ _
    go_simp
    go_wp2_with fail
    go_ret
    exact ⟨rfl, ⟨_, HZ.out.1⟩, ((Fr.of HB0.out (Nat.le_of_lt HWL.out)).trans (Fr.of HB1.out (Nat.le_of_lt cl))).trans HZ.out.2⟩

theorem HR.start (w : World) : HR w.heap.size (w.alloc (.cells #[.slice none 0 0, .slice none 0 0] 26)) [] (.slice none 0 0) [] :=
  ⟨heap_alloc_new w _, World.ownsRow_nil _ _ _ _, rfl, fun i s v h => by simp at h, fun i j a b g h => by simp at h, by simp, fun i s h => by simp at h⟩
theorem HR.push {H : Nat} {w w1 : World} {L : List Sc} {sv : Value} {vs : List Value} (h : HR H w L sv vs) (o : Int) {g cap : Nat} (hgr : w.grownBy w1 sv.ownBlock)
    (hown : w1.ownsRow H 46 3 (.slice (some ⟨g, 0, none⟩) (L.length + 1) cap) (L.length + 1) (rowS L vs ++ [.int .i64 o, .int .i64 (-1), .slice none 0 0])) (hg' : sv.ownBlock = some g ∨ w.heap.size ≤ g) (hl : L.length < 100) :
    HR H (w1.setCell ⟨H, 1, none⟩ (.slice (some ⟨g, 0, none⟩) (L.length + 1) cap)) (L ++ [⟨o, []⟩]) (.slice (some ⟨g, 0, none⟩) (L.length + 1) cap) (vs ++ [.slice none 0 0]) ∧ Fr H w (w1.setCell ⟨H, 1, none⟩ (.slice (some ⟨g, 0, none⟩) (L.length + 1) cap)) := by
  have hHl := lt_of_block h.blk
  have hsv : ∀ k, sv.ownBlock = some k → H < k ∧ k < w.heap.size ∧ ∃ c, w.heap[k]? = some (.cells c 46 (0, 0)) := fun k hk => by
    obtain ⟨c, hc⟩ := row_tag h.row hk
    have h1 := h.row.lt k hk
    have h2 : k ≠ H := tags_ne hc h.blk (by decide)
    exact ⟨by omega, h1.2, c, hc⟩
  have hgH : g ≠ H := by
    rcases hg' with e | e
    · have := (hsv g e).1; omega
    · omega
  have hb1 : w1.heap[H]? = some (.cells #[.slice none 0 0, sv] 26 (0, 0)) := by
    rw [hgr.block H hHl (fun e => by have := (hsv H e.symm).1; omega)]; exact h.blk
  refine ⟨⟨?_, ?_, by simp [h.len], ?_, ?_, by simp; omega, ?_⟩, ?_⟩
  · rw [heap_setCell_same w1 H 1 _ 26 _ hb1]; rfl
  · have e := rowS_app L [⟨o, []⟩] vs [.slice none 0 0] h.len
    rw [e]
    simp only [List.length_append, List.length_singleton]
    exact ownsRow_setCell_other hown (by simp [Value.ownBlock]; exact hgH) _
  · intro j s' v' hj hv'
    by_cases hjl : j < L.length
    · rw [List.getElem?_append_left hjl] at hj
      rw [List.getElem?_append_left (by rw [h.len]; exact hjl)] at hv'
      obtain ⟨_, _, hn⟩ := h.ne hv'
      refine ownsRow_setCell_other ((h.own j s' v' hj hv').kept hgr ?_) (fun e => by have := (hn H e).1; omega) _
      cases hq : v'.ownBlock with
      | none => exact .inl rfl
      | some q => exact .inr fun e => (hn q hq).2.2.1 e.symm
    · have hj' := (List.getElem?_eq_some_iff.1 hj).1
      simp at hj'
      have : j = L.length := by omega
      subst this
      rw [List.getElem?_append_right (by omega)] at hj
      rw [List.getElem?_append_right (by rw [h.len]; omega)] at hv'
      simp [h.len] at hj hv'
      subst hj hv'
      exact World.ownsRow_nil _ _ _ _
  · intro i j a b q ha hb hqa hqb
    have key : ∀ (i : Nat) (a : Value), (vs ++ [Value.slice none 0 0])[i]? = some a → a.ownBlock = some q → vs[i]? = some a := by
      intro i a hi hq
      by_cases hil : i < vs.length
      · rw [List.getElem?_append_left hil] at hi; exact hi
      · have hi' := (List.getElem?_eq_some_iff.1 hi).1
        simp at hi'
        have : i = vs.length := by omega
        subst this
        rw [List.getElem?_append_right (by omega)] at hi
        simp at hi
        subst hi
        simp [Value.ownBlock] at hq
    exact h.apart i j a b q (key i a ha hqa) (key j b hb hqb) hqa hqb
  · intro j s' hj
    by_cases hjl : j < L.length
    · rw [List.getElem?_append_left hjl] at hj
      exact h.smalls j s' hj
    · have hj' := (List.getElem?_eq_some_iff.1 hj).1
      simp at hj'
      have : j = L.length := by omega
      subst this
      rw [List.getElem?_append_right (by omega)] at hj
      simp at hj
      subst hj
      simp
  · exact Fr.setCell (Fr.grown hgr (Nat.le_of_lt hHl) fun k hk => ⟨Nat.le_of_lt (hsv k hk).1, (hsv k hk).2.2.choose, 46, (hsv k hk).2.2.choose_spec, by decide⟩) hb1 (by decide) (Nat.le_refl _) _
theorem new3_cells (w : World) (H : Nat) (hH : w.heap.size = H) (a b : Int) (v : Value) (j : Nat) (u : Value) (h : ([.int .i64 a, .int .i64 b, v] : List Value)[j]? = some u) :
    (w.alloc (.cells #[.int .i64 a, .int .i64 b, v] 46)).cell? (Addr.add ⟨H, 0, none⟩ j) = some u := by
  subst hH
  match j, h with
  | 0, h => simp at h; subst h; simp [Addr.add]
  | 1, h => simp at h; subst h; simp [Addr.add]
  | 2, h => simp at h; subst h; simp [Addr.add]
  | k + 3, h => simp at h
theorem new3_one (a b : Int) : ∀ u ∈ ([.int .i64 a, .int .i64 b, .slice none 0 0] : List Value), u.oneCell' = true := by
  intro u hu
  simp at hu
  rcases hu with rfl | rfl | rfl <;> rfl
theorem info46 : (Try.prog.info? 46).map (fun i => (i.zero, i.size, i.bytes)) = some (some (.agg #[.int .i64 0, .int .i64 0, .slice none 0 0]), 3, 40) := by kernel_rfl
theorem scope_first {H : Nat} {w : World} {L : List Sc} {sv : Value} {vs : List Value} (h : HR H w L sv vs) (hl : L.length < 100) :
    Calls Try.prog 5 #[hP H, .int .i64 (-1), .int .i64 (-1)] w fun e w' => e = .returned (.int .i64 (L.length : Int)) ∧ (∃ sv', HR H w' (L ++ [⟨(-1), []⟩]) sv' (vs ++ [.slice none 0 0])) ∧ Fr H w w' := by
  have hH : H < w.heap.size := lt_of_block h.blk
  obtain ⟨c0, c1, cf, cl⟩ := h.c0
  have HH := hide h
  have HC := hide (at_out sv L.length (row_form h.row) (-1) (.inl (by decide)) (w.alloc (.cells #[.int .i64 (-1), .int .i64 (-1), .slice none 0 0] 46)))
  have HD := hide (at_none (-1) (w.alloc (.cells #[.int .i64 (-1), .int .i64 (-1), .slice none 0 0] 46)))
  clear h
  unfold hP
  go_enter Try.func5, Try.ntmps5
  go_wp2_with fail
  refine Calls.mono HC.out ?_
  rintro e w1 ⟨rfl, hw⟩
  rw [hw]
  clear hw
  go_wp2_with fail
  refine Calls.mono HD.out ?_
  rintro e w1 ⟨rfl, hw⟩
  rw [hw]
  clear hw
  go_wp2_with fail
  obtain ⟨ii, hi0, hz0, hz1, hz2⟩ := info_parts info46
  obtain ⟨W0, hW0⟩ : ∃ W0, W0 = w.alloc (.cells #[.int .i64 (-1), .int .i64 (-1), .slice none 0 0] 46) := ⟨_, rfl⟩
  have hb0 : Below w.heap.size w W0 := by rw [hW0]; exact (Below.refl _ _).alloc (Nat.le_refl _) _
  have HB0 := hide hb0
  have HH1 := hide (HH.out.later hb0)
  obtain ⟨n0, n1, n2, nf, nl⟩ := new3 (w1 := W0) (by rw [hW0]; exact Below.refl _ _)
  obtain ⟨d0, d1, df, dl⟩ := HH1.out.c0
  rw [← hW0]
  have HROW := hide HH1.out.row
  clear hW0 hb0 c0 c1 cf cl HC HD d0
  refine wp_region_any (by kernel_rfl) ?_
  change wpAny _ _ _ _ _ _ _ (World.drew _)
  refine wt 0 (.pointer (some ⟨H, 0, none⟩)) ?_
  refine wt 1 (.pointer (some ⟨H, 0, none⟩)) ?_
  refine wt 2 (.pointer (some ⟨H, 0, none⟩)) ?_
  refine wt 3 (.pointer (some ⟨H, 1, none⟩)) ?_
  refine wr2 4 5 (fun K hK => ?ca) fun K hK => ?cb
  case' ca =>
    go_simp
    refine hK _ _ ?_
    clear hK K
    refine wr1 5 fun K hK => ?_
    go_simp
    refine hK _ _ ?_
    clear hK K
    refine wr1 6 fun K hK => ?_
    go_simp
    refine hK _ _ ?_
    clear hK K
  case' cb =>
    go_simp
    refine hK _ _ ?_
    clear hK K
    refine wr2 4 6 (fun K hK => ?cc) fun K hK => ?cd
  case' cc =>
    go_simp
    refine hK _ _ ?_
    clear hK K
    refine wr1 6 fun K hK => ?_
    go_simp
    refine hK _ _ ?_
    clear hK K
  case' cd =>
    go_simp
    refine hK _ _ ?_
    clear hK K
    refine wr1 4 fun K hK => ?_
    go_simp
    refine hK _ _ ?_
    clear hK K
  all_goals
    refine wr1 7 fun K hK => ?_
    refine step_append_lies _ rfl _ _ 24 rfl H 46 ii _ 3 40 Try.underlying24 hi0 hz0 hz1 hz2 rfl (by decide) _ _ _ rfl (HROW.out.drew.alloc _) ⟨W0.heap.size, 0, none⟩ 1 1 [.int .i64 (-1), .int .i64 (-1), .slice none 0 0] rfl rfl (new3_cells _ _ rfl _ _ _) (new3_one _ _) (by decide) (by unfold maxLen; omega) (by omega) (by simp; omega) (W0.heap.size + 1) (by simp) ?_
    intro gn capn w3 hown3 hgr3 hg3 _
    refine hK _ _ ?_
    clear hK K
    have hgr : W0.grownBy w3 sv.ownBlock := grown_trans (grown_trans (b := W0.drew) ⟨rfl, rfl, rfl, Nat.le_refl _, fun _ _ _ => rfl⟩ (World.grownBy_alloc _ _ _)) hgr3
    have hz := HH1.out.push (-1) hgr hown3 (hg3.imp id (fun e => by rw [e]; exact Nat.le_succ _)) hl
    have HZ := hide hz
    have kg : w3.cell? ⟨H, 1, none⟩ = some sv ∧ w3.frozen? ⟨H, 1, none⟩ = false := by
      have hne : some H ≠ sv.ownBlock := fun e => by
        obtain ⟨c, hc⟩ := row_tag HH1.out.row e.symm
        exact tags_ne hc HH1.out.blk (by decide) rfl
      have hbk := hgr.block H dl hne
      exact ⟨(World.cell?_of_block (w := W0) (a := ⟨H, 1, none⟩) hbk).trans d1, (World.frozen?_of_block (w := W0) (a := ⟨H, 1, none⟩) hbk).trans df⟩
    obtain ⟨kg1, kg2⟩ := kg
    clear hz hgr hown3 hgr3 hg3 d1 df n0 n1 n2 nf
    refine wt 8 (.pointer (some ⟨H, 0, none⟩)) ?_
    refine wt 9 (.pointer (some ⟨H, 1, none⟩)) ?_
    refine wr1 10 fun K hK => ?_
    go_simp
    refine hK _ _ ?_
    clear hK K
    refine wpAny_done (by kernel_rfl) ?_ _
    go_simp
    go_wp2_with fail
    go_ret
    exact ⟨rfl, ⟨_, HZ.out.1⟩, (Fr.of HB0.out (Nat.le_of_lt hH)).trans HZ.out.2⟩
theorem scope_in {H : Nat} {w : World} {L : List Sc} {sv : Value} {vs : List Value} (h : HR H w L sv vs) (hl : L.length < 100) (k : Nat) (hk : k < L.length) :
    Calls Try.prog 5 #[hP H, .int .i64 (k : Int), .int .i64 (-1)] w fun e w' => e = .returned (.int .i64 (L.length : Int)) ∧ (∃ sv', HR H w' (L ++ [⟨(k : Int), []⟩]) sv' (vs ++ [.slice none 0 0])) ∧ Fr H w w' := by
  have hH : H < w.heap.size := lt_of_block h.blk
  obtain ⟨c0, c1, cf, cl⟩ := h.c0
  have HH := hide h
  obtain ⟨g, cap, hsv⟩ : ∃ g cap, sv = .slice (some ⟨g, 0, none⟩) L.length cap := by
    rcases row_form h.row with ⟨_, hn⟩ | h
    · omega
    · exact h
  have HC := hide (at_in g cap L.length k hk (w.alloc (.cells #[.int .i64 (k : Int), .int .i64 (-1), .slice none 0 0] 46)))
  rw [← hsv] at HC
  clear hsv
  have HD := hide (at_none (-1) (w.alloc (.cells #[.int .i64 (k : Int), .int .i64 (-1), .slice none 0 0] 46)))
  clear h
  unfold hP
  go_enter Try.func5, Try.ntmps5
  go_wp2_with fail
  refine Calls.mono HC.out ?_
  rintro e w1 ⟨rfl, hw⟩
  rw [hw]
  clear hw
  go_wp2_with fail
  refine Calls.mono HD.out ?_
  rintro e w1 ⟨rfl, hw⟩
  rw [hw]
  clear hw
  go_wp2_with fail
  obtain ⟨ii, hi0, hz0, hz1, hz2⟩ := info_parts info46
  obtain ⟨W0, hW0⟩ : ∃ W0, W0 = w.alloc (.cells #[.int .i64 (k : Int), .int .i64 (-1), .slice none 0 0] 46) := ⟨_, rfl⟩
  have hb0 : Below w.heap.size w W0 := by rw [hW0]; exact (Below.refl _ _).alloc (Nat.le_refl _) _
  have HB0 := hide hb0
  have HH1 := hide (HH.out.later hb0)
  obtain ⟨n0, n1, n2, nf, nl⟩ := new3 (w1 := W0) (by rw [hW0]; exact Below.refl _ _)
  obtain ⟨d0, d1, df, dl⟩ := HH1.out.c0
  rw [← hW0]
  have HROW := hide HH1.out.row
  clear hW0 hb0 c0 c1 cf cl HC HD d0
  refine wp_region_any (by kernel_rfl) ?_
  change wpAny _ _ _ _ _ _ _ (World.drew _)
  refine wt 0 (.pointer (some ⟨H, 0, none⟩)) ?_
  refine wt 1 (.pointer (some ⟨H, 0, none⟩)) ?_
  refine wt 2 (.pointer (some ⟨H, 0, none⟩)) ?_
  refine wt 3 (.pointer (some ⟨H, 1, none⟩)) ?_
  refine wr2 4 5 (fun K hK => ?ca) fun K hK => ?cb
  case' ca =>
    go_simp
    refine hK _ _ ?_
    clear hK K
    refine wr1 5 fun K hK => ?_
    go_simp
    refine hK _ _ ?_
    clear hK K
    refine wr1 6 fun K hK => ?_
    go_simp
    refine hK _ _ ?_
    clear hK K
  case' cb =>
    go_simp
    refine hK _ _ ?_
    clear hK K
    refine wr2 4 6 (fun K hK => ?cc) fun K hK => ?cd
  case' cc =>
    go_simp
    refine hK _ _ ?_
    clear hK K
    refine wr1 6 fun K hK => ?_
    go_simp
    refine hK _ _ ?_
    clear hK K
  case' cd =>
    go_simp
    refine hK _ _ ?_
    clear hK K
    refine wr1 4 fun K hK => ?_
    go_simp
    refine hK _ _ ?_
    clear hK K
  all_goals
    refine wr1 7 fun K hK => ?_
    refine step_append_lies _ rfl _ _ 24 rfl H 46 ii _ 3 40 Try.underlying24 hi0 hz0 hz1 hz2 rfl (by decide) _ _ _ rfl (HROW.out.drew.alloc _) ⟨W0.heap.size, 0, none⟩ 1 1 [.int .i64 (k : Int), .int .i64 (-1), .slice none 0 0] rfl rfl (new3_cells _ _ rfl _ _ _) (new3_one _ _) (by decide) (by unfold maxLen; omega) (by omega) (by simp; omega) (W0.heap.size + 1) (by simp) ?_
    intro gn capn w3 hown3 hgr3 hg3 _
    refine hK _ _ ?_
    clear hK K
    have hgr : W0.grownBy w3 sv.ownBlock := grown_trans (grown_trans (b := W0.drew) ⟨rfl, rfl, rfl, Nat.le_refl _, fun _ _ _ => rfl⟩ (World.grownBy_alloc _ _ _)) hgr3
    have hz := HH1.out.push (k : Int) hgr hown3 (hg3.imp id (fun e => by rw [e]; exact Nat.le_succ _)) hl
    have HZ := hide hz
    have kg : w3.cell? ⟨H, 1, none⟩ = some sv ∧ w3.frozen? ⟨H, 1, none⟩ = false := by
      have hne : some H ≠ sv.ownBlock := fun e => by
        obtain ⟨c, hc⟩ := row_tag HH1.out.row e.symm
        exact tags_ne hc HH1.out.blk (by decide) rfl
      have hbk := hgr.block H dl hne
      exact ⟨(World.cell?_of_block (w := W0) (a := ⟨H, 1, none⟩) hbk).trans d1, (World.frozen?_of_block (w := W0) (a := ⟨H, 1, none⟩) hbk).trans df⟩
    obtain ⟨kg1, kg2⟩ := kg
    clear hz hgr hown3 hgr3 hg3 d1 df n0 n1 n2 nf
    refine wt 8 (.pointer (some ⟨H, 0, none⟩)) ?_
    refine wt 9 (.pointer (some ⟨H, 1, none⟩)) ?_
    refine wr1 10 fun K hK => ?_
    go_simp
    refine hK _ _ ?_
    clear hK K
    refine wpAny_done (by kernel_rfl) ?_ _
    go_simp
    go_wp2_with fail
    go_ret
    exact ⟨rfl, ⟨_, HZ.out.1⟩, (Fr.of HB0.out (Nat.le_of_lt hH)).trans HZ.out.2⟩

theorem of_any (n : Int) (w : World) : Calls Try.prog 7 #[.int .i64 n] w fun e w' => e = .returned (.agg #[.int .i64 3, .int .i64 n, .string ⟨#[]⟩]) ∧ Below w.heap.size w w' := by
  go_enter Try.func7, Try.ntmps7
  go_wp2
  exact bodyPost_ret (v := .agg #[.int .i64 3, .int .i64 n, .string ⟨#[]⟩]) (by simp [results, Try.results7, go_sem]) rfl ⟨rfl, (Below.refl _ _).alloc (Nat.le_refl _) _⟩
theorem say_any (s : ByteArray) (w : World) : Calls Try.prog 11 #[.string s] w fun e w' => e = .returned (.agg #[.int .i64 4, .int .i64 0, .string s]) ∧ Below w.heap.size w w' := by
  go_enter Try.func11, Try.ntmps11
  go_wp2
  exact bodyPost_ret (v := .agg #[.int .i64 4, .int .i64 0, .string s]) (by simp [results, Try.results11, go_sem]) rfl ⟨rfl, (Below.refl _ _).alloc (Nat.le_refl _) _⟩
theorem wrap_u (a : Int) : 0 ≤ IntKind.u64.wrap a := by
  simp [IntKind.wrap, IntKind.signed, IntKind.bits]
  omega
theorem pick_any (a n : Int) (hn : 0 < n) (hm : n < 1000) (w : World) : Calls Try.prog 4 #[.int .i64 a, .int .i64 n] w fun e w' => (∃ k : Nat, (k : Int) < n ∧ e = .returned (.int .i64 (k : Int))) ∧ w' = w := by
  go_enter Try.func4, Try.ntmps4
  go_wp2
  go_ret
  refine ⟨⟨((IntKind.u64.wrap a).tmod n).toNat, ?_, ?_⟩, rfl⟩
  all_goals
    have h0 := wrap_u a
    have h1 : 0 ≤ (IntKind.u64.wrap a).tmod n := Int.tmod_nonneg _ h0
    have h2 : (IntKind.u64.wrap a).tmod n < n := Int.tmod_lt_of_pos _ hn
  · omega
  · show Ending.returned (.int .i64 _) = _
    have h3 : wrap64 ((IntKind.u64.wrap a).tmod n) = (IntKind.u64.wrap a).tmod n := by
      generalize (IntKind.u64.wrap a).tmod n = z at *
      unfold wrap64
      omega
    rw [show (((IntKind.u64.wrap a).tmod n).toNat : Int) = (IntKind.u64.wrap a).tmod n by omega]
    simp [h3]

theorem drop_no {H : Nat} {w : World} {L : List Sc} {sv : Value} {vs : List Value} (h : HR H w L sv vs) (i : Nat) (s : Sc) (hi : L[i]? = some s) (nm : ByteArray) (k : Nat) (b : Bd) (hk : firstS nm s.bs = some k) (hb : s.bs[k]? = some b) (h4 : b.kind ≠ 4) :
    Calls Try.prog 13 #[hP H, .int .i64 (i : Int), .string nm] w fun e w' => e = .returned (.bool false) ∧ Below w.heap.size w w' := by
  obtain ⟨W0, hW0⟩ : ∃ W0, W0 = w.alloc (.cells #[.string nm] 9) := ⟨_, rfl⟩
  have hb0 : Below w.heap.size w W0 := by rw [hW0]; exact (Below.refl _ _).alloc (Nat.le_refl _) _
  have hz0 : W0.cell? ⟨w.heap.size, 0, none⟩ = some (.string nm) := by rw [hW0]; simp
  have HH0 := hide (h.later hb0)
  have HI := hide hi
  have HK := hide hk
  have HBB := hide hb
  have HB0 := hide hb0
  obtain ⟨c0, c1, cf, cl⟩ := HH0.out.c0
  obtain ⟨g, cap, v, rfl, hlt, hv, k0, k1, k2, hrow, hg, hHg, _⟩ := HH0.out.at_ HI.out
  have HC := hide (at_in g cap L.length i hlt W0)
  have HD := hide (bind_any g (i * 3) v s.bs H nm W0 k2 hrow (Nat.le_trans (HH0.out.smalls i s HI.out) (by decide)))
  obtain ⟨gb, capb, rfl, hkl, -⟩ := bd_cells hrow HBB.out
  rw [HK.out] at HD
  simp only [bptr] at HD
  have HV := hide hv
  have hH : H < w.heap.size := lt_of_block h.blk
  have hW0' := hide hW0
  obtain ⟨e0, e1, ef, el⟩ := h.c0
  clear h hi hk hb hb0 k0 k1 k2 hrow hv hW0 c0 c1 cf
  unfold hP
  go_enter Try.func13, Try.ntmps13
  go_wp2_with fail
  rw [← hW0'.out]
  refine Calls.mono HC.out ?_
  rintro e w1 ⟨rfl, hw⟩
  rw [hw]
  clear hw
  go_wp2_with fail
  refine Calls.mono HD.out ?_
  rintro e w1 ⟨rfl, hb1⟩
  have HH1 := hide (HH0.out.later hb1)
  have HB1 := hide hb1
  obtain ⟨g', cap', hv', _, d0, d1, d2, d3, d4, d5, hgl, _, df⟩ := bd_cells (HH1.out.own i s _ HI.out HV.out) HBB.out
  simp only [Value.slice.injEq, Option.some.injEq, Addr.mk.injEq, and_true, true_and] at hv'
  obtain ⟨rfl, rfl⟩ := hv'
  clear hb1
  go_wp2_with fail
  go_ret
  exact ⟨rfl, HB0.out.trans (HB1.out.mono HB0.out.size)⟩
theorem del_any (s : ByteArray) (b : Bd) (z : Nat) (w : World) (hz : w.cell? ⟨z, 0, none⟩ = some (.string s)) :
    Calls Try.prog 24 #[.agg #[.string b.name, .int .i64 b.vk, .int .i64 b.vn, .string b.vs, .int .i64 b.kind, .bool b.ready], .pointer (some ⟨z, 0, none⟩)] w fun e w' => e = .returned (.bool (b.name.toList == s.toList)) ∧ Below w.heap.size w w' := by
  have hzl : z < w.heap.size := World.block_lt_of_cell? w _ hz
  go_enter Try.func24, Try.ntmps24
  go_wp2_with fail
  go_ret
  exact ⟨rfl, (Below.refl _ _).alloc (Nat.le_refl _) _⟩
theorem idx_one (g cap H : Nat) (b : Bd) (s : ByteArray) (z : Nat) (w : World) (hrow : w.ownsRow H 58 6 (.slice (some ⟨g, 0, none⟩) 1 cap) 1 (rowB [b])) (hb : isS s b = true) (hz : w.cell? ⟨z, 0, none⟩ = some (.string s)) :
    Calls Try.prog 31 #[.slice (some ⟨g, 0, none⟩) 1 cap, .func (.func 24) #[] #[.pointer (some ⟨z, 0, none⟩)]] w fun e w' => e = .returned (.int .i64 0) ∧ Below w.heap.size w w' := by
  have HC := hide (del_any s b z w hz)
  rw [show (b.name.toList == s.toList) = true from hb] at HC
  obtain ⟨g', cap', hv', _, d0, d1, d2, d3, d4, d5, hgl, _, df⟩ := bd_cells (bs := [b]) (k := 0) hrow rfl
  simp only [Value.slice.injEq, Option.some.injEq, Addr.mk.injEq, and_true, true_and, List.length_singleton] at hv'
  obtain ⟨rfl, rfl⟩ := hv'
  clear hrow hb hz
  simp only [Nat.zero_mul, Nat.zero_add] at d0 d1 d2 d3 d4 d5
  go_enter Try.func31, Try.ntmps31
  go_wp2_with fail
  go_loopw [8] (fun i wr => i = .int .i64 0 ∧ wr = w) (fun i _ => 0)
  case atStart => exact ⟨rfl, rfl⟩
  case round =>
    obtain ⟨rfl, hw⟩ := hrel
    rw [hw]
    clear hw
    go_wp2_with fail
    refine Calls.mono HC.out ?_
    rintro e w2 ⟨rfl, hb⟩
    have HB := hide hb
    clear hb
    go_wp2_with fail
    go_ret
    exact ⟨rfl, HB.out⟩
def zB : List Value := [.string ⟨#[]⟩, .int .i64 0, .int .i64 0, .string ⟨#[]⟩, .int .i64 0, .bool false]
theorem run_clear_one (w : World) (g cap : Nat) (hc : ∀ j, j < 6 → (w.cell? ⟨g, j, none⟩).isSome = true) (hf : ∀ j, w.frozen? ⟨g, j, none⟩ = false) :
    (Builtin.clear_ #[44] 0 #[.slice (some ⟨g, 0, none⟩) 1 cap]).run Try.prog w = .ok (.tuple #[]) (w.setCells g 0 zB) := by
  have hst := run_storeCells_cells (P := Try.prog) g 0 zB 0 w (by simpa [zB] using hc) (by simpa using fun j _ => hf j) (by intro v hv'; simp [zB] at hv'; rcases hv' with rfl | rfl | rfl | rfl | rfl | rfl <;> rfl)
  simp only [Nat.add_zero] at hst
  have hv : ∀ w, (zeroValue 58).run Try.prog w = .ok (.agg #[.string ⟨#[]⟩, .int .i64 0, .int .i64 0, .string ⟨#[]⟩, .int .i64 0, .bool false]) w := fun w => by
    obtain ⟨ii, hi0, hz0, hz1, hz2⟩ := info_parts info58
    simp [zeroValue, typeInfo, hi0, hz0]
  have hzc : (Builtin.zeroCells (Value.agg #[.string ⟨#[]⟩, .int .i64 0, .int .i64 0, .string ⟨#[]⟩, .int .i64 0, .bool false]).cells 1).toList = zB := by kernel_rfl
  simp [Builtin.clear_, run_underlying Try.underlying44, hv, hzc, hst]
theorem row_cleared {w : World} {g cap H : Nat} {xs : List Value} (h : w.ownsRow H 58 6 (.slice (some ⟨g, 0, none⟩) 1 cap) 1 xs) : (w.setCells g 0 zB).ownsRow H 58 6 (.slice (some ⟨g, 0, none⟩) 0 cap) 0 [] ∧ w.grownBy (w.setCells g 0 zB) (some g) := by
  obtain ⟨r1, q1⟩ := h.stored 0 (.string ⟨#[]⟩)
  obtain ⟨r2, q2⟩ := r1.stored 1 (.int .i64 0)
  obtain ⟨r3, q3⟩ := r2.stored 2 (.int .i64 0)
  obtain ⟨r4, q4⟩ := r3.stored 3 (.string ⟨#[]⟩)
  obtain ⟨r5, q5⟩ := r4.stored 4 (.int .i64 0)
  obtain ⟨r6, q6⟩ := r5.stored 5 (.bool false)
  refine ⟨?_, grown_trans (grown_trans (grown_trans (grown_trans (grown_trans q1 q2) q3) q4) q5) q6⟩
  refine ⟨by simp, .inr ?_⟩
  rcases r6.2 with ⟨h', _⟩ | ⟨g', cap', cur, h', hb, hg, hn, hm, hs, _⟩
  · simp at h'
  · simp only [Value.slice.injEq, Option.some.injEq, Addr.mk.injEq, and_true, true_and] at h'
    obtain ⟨rfl, rfl⟩ := h'
    exact ⟨g, cap, cur, rfl, hb, hg, Nat.zero_le _, hm, hs, by simp⟩
theorem delete_one (g cap H : Nat) (b : Bd) (s : ByteArray) (z : Nat) (w : World) (hrow : w.ownsRow H 58 6 (.slice (some ⟨g, 0, none⟩) 1 cap) 1 (rowB [b])) (hb : isS s b = true) (hz : w.cell? ⟨z, 0, none⟩ = some (.string s)) :
    Calls Try.prog 23 #[.slice (some ⟨g, 0, none⟩) 1 cap, .func (.func 24) #[] #[.pointer (some ⟨z, 0, none⟩)]] w fun e w' => e = .returned (.slice (some ⟨g, 0, none⟩) 0 cap) ∧ w.grownBy w' (some g) ∧ w'.ownsRow H 58 6 (.slice (some ⟨g, 0, none⟩) 0 cap) 0 [] := by
  have HC := hide (idx_one g cap H b s z w hrow hb hz)
  have HROW := hide hrow
  clear hrow hb hz
  go_enter Try.func23, Try.ntmps23
  go_wp2_with fail
  refine Calls.mono HC.out ?_
  rintro e w1 ⟨rfl, hb⟩
  have HB := hide hb
  have HROW1 := hide (row_later HROW.out hb)
  have HCS : Hid (∀ j, j < 6 → (w1.cell? ⟨g, j, none⟩).isSome = true) := fun j hj => by
    rw [HROW1.out.cellAt j (by omega)]
    simp [rowB, Bd.cells, hj]
  have HCF : Hid (∀ j, w1.frozen? ⟨g, j, none⟩ = false) := HROW1.out.frozenAt
  clear hb
  go_wp2_with fail
  go_loopw [5, 6] (fun i j wr => i = .int .i64 0 ∧ j = .int .i64 1 ∧ wr = w1) (fun _ _ _ => 0)
  case atStart => exact ⟨rfl, rfl, rfl⟩
  case round =>
    obtain ⟨rfl, rfl, hw⟩ := hrel
    rw [hw]
    clear hw
    go_wp2_with fail
    rw [run_clear_one w1 g cap (HCS.out) (HCF.out)]
    go_simp
    go_wp2_with fail
    go_ret
    have hz := row_cleared HROW1.out
    exact ⟨rfl, grown_trans ⟨HB.out.os, HB.out.tape, HB.out.output, HB.out.size, fun k hk _ => HB.out.block k hk⟩ hz.2, hz.1⟩

theorem drop_ok {H : Nat} {w : World} {L : List Sc} {sv : Value} {vs : List Value} (h : HR H w L sv vs) (i : Nat) (o : Int) (b : Bd) (hi : L[i]? = some ⟨o, [b]⟩) (nm : ByteArray) (hk : isS nm b = true) (h4 : b.kind = 4) :
    Calls Try.prog 13 #[hP H, .int .i64 (i : Int), .string nm] w fun e w' => e = .returned (.bool true) ∧ (∃ v', HR H w' (L.set i ⟨o, []⟩) sv (vs.set i v')) ∧ Fr H w w' := by
  obtain ⟨W0, hW0⟩ : ∃ W0, W0 = w.alloc (.cells #[.string nm] 9) := ⟨_, rfl⟩
  have hb0 : Below w.heap.size w W0 := by rw [hW0]; exact (Below.refl _ _).alloc (Nat.le_refl _) _
  have hz0 : W0.cell? ⟨w.heap.size, 0, none⟩ = some (.string nm) := by rw [hW0]; simp
  have HH0 := hide (h.later hb0)
  have HI := hide hi
  have hk0 : firstS nm [b] = some 0 := by simp [firstS, List.findIdx?_cons, hk]
  have HB0 := hide hb0
  have HKB := hide hk
  obtain ⟨c0, c1, cf, cl⟩ := HH0.out.c0
  obtain ⟨g, cap, v, rfl, hlt, hv, k0, k1, k2, hrow, hg, hHg, _⟩ := HH0.out.at_ HI.out
  have HC := hide (at_in g cap L.length i hlt W0)
  have HD := hide (bind_any g (i * 3) v [b] H nm W0 k2 hrow (by simp))
  obtain ⟨gb, capb, rfl, hkl, -⟩ := bd_cells (k := 0) (b := b) hrow rfl
  rw [hk0] at HD
  simp only [bptr, Nat.zero_mul] at HD
  have HV := hide hv
  have hH : H < w.heap.size := lt_of_block h.blk
  have hW0' := hide hW0
  have HZ0 := hide hz0
  have HZL : Hid (w.heap.size < W0.heap.size) := by rw [hW0]; simp [Hid]
  obtain ⟨e0, e1, ef, el⟩ := h.c0
  clear h hi hk hk0 hb0 k0 k1 k2 hrow hv hW0 c0 c1 cf
  unfold hP
  go_enter Try.func13, Try.ntmps13
  go_wp2_with fail
  rw [← hW0'.out]
  refine Calls.mono HC.out ?_
  rintro e w1 ⟨rfl, hw⟩
  rw [hw]
  clear hw
  go_wp2_with fail
  refine Calls.mono HD.out ?_
  rintro e w1 ⟨rfl, hb1⟩
  have HH1 := hide (HH0.out.later hb1)
  have HB1 := hide hb1
  obtain ⟨g', cap', hv', _, d0, d1, d2, d3, d4, d5, hgl, _, df⟩ := bd_cells (k := 0) (b := b) (HH1.out.own i _ _ HI.out HV.out) rfl
  simp only [Value.slice.injEq, Option.some.injEq, Addr.mk.injEq, and_true, true_and] at hv'
  obtain ⟨rfl, rfl⟩ := hv'
  obtain ⟨g', cap', v', hsv, _, hv2, k0, k1, k2, hrow, hg1, _, kf⟩ := HH1.out.at_ HI.out
  simp only [Value.slice.injEq, Option.some.injEq, Addr.mk.injEq, and_true, true_and] at hsv
  obtain ⟨rfl, rfl⟩ := hsv
  rw [HV.out] at hv2
  cases hv2
  have hz1 : w1.cell? ⟨w.heap.size, 0, none⟩ = some (.string nm) := (cell_below HB1.out (a := ⟨w.heap.size, 0, none⟩) HZL.out).trans HZ0.out
  have HE := hide (delete_one gb capb H b nm w.heap.size w1 hrow HKB.out hz1)
  rw [h4] at d4
  simp only [Nat.zero_mul, Nat.zero_add] at d4
  clear hb1 hrow hz1 hz0 d0 d1 d2 d3 d5 k0 k1 HC HD
  go_wp2_with fail
  refine Calls.mono HE.out ?_
  rintro e w2 ⟨rfl, hgr, hown⟩
  have hz := HH1.out.put HI.out HV.out (bs' := []) hgr hown (.inl rfl) (by simp)
  have HZ := hide hz
  have kg : w2.cell? ⟨g, i * 3 + 2, none⟩ = some (.slice (some ⟨gb, 0, none⟩) 1 capb) ∧ w2.frozen? ⟨g, i * 3 + 2, none⟩ = false := by
    have hne : some g ≠ some gb := fun e => by
      obtain ⟨_, _, hnn⟩ := HH1.out.ne HV.out
      exact (hnn g e.symm).2.2.1 rfl
    have hbk := hgr.block g hg1 hne
    exact ⟨(World.cell?_of_block (w := w1) (a := ⟨g, i * 3 + 2, none⟩) hbk).trans k2, (World.frozen?_of_block (w := w1) (a := ⟨g, i * 3 + 2, none⟩) hbk).trans kf⟩
  obtain ⟨kg1, kg2⟩ := kg
  clear hz hgr hown k2 kf d4 df HE
  go_wp2_with fail
  go_ret
  exact ⟨rfl, ⟨_, HZ.out.1⟩, ((Fr.of HB0.out (Nat.le_of_lt hH)).trans (Fr.of HB1.out (Nat.le_of_lt cl))).trans HZ.out.2⟩

theorem hasS_one (s : ByteArray) (o : Int) (b : Bd) : hasS s ⟨o, [b]⟩ = isS s b := by
  cases h : isS s b <;> simp [hasS, firstS, List.findIdx?_cons, h]
theorem firstS_one {s : ByteArray} {b : Bd} (h : isS s b = true) : firstS s [b] = some 0 := by simp [firstS, List.findIdx?_cons, h]
theorem isS_self (s : ByteArray) (a n : Int) (t : ByteArray) (k : Int) (r : Bool) : isS s ⟨s, a, n, t, k, r⟩ = true := by simp [isS]
theorem isS_ab (a n : Int) (t : ByteArray) (k : Int) (r : Bool) : isS ⟨#[98]⟩ ⟨⟨#[97]⟩, a, n, t, k, r⟩ = false := by
  show ((⟨#[97]⟩ : ByteArray).toList == (⟨#[98]⟩ : ByteArray).toList) = false
  kernel_rfl
theorem heaped_any (w : World) : Calls Try.prog 8 #[] w fun e w' => e = .returned (.bool true) ∧ Below w.heap.size w w' := by
  have HS0 := hide (HR.start w)
  have HC := hide (scope_first HS0.out (by decide))
  have HF0 := hide ((Below.refl w.heap.size w).alloc (Nat.le_refl _) (.cells #[.slice none 0 0, .slice none 0 0] 26))
  unfold hP at HC
  go_enter Try.func8, Try.ntmps8
  go_wp2_with fail
  refine Calls.mono HC.out ?_
  rintro e w1 ⟨rfl, ⟨sv1, hh1⟩, hf1⟩
  have HH1 := hide hh1
  have HF1 := hide (HF0.out.trans hf1.below)
  have HO := hide (of_any 3 w1)
  clear hh1 hf1 HC
  go_wp2_with fail
  refine Calls.mono HO.out ?_
  rintro e w2 ⟨rfl, hb2⟩
  have HH2 := hide (HH1.out.later hb2)
  have HF2 := hide (HF1.out.trans (hb2.mono HF1.out.size))
  have HD := hide (declare_0 HH2.out 0 ⟨-1, []⟩ rfl ⟨#[97]⟩ rfl 3 3 ⟨#[]⟩ (by decide))
  unfold hP at HD
  clear hb2 HO
  go_wp2_with fail
  refine Calls.mono HD.out ?_
  rintro e w3 ⟨rfl, ⟨v3, hh3⟩, hf3⟩
  have HH3 := hide hh3
  have HF3 := hide (HF2.out.trans hf3.below)
  have HR_ := hide (read_ok HH3.out 0 ⟨-1, [⟨⟨#[97]⟩, 3, 3, ⟨#[]⟩, 0, true⟩]⟩ rfl ⟨#[97]⟩ 0 _ (firstS_one (by simp [isS])) rfl rfl)
  unfold hP vOf at HR_
  clear hh3 hf3 HD
  go_wp2_with fail
  refine Calls.mono HR_.out ?_
  rintro e w4 ⟨rfl, hb4⟩
  have HH4 := hide (HH3.out.later hb4)
  have HF4 := hide (HF3.out.trans (hb4.mono HF3.out.size))
  clear hb4 HR_
  go_wp2_with fail
  obtain ⟨W5, hW5⟩ : ∃ W5, W5 = w4.alloc (.cells #[.int .i64 3, .int .i64 3, .string ⟨#[]⟩] 32) := ⟨_, rfl⟩
  have hb5 : Below w4.heap.size w4 W5 := by rw [hW5]; exact (Below.refl _ _).alloc (Nat.le_refl _) _
  have HH5 := hide (HH4.out.later hb5)
  have HF5 := hide (HF4.out.trans (hb5.mono HF4.out.size))
  obtain ⟨n0, n1, n2, nf, nl⟩ := new3 (w1 := W5) (by rw [hW5]; exact Below.refl _ _)
  have HN : Hid (∀ W, Below W5.heap.size W5 W → W.cell? ⟨w4.heap.size, 0, none⟩ = some (.int .i64 3) ∧ W.cell? ⟨w4.heap.size, 1, none⟩ = some (.int .i64 3) ∧ W.cell? ⟨w4.heap.size, 2, none⟩ = some (.string ⟨#[]⟩)) := fun W hW =>
    ⟨(cell_below hW (a := ⟨w4.heap.size, 0, none⟩) nl).trans n0, (cell_below hW (a := ⟨w4.heap.size, 1, none⟩) nl).trans n1, (cell_below hW (a := ⟨w4.heap.size, 2, none⟩) nl).trans n2⟩
  rw [← hW5]
  clear hW5 hb5 n0 n1 n2 nf nl
  have HS := hide (Below.refl W5.heap.size W5).drew
  refine wp_region_held (S := fun W => Below W5.heap.size W5 W) (by kernel_rfl) ?_
  change wpAnyH _ _ _ _ _ _ _ _ (World.drew _)
  refine wh 0 (.nilIface) HS.out ?_
  refine wh 1 (.bool true) HS.out ?_
  refine wh 2 (.bool true) HS.out ?_
  refine wh 3 (.nilIface) HS.out ?_
  refine wh 4 (.bool true) HS.out ?_
  refine wh 5 (.bool true) HS.out ?_
  refine wh 6 (.bool true) HS.out ?_
  refine wg 7 (.agg #[.int .i64 3, .int .i64 3, .string ⟨#[]⟩]) rfl (Or.inl ⟨by kernel_rfl, fun W hW => by obtain ⟨q0, q1, q2⟩ := HN.out W hW; go_simp⟩) HS.out ?_
  refine wq1 8 fun K hK => ?_
  go_simp
  refine Calls.mono (of_any 3 W5.drew) ?_
  rintro e w6 ⟨rfl, hb6⟩
  have HS6 : Hid (Below W5.heap.size W5 w6) := HS.out.trans hb6
  refine hK.out _ _ HS6.out (fun _ => ?_)
  clear hK K hb6
  refine wh 9 (.bool true) HS6.out ?_
  refine wh 10 (.bool true) HS6.out ?_
  refine wh 11 (.bool true) HS6.out ?_
  refine wh 12 (.int .i64 0) HS6.out ?_
  refine wh 14 (.int .i64 0) HS6.out ?_
  refine wq1 13 fun K hK => ?_
  go_simp
  have HA := hide (find_any (HH5.out.later HS6.out) 0 0 ⟨#[97]⟩ (Finds.here 0 ⟨-1, [⟨⟨#[97]⟩, 3, 3, ⟨#[]⟩, 0, true⟩]⟩ rfl (by rw [hasS_one]; exact isS_self _ _ _ _ _ _)))
  unfold hP at HA
  refine Calls.mono HA.out ?_
  rintro e w7 ⟨rfl, hb7⟩
  have HS7 : Hid (Below W5.heap.size W5 w7) := HS6.out.trans (hb7.mono HS6.out.size)
  refine hK.out _ _ HS7.out (fun _ => ?_)
  clear hK K hb7 HA
  refine wh 15 (.bool true) HS7.out ?_
  refine wh 16 (.bool true) HS7.out ?_
  refine wh 17 (.bool true) HS7.out ?_
  refine wh 18 (.int .i64 0) HS7.out ?_
  refine wq1 19 fun K hK => ?_
  go_simp
  have HA := hide (find_any (HH5.out.later HS7.out) 0 (-1) ⟨#[98]⟩ (Finds.on 0 ⟨-1, [⟨⟨#[97]⟩, 3, 3, ⟨#[]⟩, 0, true⟩]⟩ _ rfl (by rw [hasS_one]; exact isS_ab _ _ _ _ _) (by decide) (Finds.out _ (.inl (by decide)))))
  unfold hP at HA
  refine Calls.mono HA.out ?_
  rintro e w8 ⟨rfl, hb8⟩
  have HS8 : Hid (Below W5.heap.size W5 w8) := HS7.out.trans (hb8.mono HS7.out.size)
  refine hK.out _ _ HS8.out (fun _ => ?_)
  clear hK K hb8 HA
  refine wh 20 (.bool true) HS8.out ?_
  refine wh 21 (.bool true) HS8.out ?_
  refine wh 22 (.bool true) HS8.out ?_
  refine wpAnyH_done (by kernel_rfl) ?_ _
  go_simp
  go_wp2_with fail
  go_ret
  exact ⟨rfl, HF5.out.trans (HS8.out.mono HF5.out.size)⟩

def chain (b : Bd) (n : Nat) : List Sc := ⟨-1, [b]⟩ :: (List.range n).map fun j : Nat => ⟨(j : Int), []⟩
theorem chain_len (b : Bd) (n : Nat) : (chain b n).length = n + 1 := by simp [chain]
theorem chain_zero (b : Bd) (n : Nat) : (chain b n)[0]? = some ⟨-1, [b]⟩ := rfl
theorem chain_succ (b : Bd) (n j : Nat) (h : j < n) : (chain b n)[j + 1]? = some ⟨(j : Int), []⟩ := by simp [chain, h]
theorem chain_snoc (b : Bd) (n : Nat) : chain b n ++ [⟨(n : Int), []⟩] = chain b (n + 1) := by simp [chain, List.range_succ]
theorem none_has (nm : ByteArray) (o : Int) : hasS nm ⟨o, []⟩ = false := rfl
theorem finds_chain (b : Bd) (n : Nat) (nm : ByteArray) (hb : isS nm b = true) : ∀ j : Nat, j ≤ n → Finds (chain b n) nm (j : Int) 0
  | 0, _ => Finds.here 0 _ (chain_zero b n) (by rw [hasS_one]; exact hb)
  | j + 1, h => Finds.on (j + 1) _ _ (chain_succ b n j (by omega)) (none_has nm _) (by simp; omega) (finds_chain b n nm hb j (by omega))
theorem finds_in (b c : Bd) (n m : Nat) (nm : ByteArray) (hc : isS nm c = true) (hm : m < n) : ∀ j : Nat, m + 1 ≤ j → j ≤ n → Finds ((chain b n).set (m + 1) ⟨(m : Int), [c]⟩) nm (j : Int) ((m + 1 : Nat) : Int)
  | 0, h, _ => by omega
  | j + 1, h, h' => by
    by_cases e : j = m
    · subst e
      exact Finds.here (j + 1) _ (List.getElem?_set_self (by rw [chain_len]; omega)) (by rw [hasS_one]; exact hc)
    · refine Finds.on (j + 1) ⟨(j : Int), []⟩ _ ?_ (none_has nm _) (by simp; omega) (finds_in b c n m nm hc hm j (by omega) (by omega))
      rw [List.getElem?_set_ne (by omega)]
      exact chain_succ b n j (by omega)
theorem chain_back (b : Bd) (n m : Nat) (hm : m < n) : (chain b n).set (m + 1) ⟨(m : Int), []⟩ = chain b n := by
  have h := chain_succ b n m hm
  obtain ⟨hx, he⟩ := List.getElem?_eq_some_iff.1 h
  rw [← he]
  exact List.set_getElem_self hx

def nums (n : Nat) : List Value := (List.range n).map fun j : Nat => .int .i64 (j : Int)
theorem nums_snoc (n : Nat) : nums (n + 1) = nums n ++ [.int .i64 (n : Int)] := by simp [nums, List.range_succ]
theorem nums_get (n j : Nat) (h : j < n) : (nums n)[j]? = some (.int .i64 (j : Int)) := by simp [nums, h]
theorem nums_row {w : World} {base : Nat} {v : Value} {n : Nat} (h : w.ownsRow base 3 1 v (n + 1) (nums (n + 1))) : ∃ g cap, v = .slice (some ⟨g, 0, none⟩) (n + 1) cap ∧ g < w.heap.size ∧ (∀ j, j ≤ n → w.cell? ⟨g, j, none⟩ = some (.int .i64 (j : Int))) ∧ ∃ c, w.heap[g]? = some (.cells c 3 (0, 0)) := by
  rcases row_form h with ⟨_, hn⟩ | ⟨g, cap, rfl⟩
  · omega
  · refine ⟨g, cap, rfl, (h.lt g rfl).2, fun j hj => ?_, row_tag h rfl⟩
    rw [h.cellAt j (by omega), nums_get _ _ (by omega)]
theorem Fr.row {H : Nat} {w w' : World} (hf : Fr H w w') {base : Nat} {v : Value} {n : Nat} {xs : List Value} (h : w.ownsRow base 3 1 v n xs) : w'.ownsRow base 3 1 v n xs := by
  refine ⟨h.1, ?_⟩
  rcases h.2 with h | ⟨g, cap, cur, hv, hb, hg, r⟩
  · exact .inl h
  · exact .inr ⟨g, cap, cur, hv, hb, hf.ints g cur 3 hg (by decide), r⟩
theorem HR.apart3 {H : Nat} {w w' : World} {L : List Sc} {sv : Value} {vs : List Value} (h : HR H w L sv vs) {row : Option Nat} (hg : w.grownBy w' row) (hr : ∀ k, row = some k → ∃ c, w.heap[k]? = some (.cells c 3 (0, 0))) : HR H w' L sv vs := by
  have key : ∀ (k : Nat) c e z, w.heap[k]? = some (.cells c e z) → e ≠ 3 → w'.heap[k]? = some (.cells c e z) := fun k c e z hk he => by
    refine (hg.block k (lt_of_block hk) (fun q => ?_)).trans hk
    obtain ⟨c', hc'⟩ := hr k q.symm
    exact tags_ne hk hc' he rfl
  have rows : ∀ {base : Nat} {e : TypeId} {size : Nat} {v : Value} {n : Nat} {xs : List Value}, e ≠ 3 → w.ownsRow base e size v n xs → w'.ownsRow base e size v n xs := fun he h => by
    refine ⟨h.1, ?_⟩
    rcases h.2 with h | ⟨g, cap, cur, hv, hb, hgg, r⟩
    · exact .inl h
    · exact .inr ⟨g, cap, cur, hv, hb, key g cur _ _ hgg he, r⟩
  exact ⟨key H _ _ _ h.blk (by decide), rows (by decide) h.row, h.len, fun i s v a b => rows (by decide) (h.own i s v a b), h.apart, h.small, h.smalls⟩
end Go.Proofs.Ytcgnajjcfeiefab
