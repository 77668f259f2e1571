/-
  What is declared.
-/
import Derived.Test.YtopehplicnppfaaDoorHw0
import Derived.Deep.AppendLies
import Derived.OwnWalk
import Derived.Shelf.Strings.Builder1
import Derived.Shelf.Strconv.Itoa0
import Derived.Shelf.Strconv.Itoa1
import Derived.Shelf.LaysM
import Derived.Shelf.Strconv.Itoa2
import Derived.Shelf.Strconv.Itoa3
import Derived.Test.YtopehplicnppfaaDoorProg
import Derived.Lib.AppendIntMem
set_option maxRecDepth 100000
set_option maxHeartbeats 16000000
namespace Go.Proofs.YtopehplicnppfaaDoor
open Go.RowKit

theorem info58 : (Tryd.prog.info? 66).map (fun i => (i.zero, i.size, i.bytes)) = some (some (.agg #[.string ⟨#[]⟩, .int .i64 0, .int .i64 0, .string ⟨#[]⟩, .int .i64 0, .bool false]), 6, 64) := by kernel_rfl
theorem new6_cells (w : World) (H : Nat) (hH : w.heap.size = H) (x y : ByteArray) (a b c : Int) (r : Bool) (j : Nat) (u : Value) (h : ([.string x, .int .i64 a, .int .i64 b, .string y, .int .i64 c, .bool r] : List Value)[j]? = some u) :
    (w.alloc (.cells #[.string x, .int .i64 a, .int .i64 b, .string y, .int .i64 c, .bool r] 66)).cell? (Addr.add ⟨H, 0, none⟩ j) = some u := by
  subst hH
  match j, h with
  | 0, h => simp at h; subst h; simp [Addr.add]
  | 1, h => simp at h; subst h; simp [Addr.add]
  | 2, h => simp at h; subst h; simp [Addr.add]
  | 3, h => simp at h; subst h; simp [Addr.add]
  | 4, h => simp at h; subst h; simp [Addr.add]
  | 5, h => simp at h; subst h; simp [Addr.add]
  | k + 6, h => simp at h
theorem new6_one (x y : ByteArray) (a b c : Int) (r : Bool) : ∀ u ∈ ([.string x, .int .i64 a, .int .i64 b, .string y, .int .i64 c, .bool r] : List Value), u.oneCell' = true := by
  intro u hu
  simp at hu
  rcases hu with rfl | rfl | rfl | rfl | rfl | rfl <;> rfl
theorem rowB_snoc (bs : List Bd) (b : Bd) : rowB (bs ++ [b]) = rowB bs ++ b.cells := by simp [rowB]
def readyOf (k : Int) : Bool := decide (k ≠ 1) && decide (k ≠ 2)
theorem declare_0 {H : Nat} {w : World} {L : List Sc} {sv : Value} {vs : List Value} (h : HR H w L sv vs) (i : Nat) (s : Sc) (hi : L[i]? = some s) (nm : ByteArray) (hk : firstS nm s.bs = none) (a n : Int) (t : ByteArray) (hl : s.bs.length < 100) :
    Calls Tryd.prog 14 #[hP H, .int .i64 (i : Int), .string nm, (.int .i64 0), .agg #[.int .i64 a, .int .i64 n, .string t]] w fun e w' => e = .returned .nilIface ∧ (∃ v', HR H w' (L.set i ⟨s.outer, s.bs ++ [⟨nm, a, n, t, 0, true⟩]⟩) sv (vs.set i v')) ∧ Fr H w w' := by
  obtain ⟨W0, hW0⟩ : ∃ W0, W0 = w.alloc (.cells #[.int .i64 a, .int .i64 n, .string t] 28) := ⟨_, rfl⟩
  have hb0 : Below w.heap.size w W0 := by rw [hW0]; exact (Below.refl _ _).alloc (Nat.le_refl _) _
  have hsz : W0.heap.size = w.heap.size + 1 := by rw [hW0]; simp
  have h0 := h.later hb0
  have HWL := hide (lt_of_block h.blk)
  have HH0 := hide h0
  have HI := hide hi
  have HK := hide hk
  have HLN := hide hl
  have HB0 := hide hb0
  have HSZ := hide hsz
  have HN : Hid (∀ w1, Below W0.heap.size W0 w1 → Below (w.heap.size + 1) (w.alloc (.cells #[.int .i64 a, .int .i64 n, .string t] 28)) w1) := fun w1 hb => by rw [← hW0, ← hsz]; exact hb
  obtain ⟨c0, c1, cf, cl⟩ := HH0.out.c0
  obtain ⟨g, cap, v, rfl, hlt, hv, k0, k1, k2, hrow, hg, hHg, _⟩ := HH0.out.at_ HI.out
  have HC := hide (at_in g cap L.length i hlt W0)
  have HD := hide (bind_any g (i * 3) v s.bs H nm W0 k2 hrow (Nat.le_trans (HH0.out.smalls i s HI.out) (by decide)))
  rw [HK.out, show bptr v none = none from bptr_none v] at HD
  have HV := hide hv
  have hHw : H < w.heap.size := HWL.out
  have hW0' := hide hW0
  rw [hW0] at c1
  rw [World.cell?_alloc_lt _ _ _ (by exact hHw)] at c1
  clear h hi hk h0 hb0 hsz k0 k2 hrow hv hl c0 cf hW0
  unfold hP
  go_enter Tryd.func14, Tryd.ntmps14
  go_wp2_with fail
  rw [← hW0'.out]
  refine Calls.mono HC.out ?_
  rintro e w1 ⟨rfl, hw⟩
  rw [hw]
  clear hw c1
  go_wp2_with fail
  refine Calls.mono HD.out ?_
  rintro e w1 ⟨rfl, hb1⟩
  have HH1 := hide (HH0.out.later hb1)
  have HB1 := hide hb1
  obtain ⟨n0, n1, n2, nf, nl⟩ := new3 (HN.out _ HB1.out)
  obtain ⟨g', cap', v', hsv, _, hv2, k0, k1, k2, hrow, hg1, _, kf⟩ := HH1.out.at_ HI.out
  simp only [Value.slice.injEq, Option.some.injEq, Addr.mk.injEq, and_true, true_and] at hsv
  obtain ⟨rfl, rfl⟩ := hsv
  rw [HV.out] at hv2
  cases hv2
  have HROW := hide hrow
  obtain ⟨ii, hi0, hz0, hz1, hz2⟩ := info_parts info58
  have hH1 : H < w1.heap.size := lt_of_block HH1.out.blk
  have hl := HLN.out
  clear hb1 hrow HC HD
  go_wp2_with fail
  refine wp_region_any (by kernel_rfl) ?_
  change wpAny _ _ _ _ _ _ _ (World.drew _)
  refine wt 0 (.pointer (some ⟨g, i * 3, none⟩)) ?_
  refine wt 1 (.pointer (some ⟨g, i * 3, none⟩)) ?_
  refine wt 2 (.pointer (some ⟨g, i * 3, none⟩)) ?_
  refine wt 3 (.pointer (some ⟨g, i * 3 + 2, none⟩)) ?_
  refine wt 5 (.string nm) ?_
  refine wt 7 (.int .i64 0) ?_
  refine wt 8 (.bool true) ?_
  refine wr2 4 6 (fun K hK => ?ca) fun K hK => ?cb
  case' ca =>
    go_simp
    refine hK _ _ ?_
    clear hK K
    refine wr1 6 fun K hK => ?_
    go_simp
    refine hK _ _ ?_
    clear hK K
    refine wt 9 (.agg #[.string nm, .int .i64 a, .int .i64 n, .string t, .int .i64 0, .bool true]) ?_
    refine wr1 10 fun K hK => ?_
    go_simp
    refine hK _ _ ?_
    clear hK K
  case' cb =>
    go_simp
    refine hK _ _ ?_
    clear hK K
    refine wt 9 (.agg #[.string nm, .int .i64 a, .int .i64 n, .string t, .int .i64 0, .bool true]) ?_
    refine wr2 4 10 (fun K hK => ?cc) fun K hK => ?cd
  case' cc =>
    go_simp
    refine hK _ _ ?_
    clear hK K
    refine wr1 10 fun K hK => ?_
    go_simp
    refine hK _ _ ?_
    clear hK K
  case' cd =>
    go_simp
    refine hK _ _ ?_
    clear hK K
    refine wr1 4 fun K hK => ?_
    go_simp
    refine hK _ _ ?_
    clear hK K
  all_goals
    refine wr1 11 fun K hK => ?_
    refine step_append_lies _ rfl _ _ 55 rfl H 66 ii _ 6 64 Tryd.underlying55 hi0 hz0 hz1 hz2 rfl (by decide) _ _ _ rfl (HROW.out.drew.alloc _) ⟨w1.heap.size, 0, none⟩ 1 1 [.string nm, .int .i64 a, .int .i64 n, .string t, .int .i64 0, .bool true] rfl rfl (new6_cells _ _ rfl _ _ _ _ _ _) (new6_one _ _ _ _ _ _) (by decide) (by unfold maxLen; omega) (by omega) (by simp; omega) (w1.heap.size + 1) (by simp) ?_
    intro gn capn w3 hown3 hgr3 hg3 _
    refine hK _ _ ?_
    clear hK K
    have hgr : w1.grownBy w3 v.ownBlock := grown_trans (grown_trans (b := w1.drew) ⟨rfl, rfl, rfl, Nat.le_refl _, fun _ _ _ => rfl⟩ (World.grownBy_alloc _ _ _)) hgr3
    have hz := HH1.out.put HI.out HV.out hgr (v' := .slice (some ⟨gn, 0, none⟩) (s.bs.length + 1) capn) (bs' := s.bs ++ [⟨nm, a, n, t, 0, true⟩]) (by rw [rowB_snoc]; simpa [Bd.cells] using hown3) (hg3.imp (fun e => e.symm) (fun e => ⟨gn, rfl, by rw [e]; exact Nat.le_succ _⟩)) (by simp; omega)
    have HZ := hide hz
    have kg : w3.cell? ⟨g, i * 3 + 2, none⟩ = some v ∧ w3.frozen? ⟨g, i * 3 + 2, none⟩ = false := by
      have hne : some g ≠ v.ownBlock := fun e => by
        obtain ⟨_, _, hnn⟩ := HH1.out.ne HV.out
        exact (hnn g e.symm).2.2.1 rfl
      have hbk := hgr.block g hg1 hne
      exact ⟨(World.cell?_of_block (w := w1) (a := ⟨g, i * 3 + 2, none⟩) hbk).trans k2, (World.frozen?_of_block (w := w1) (a := ⟨g, i * 3 + 2, none⟩) hbk).trans kf⟩
    obtain ⟨kg1, kg2⟩ := kg
    clear hz hgr hown3 hgr3 hg3 k0 k1 k2 kf n0 n1 n2 nf
    refine wt 12 (.pointer (some ⟨g, i * 3, none⟩)) ?_
    refine wt 13 (.pointer (some ⟨g, i * 3 + 2, none⟩)) ?_
    refine wr1 14 fun K hK => ?_
    go_simp
    refine hK _ _ ?_
    clear hK K
    refine wpAny_done (by kernel_rfl) ?_ _
    go_simp
    go_wp2_with fail
    go_ret
    exact ⟨rfl, ⟨_, HZ.out.1⟩, ((Fr.of HB0.out (Nat.le_of_lt HWL.out)).trans (Fr.of HB1.out (Nat.le_of_lt cl))).trans HZ.out.2⟩
theorem declare_4 {H : Nat} {w : World} {L : List Sc} {sv : Value} {vs : List Value} (h : HR H w L sv vs) (i : Nat) (s : Sc) (hi : L[i]? = some s) (nm : ByteArray) (hk : firstS nm s.bs = none) (a n : Int) (t : ByteArray) (hl : s.bs.length < 100) :
    Calls Tryd.prog 14 #[hP H, .int .i64 (i : Int), .string nm, (.int .i64 4), .agg #[.int .i64 a, .int .i64 n, .string t]] w fun e w' => e = .returned .nilIface ∧ (∃ v', HR H w' (L.set i ⟨s.outer, s.bs ++ [⟨nm, a, n, t, 4, true⟩]⟩) sv (vs.set i v')) ∧ Fr H w w' := by
  obtain ⟨W0, hW0⟩ : ∃ W0, W0 = w.alloc (.cells #[.int .i64 a, .int .i64 n, .string t] 28) := ⟨_, rfl⟩
  have hb0 : Below w.heap.size w W0 := by rw [hW0]; exact (Below.refl _ _).alloc (Nat.le_refl _) _
  have hsz : W0.heap.size = w.heap.size + 1 := by rw [hW0]; simp
  have h0 := h.later hb0
  have HWL := hide (lt_of_block h.blk)
  have HH0 := hide h0
  have HI := hide hi
  have HK := hide hk
  have HLN := hide hl
  have HB0 := hide hb0
  have HSZ := hide hsz
  have HN : Hid (∀ w1, Below W0.heap.size W0 w1 → Below (w.heap.size + 1) (w.alloc (.cells #[.int .i64 a, .int .i64 n, .string t] 28)) w1) := fun w1 hb => by rw [← hW0, ← hsz]; exact hb
  obtain ⟨c0, c1, cf, cl⟩ := HH0.out.c0
  obtain ⟨g, cap, v, rfl, hlt, hv, k0, k1, k2, hrow, hg, hHg, _⟩ := HH0.out.at_ HI.out
  have HC := hide (at_in g cap L.length i hlt W0)
  have HD := hide (bind_any g (i * 3) v s.bs H nm W0 k2 hrow (Nat.le_trans (HH0.out.smalls i s HI.out) (by decide)))
  rw [HK.out, show bptr v none = none from bptr_none v] at HD
  have HV := hide hv
  have hHw : H < w.heap.size := HWL.out
  have hW0' := hide hW0
  rw [hW0] at c1
  rw [World.cell?_alloc_lt _ _ _ (by exact hHw)] at c1
  clear h hi hk h0 hb0 hsz k0 k2 hrow hv hl c0 cf hW0
  unfold hP
  go_enter Tryd.func14, Tryd.ntmps14
  go_wp2_with fail
  rw [← hW0'.out]
  refine Calls.mono HC.out ?_
  rintro e w1 ⟨rfl, hw⟩
  rw [hw]
  clear hw c1
  go_wp2_with fail
  refine Calls.mono HD.out ?_
  rintro e w1 ⟨rfl, hb1⟩
  have HH1 := hide (HH0.out.later hb1)
  have HB1 := hide hb1
  obtain ⟨n0, n1, n2, nf, nl⟩ := new3 (HN.out _ HB1.out)
  obtain ⟨g', cap', v', hsv, _, hv2, k0, k1, k2, hrow, hg1, _, kf⟩ := HH1.out.at_ HI.out
  simp only [Value.slice.injEq, Option.some.injEq, Addr.mk.injEq, and_true, true_and] at hsv
  obtain ⟨rfl, rfl⟩ := hsv
  rw [HV.out] at hv2
  cases hv2
  have HROW := hide hrow
  obtain ⟨ii, hi0, hz0, hz1, hz2⟩ := info_parts info58
  have hH1 : H < w1.heap.size := lt_of_block HH1.out.blk
  have hl := HLN.out
  clear hb1 hrow HC HD
  go_wp2_with fail
  refine wp_region_any (by kernel_rfl) ?_
  change wpAny _ _ _ _ _ _ _ (World.drew _)
  refine wt 0 (.pointer (some ⟨g, i * 3, none⟩)) ?_
  refine wt 1 (.pointer (some ⟨g, i * 3, none⟩)) ?_
  refine wt 2 (.pointer (some ⟨g, i * 3, none⟩)) ?_
  refine wt 3 (.pointer (some ⟨g, i * 3 + 2, none⟩)) ?_
  refine wt 5 (.string nm) ?_
  refine wt 7 (.int .i64 4) ?_
  refine wt 8 (.bool true) ?_
  refine wr2 4 6 (fun K hK => ?ca) fun K hK => ?cb
  case' ca =>
    go_simp
    refine hK _ _ ?_
    clear hK K
    refine wr1 6 fun K hK => ?_
    go_simp
    refine hK _ _ ?_
    clear hK K
    refine wt 9 (.agg #[.string nm, .int .i64 a, .int .i64 n, .string t, .int .i64 4, .bool true]) ?_
    refine wr1 10 fun K hK => ?_
    go_simp
    refine hK _ _ ?_
    clear hK K
  case' cb =>
    go_simp
    refine hK _ _ ?_
    clear hK K
    refine wt 9 (.agg #[.string nm, .int .i64 a, .int .i64 n, .string t, .int .i64 4, .bool true]) ?_
    refine wr2 4 10 (fun K hK => ?cc) fun K hK => ?cd
  case' cc =>
    go_simp
    refine hK _ _ ?_
    clear hK K
    refine wr1 10 fun K hK => ?_
    go_simp
    refine hK _ _ ?_
    clear hK K
  case' cd =>
    go_simp
    refine hK _ _ ?_
    clear hK K
    refine wr1 4 fun K hK => ?_
    go_simp
    refine hK _ _ ?_
    clear hK K
  all_goals
    refine wr1 11 fun K hK => ?_
    refine step_append_lies _ rfl _ _ 55 rfl H 66 ii _ 6 64 Tryd.underlying55 hi0 hz0 hz1 hz2 rfl (by decide) _ _ _ rfl (HROW.out.drew.alloc _) ⟨w1.heap.size, 0, none⟩ 1 1 [.string nm, .int .i64 a, .int .i64 n, .string t, .int .i64 4, .bool true] rfl rfl (new6_cells _ _ rfl _ _ _ _ _ _) (new6_one _ _ _ _ _ _) (by decide) (by unfold maxLen; omega) (by omega) (by simp; omega) (w1.heap.size + 1) (by simp) ?_
    intro gn capn w3 hown3 hgr3 hg3 _
    refine hK _ _ ?_
    clear hK K
    have hgr : w1.grownBy w3 v.ownBlock := grown_trans (grown_trans (b := w1.drew) ⟨rfl, rfl, rfl, Nat.le_refl _, fun _ _ _ => rfl⟩ (World.grownBy_alloc _ _ _)) hgr3
    have hz := HH1.out.put HI.out HV.out hgr (v' := .slice (some ⟨gn, 0, none⟩) (s.bs.length + 1) capn) (bs' := s.bs ++ [⟨nm, a, n, t, 4, true⟩]) (by rw [rowB_snoc]; simpa [Bd.cells] using hown3) (hg3.imp (fun e => e.symm) (fun e => ⟨gn, rfl, by rw [e]; exact Nat.le_succ _⟩)) (by simp; omega)
    have HZ := hide hz
    have kg : w3.cell? ⟨g, i * 3 + 2, none⟩ = some v ∧ w3.frozen? ⟨g, i * 3 + 2, none⟩ = false := by
      have hne : some g ≠ v.ownBlock := fun e => by
        obtain ⟨_, _, hnn⟩ := HH1.out.ne HV.out
        exact (hnn g e.symm).2.2.1 rfl
      have hbk := hgr.block g hg1 hne
      exact ⟨(World.cell?_of_block (w := w1) (a := ⟨g, i * 3 + 2, none⟩) hbk).trans k2, (World.frozen?_of_block (w := w1) (a := ⟨g, i * 3 + 2, none⟩) hbk).trans kf⟩
    obtain ⟨kg1, kg2⟩ := kg
    clear hz hgr hown3 hgr3 hg3 k0 k1 k2 kf n0 n1 n2 nf
    refine wt 12 (.pointer (some ⟨g, i * 3, none⟩)) ?_
    refine wt 13 (.pointer (some ⟨g, i * 3 + 2, none⟩)) ?_
    refine wr1 14 fun K hK => ?_
    go_simp
    refine hK _ _ ?_
    clear hK K
    refine wpAny_done (by kernel_rfl) ?_ _
    go_simp
    go_wp2_with fail
    go_ret
    exact ⟨rfl, ⟨_, HZ.out.1⟩, ((Fr.of HB0.out (Nat.le_of_lt HWL.out)).trans (Fr.of HB1.out (Nat.le_of_lt cl))).trans HZ.out.2⟩

theorem HR.start (w : World) : HR w.heap.size (w.alloc (.cells #[.slice none 0 0, .slice none 0 0] 25)) [] (.slice none 0 0) [] :=
  ⟨heap_alloc_new w _, World.ownsRow_nil _ _ _ _, rfl, fun i s v h => by simp at h, fun i j a b g h => by simp at h, by simp, fun i s h => by simp at h⟩
theorem HR.push {H : Nat} {w w1 : World} {L : List Sc} {sv : Value} {vs : List Value} (h : HR H w L sv vs) (o : Int) {g cap : Nat} (hgr : w.grownBy w1 sv.ownBlock)
    (hown : w1.ownsRow H 57 3 (.slice (some ⟨g, 0, none⟩) (L.length + 1) cap) (L.length + 1) (rowS L vs ++ [.int .i64 o, .int .i64 (-1), .slice none 0 0])) (hg' : sv.ownBlock = some g ∨ w.heap.size ≤ g) (hl : L.length < 100) :
    HR H (w1.setCell ⟨H, 1, none⟩ (.slice (some ⟨g, 0, none⟩) (L.length + 1) cap)) (L ++ [⟨o, []⟩]) (.slice (some ⟨g, 0, none⟩) (L.length + 1) cap) (vs ++ [.slice none 0 0]) ∧ Fr H w (w1.setCell ⟨H, 1, none⟩ (.slice (some ⟨g, 0, none⟩) (L.length + 1) cap)) := by
  have hHl := lt_of_block h.blk
  have hsv : ∀ k, sv.ownBlock = some k → H < k ∧ k < w.heap.size ∧ ∃ c, w.heap[k]? = some (.cells c 57 (0, 0)) := fun k hk => by
    obtain ⟨c, hc⟩ := row_tag h.row hk
    have h1 := h.row.lt k hk
    have h2 : k ≠ H := tags_ne hc h.blk (by decide)
    exact ⟨by omega, h1.2, c, hc⟩
  have hgH : g ≠ H := by
    rcases hg' with e | e
    · have := (hsv g e).1; omega
    · omega
  have hb1 : w1.heap[H]? = some (.cells #[.slice none 0 0, sv] 25 (0, 0)) := by
    rw [hgr.block H hHl (fun e => by have := (hsv H e.symm).1; omega)]; exact h.blk
  refine ⟨⟨?_, ?_, by simp [h.len], ?_, ?_, by simp; omega, ?_⟩, ?_⟩
  · rw [heap_setCell_same w1 H 1 _ 25 _ hb1]; rfl
  · have e := rowS_app L [⟨o, []⟩] vs [.slice none 0 0] h.len
    rw [e]
    simp only [List.length_append, List.length_singleton]
    exact ownsRow_setCell_other hown (by simp [Value.ownBlock]; exact hgH) _
  · intro j s' v' hj hv'
    by_cases hjl : j < L.length
    · rw [List.getElem?_append_left hjl] at hj
      rw [List.getElem?_append_left (by rw [h.len]; exact hjl)] at hv'
      obtain ⟨_, _, hn⟩ := h.ne hv'
      refine ownsRow_setCell_other ((h.own j s' v' hj hv').kept hgr ?_) (fun e => by have := (hn H e).1; omega) _
      cases hq : v'.ownBlock with
      | none => exact .inl rfl
      | some q => exact .inr fun e => (hn q hq).2.2.1 e.symm
    · have hj' := (List.getElem?_eq_some_iff.1 hj).1
      simp at hj'
      have : j = L.length := by omega
      subst this
      rw [List.getElem?_append_right (by omega)] at hj
      rw [List.getElem?_append_right (by rw [h.len]; omega)] at hv'
      simp [h.len] at hj hv'
      subst hj hv'
      exact World.ownsRow_nil _ _ _ _
  · intro i j a b q ha hb hqa hqb
    have key : ∀ (i : Nat) (a : Value), (vs ++ [Value.slice none 0 0])[i]? = some a → a.ownBlock = some q → vs[i]? = some a := by
      intro i a hi hq
      by_cases hil : i < vs.length
      · rw [List.getElem?_append_left hil] at hi; exact hi
      · have hi' := (List.getElem?_eq_some_iff.1 hi).1
        simp at hi'
        have : i = vs.length := by omega
        subst this
        rw [List.getElem?_append_right (by omega)] at hi
        simp at hi
        subst hi
        simp [Value.ownBlock] at hq
    exact h.apart i j a b q (key i a ha hqa) (key j b hb hqb) hqa hqb
  · intro j s' hj
    by_cases hjl : j < L.length
    · rw [List.getElem?_append_left hjl] at hj
      exact h.smalls j s' hj
    · have hj' := (List.getElem?_eq_some_iff.1 hj).1
      simp at hj'
      have : j = L.length := by omega
      subst this
      rw [List.getElem?_append_right (by omega)] at hj
      simp at hj
      subst hj
      simp
  · exact Fr.setCell (Fr.grown hgr (Nat.le_of_lt hHl) fun k hk => ⟨Nat.le_of_lt (hsv k hk).1, (hsv k hk).2.2.choose, 57, (hsv k hk).2.2.choose_spec, by decide⟩) hb1 (by decide) (Nat.le_refl _) _
theorem new3_cells (w : World) (H : Nat) (hH : w.heap.size = H) (a b : Int) (v : Value) (j : Nat) (u : Value) (h : ([.int .i64 a, .int .i64 b, v] : List Value)[j]? = some u) :
    (w.alloc (.cells #[.int .i64 a, .int .i64 b, v] 57)).cell? (Addr.add ⟨H, 0, none⟩ j) = some u := by
  subst hH
  match j, h with
  | 0, h => simp at h; subst h; simp [Addr.add]
  | 1, h => simp at h; subst h; simp [Addr.add]
  | 2, h => simp at h; subst h; simp [Addr.add]
  | k + 3, h => simp at h
theorem new3_one (a b : Int) : ∀ u ∈ ([.int .i64 a, .int .i64 b, .slice none 0 0] : List Value), u.oneCell' = true := by
  intro u hu
  simp at hu
  rcases hu with rfl | rfl | rfl <;> rfl
theorem info46 : (Tryd.prog.info? 57).map (fun i => (i.zero, i.size, i.bytes)) = some (some (.agg #[.int .i64 0, .int .i64 0, .slice none 0 0]), 3, 40) := by kernel_rfl
theorem scope_first {H : Nat} {w : World} {L : List Sc} {sv : Value} {vs : List Value} (h : HR H w L sv vs) (hl : L.length < 100) :
    Calls Tryd.prog 12 #[hP H, .int .i64 (-1), .int .i64 (-1)] w fun e w' => e = .returned (.int .i64 (L.length : Int)) ∧ (∃ sv', HR H w' (L ++ [⟨(-1), []⟩]) sv' (vs ++ [.slice none 0 0])) ∧ Fr H w w' := by
  have hH : H < w.heap.size := lt_of_block h.blk
  obtain ⟨c0, c1, cf, cl⟩ := h.c0
  have HH := hide h
  have HC := hide (at_out sv L.length (row_form h.row) (-1) (.inl (by decide)) (w.alloc (.cells #[.int .i64 (-1), .int .i64 (-1), .slice none 0 0] 57)))
  have HD := hide (at_none (-1) (w.alloc (.cells #[.int .i64 (-1), .int .i64 (-1), .slice none 0 0] 57)))
  clear h
  unfold hP
  go_enter Tryd.func12, Tryd.ntmps12
  go_wp2_with fail
  refine Calls.mono HC.out ?_
  rintro e w1 ⟨rfl, hw⟩
  rw [hw]
  clear hw
  go_wp2_with fail
  refine Calls.mono HD.out ?_
  rintro e w1 ⟨rfl, hw⟩
  rw [hw]
  clear hw
  go_wp2_with fail
  obtain ⟨ii, hi0, hz0, hz1, hz2⟩ := info_parts info46
  obtain ⟨W0, hW0⟩ : ∃ W0, W0 = w.alloc (.cells #[.int .i64 (-1), .int .i64 (-1), .slice none 0 0] 57) := ⟨_, rfl⟩
  have hb0 : Below w.heap.size w W0 := by rw [hW0]; exact (Below.refl _ _).alloc (Nat.le_refl _) _
  have HB0 := hide hb0
  have HH1 := hide (HH.out.later hb0)
  obtain ⟨n0, n1, n2, nf, nl⟩ := new3 (w1 := W0) (by rw [hW0]; exact Below.refl _ _)
  obtain ⟨d0, d1, df, dl⟩ := HH1.out.c0
  rw [← hW0]
  have HROW := hide HH1.out.row
  clear hW0 hb0 c0 c1 cf cl HC HD d0
  refine wp_region_any (by kernel_rfl) ?_
  change wpAny _ _ _ _ _ _ _ (World.drew _)
  refine wt 0 (.pointer (some ⟨H, 0, none⟩)) ?_
  refine wt 1 (.pointer (some ⟨H, 0, none⟩)) ?_
  refine wt 2 (.pointer (some ⟨H, 0, none⟩)) ?_
  refine wt 3 (.pointer (some ⟨H, 1, none⟩)) ?_
  refine wr2 4 5 (fun K hK => ?ca) fun K hK => ?cb
  case' ca =>
    go_simp
    refine hK _ _ ?_
    clear hK K
    refine wr1 5 fun K hK => ?_
    go_simp
    refine hK _ _ ?_
    clear hK K
    refine wr1 6 fun K hK => ?_
    go_simp
    refine hK _ _ ?_
    clear hK K
  case' cb =>
    go_simp
    refine hK _ _ ?_
    clear hK K
    refine wr2 4 6 (fun K hK => ?cc) fun K hK => ?cd
  case' cc =>
    go_simp
    refine hK _ _ ?_
    clear hK K
    refine wr1 6 fun K hK => ?_
    go_simp
    refine hK _ _ ?_
    clear hK K
  case' cd =>
    go_simp
    refine hK _ _ ?_
    clear hK K
    refine wr1 4 fun K hK => ?_
    go_simp
    refine hK _ _ ?_
    clear hK K
  all_goals
    refine wr1 7 fun K hK => ?_
    refine step_append_lies _ rfl _ _ 23 rfl H 57 ii _ 3 40 Tryd.underlying23 hi0 hz0 hz1 hz2 rfl (by decide) _ _ _ rfl (HROW.out.drew.alloc _) ⟨W0.heap.size, 0, none⟩ 1 1 [.int .i64 (-1), .int .i64 (-1), .slice none 0 0] rfl rfl (new3_cells _ _ rfl _ _ _) (new3_one _ _) (by decide) (by unfold maxLen; omega) (by omega) (by simp; omega) (W0.heap.size + 1) (by simp) ?_
    intro gn capn w3 hown3 hgr3 hg3 _
    refine hK _ _ ?_
    clear hK K
    have hgr : W0.grownBy w3 sv.ownBlock := grown_trans (grown_trans (b := W0.drew) ⟨rfl, rfl, rfl, Nat.le_refl _, fun _ _ _ => rfl⟩ (World.grownBy_alloc _ _ _)) hgr3
    have hz := HH1.out.push (-1) hgr hown3 (hg3.imp id (fun e => by rw [e]; exact Nat.le_succ _)) hl
    have HZ := hide hz
    have kg : w3.cell? ⟨H, 1, none⟩ = some sv ∧ w3.frozen? ⟨H, 1, none⟩ = false := by
      have hne : some H ≠ sv.ownBlock := fun e => by
        obtain ⟨c, hc⟩ := row_tag HH1.out.row e.symm
        exact tags_ne hc HH1.out.blk (by decide) rfl
      have hbk := hgr.block H dl hne
      exact ⟨(World.cell?_of_block (w := W0) (a := ⟨H, 1, none⟩) hbk).trans d1, (World.frozen?_of_block (w := W0) (a := ⟨H, 1, none⟩) hbk).trans df⟩
    obtain ⟨kg1, kg2⟩ := kg
    clear hz hgr hown3 hgr3 hg3 d1 df n0 n1 n2 nf
    refine wt 8 (.pointer (some ⟨H, 0, none⟩)) ?_
    refine wt 9 (.pointer (some ⟨H, 1, none⟩)) ?_
    refine wr1 10 fun K hK => ?_
    go_simp
    refine hK _ _ ?_
    clear hK K
    refine wpAny_done (by kernel_rfl) ?_ _
    go_simp
    go_wp2_with fail
    go_ret
    exact ⟨rfl, ⟨_, HZ.out.1⟩, (Fr.of HB0.out (Nat.le_of_lt hH)).trans HZ.out.2⟩
theorem scope_in {H : Nat} {w : World} {L : List Sc} {sv : Value} {vs : List Value} (h : HR H w L sv vs) (hl : L.length < 100) (k : Nat) (hk : k < L.length) :
    Calls Tryd.prog 12 #[hP H, .int .i64 (k : Int), .int .i64 (-1)] w fun e w' => e = .returned (.int .i64 (L.length : Int)) ∧ (∃ sv', HR H w' (L ++ [⟨(k : Int), []⟩]) sv' (vs ++ [.slice none 0 0])) ∧ Fr H w w' := by
  have hH : H < w.heap.size := lt_of_block h.blk
  obtain ⟨c0, c1, cf, cl⟩ := h.c0
  have HH := hide h
  obtain ⟨g, cap, hsv⟩ : ∃ g cap, sv = .slice (some ⟨g, 0, none⟩) L.length cap := by
    rcases row_form h.row with ⟨_, hn⟩ | h
    · omega
    · exact h
  have HC := hide (at_in g cap L.length k hk (w.alloc (.cells #[.int .i64 (k : Int), .int .i64 (-1), .slice none 0 0] 57)))
  rw [← hsv] at HC
  clear hsv
  have HD := hide (at_none (-1) (w.alloc (.cells #[.int .i64 (k : Int), .int .i64 (-1), .slice none 0 0] 57)))
  clear h
  unfold hP
  go_enter Tryd.func12, Tryd.ntmps12
  go_wp2_with fail
  refine Calls.mono HC.out ?_
  rintro e w1 ⟨rfl, hw⟩
  rw [hw]
  clear hw
  go_wp2_with fail
  refine Calls.mono HD.out ?_
  rintro e w1 ⟨rfl, hw⟩
  rw [hw]
  clear hw
  go_wp2_with fail
  obtain ⟨ii, hi0, hz0, hz1, hz2⟩ := info_parts info46
  obtain ⟨W0, hW0⟩ : ∃ W0, W0 = w.alloc (.cells #[.int .i64 (k : Int), .int .i64 (-1), .slice none 0 0] 57) := ⟨_, rfl⟩
  have hb0 : Below w.heap.size w W0 := by rw [hW0]; exact (Below.refl _ _).alloc (Nat.le_refl _) _
  have HB0 := hide hb0
  have HH1 := hide (HH.out.later hb0)
  obtain ⟨n0, n1, n2, nf, nl⟩ := new3 (w1 := W0) (by rw [hW0]; exact Below.refl _ _)
  obtain ⟨d0, d1, df, dl⟩ := HH1.out.c0
  rw [← hW0]
  have HROW := hide HH1.out.row
  clear hW0 hb0 c0 c1 cf cl HC HD d0
  refine wp_region_any (by kernel_rfl) ?_
  change wpAny _ _ _ _ _ _ _ (World.drew _)
  refine wt 0 (.pointer (some ⟨H, 0, none⟩)) ?_
  refine wt 1 (.pointer (some ⟨H, 0, none⟩)) ?_
  refine wt 2 (.pointer (some ⟨H, 0, none⟩)) ?_
  refine wt 3 (.pointer (some ⟨H, 1, none⟩)) ?_
  refine wr2 4 5 (fun K hK => ?ca) fun K hK => ?cb
  case' ca =>
    go_simp
    refine hK _ _ ?_
    clear hK K
    refine wr1 5 fun K hK => ?_
    go_simp
    refine hK _ _ ?_
    clear hK K
    refine wr1 6 fun K hK => ?_
    go_simp
    refine hK _ _ ?_
    clear hK K
  case' cb =>
    go_simp
    refine hK _ _ ?_
    clear hK K
    refine wr2 4 6 (fun K hK => ?cc) fun K hK => ?cd
  case' cc =>
    go_simp
    refine hK _ _ ?_
    clear hK K
    refine wr1 6 fun K hK => ?_
    go_simp
    refine hK _ _ ?_
    clear hK K
  case' cd =>
    go_simp
    refine hK _ _ ?_
    clear hK K
    refine wr1 4 fun K hK => ?_
    go_simp
    refine hK _ _ ?_
    clear hK K
  all_goals
    refine wr1 7 fun K hK => ?_
    refine step_append_lies _ rfl _ _ 23 rfl H 57 ii _ 3 40 Tryd.underlying23 hi0 hz0 hz1 hz2 rfl (by decide) _ _ _ rfl (HROW.out.drew.alloc _) ⟨W0.heap.size, 0, none⟩ 1 1 [.int .i64 (k : Int), .int .i64 (-1), .slice none 0 0] rfl rfl (new3_cells _ _ rfl _ _ _) (new3_one _ _) (by decide) (by unfold maxLen; omega) (by omega) (by simp; omega) (W0.heap.size + 1) (by simp) ?_
    intro gn capn w3 hown3 hgr3 hg3 _
    refine hK _ _ ?_
    clear hK K
    have hgr : W0.grownBy w3 sv.ownBlock := grown_trans (grown_trans (b := W0.drew) ⟨rfl, rfl, rfl, Nat.le_refl _, fun _ _ _ => rfl⟩ (World.grownBy_alloc _ _ _)) hgr3
    have hz := HH1.out.push (k : Int) hgr hown3 (hg3.imp id (fun e => by rw [e]; exact Nat.le_succ _)) hl
    have HZ := hide hz
    have kg : w3.cell? ⟨H, 1, none⟩ = some sv ∧ w3.frozen? ⟨H, 1, none⟩ = false := by
      have hne : some H ≠ sv.ownBlock := fun e => by
        obtain ⟨c, hc⟩ := row_tag HH1.out.row e.symm
        exact tags_ne hc HH1.out.blk (by decide) rfl
      have hbk := hgr.block H dl hne
      exact ⟨(World.cell?_of_block (w := W0) (a := ⟨H, 1, none⟩) hbk).trans d1, (World.frozen?_of_block (w := W0) (a := ⟨H, 1, none⟩) hbk).trans df⟩
    obtain ⟨kg1, kg2⟩ := kg
    clear hz hgr hown3 hgr3 hg3 d1 df n0 n1 n2 nf
    refine wt 8 (.pointer (some ⟨H, 0, none⟩)) ?_
    refine wt 9 (.pointer (some ⟨H, 1, none⟩)) ?_
    refine wr1 10 fun K hK => ?_
    go_simp
    refine hK _ _ ?_
    clear hK K
    refine wpAny_done (by kernel_rfl) ?_ _
    go_simp
    go_wp2_with fail
    go_ret
    exact ⟨rfl, ⟨_, HZ.out.1⟩, (Fr.of HB0.out (Nat.le_of_lt hH)).trans HZ.out.2⟩

def rowO (cs : List Int) : List Value := cs.flatMap fun c => [.int .i64 c, .slice none 0 0]
theorem rowO_get : ∀ (cs : List Int) (k : Nat) (c : Int), cs[k]? = some c → (rowO cs)[k * 2]? = some (.int .i64 c)
  | [], k, c, h => by simp at h
  | a :: cs, 0, c, h => by simp at h; simp [rowO, h]
  | a :: cs, k + 1, c, h => by
    have := rowO_get cs k c (by simpa using h)
    have e : (k + 1) * 2 = k * 2 + 1 + 1 := by omega
    rw [e]
    simpa [rowO] using this
structure HO (H : Nat) (w : World) (cs : List Int) (ov : Value) : Prop where
  blk : w.heap[H]? = some (.cells #[ov, .slice none 0 0] 25 (0, 0))
  row : w.ownsRow H 50 2 ov cs.length (rowO cs)
theorem HO.later {H : Nat} {w w' : World} {cs : List Int} {ov : Value} (h : HO H w cs ov) (hb : Below w.heap.size w w') : HO H w' cs ov :=
  ⟨(hb.block H (lt_of_block h.blk)).trans h.blk, row_later h.row hb⟩
theorem HO.start (w : World) : HO w.heap.size (w.alloc (.cells #[.slice none 0 0, .slice none 0 0] 25)) [] (.slice none 0 0) :=
  ⟨heap_alloc_new w _, World.ownsRow_nil _ _ _ _⟩
theorem info50 : (Tryd.prog.info? 50).map (fun i => (i.zero, i.size, i.bytes)) = some (some (.agg #[.int .i64 0, .slice none 0 0]), 2, 32) := by kernel_rfl
theorem new2_cells (w : World) (H : Nat) (hH : w.heap.size = H) (a : Int) (j : Nat) (u : Value) (h : ([.int .i64 a, .slice none 0 0] : List Value)[j]? = some u) :
    (w.alloc (.cells #[.int .i64 a, .slice none 0 0] 50)).cell? (Addr.add ⟨H, 0, none⟩ j) = some u := by
  subst hH
  match j, h with
  | 0, h => simp at h; subst h; simp [Addr.add]
  | 1, h => simp at h; subst h; simp [Addr.add]
  | k + 2, h => simp at h
theorem new2_one (a : Int) : ∀ u ∈ ([.int .i64 a, .slice none 0 0] : List Value), u.oneCell' = true := by
  intro u hu
  simp at hu
  rcases hu with rfl | rfl <;> rfl
theorem object_ok {H : Nat} {w : World} {cs : List Int} {ov : Value} (h : HO H w cs ov) (c : Int) (hl : cs.length < 100) :
    Calls Tryd.prog 5 #[.pointer (some ⟨H, 0, none⟩), .int .i64 c] w fun e w' => e = .returned (.int .i64 cs.length) ∧ (∃ ov', HO H w' (cs ++ [c]) ov') ∧ Below H w w' := by
  have c0 : w.cell? ⟨H, 0, none⟩ = some ov := by simp [World.cell?, h.blk]
  have hHl := lt_of_block h.blk
  have HROW := hide h.row
  have HBLK := hide h.blk
  obtain ⟨ii, hi0, hz0, hz1, hz2⟩ := info_parts info50
  clear h
  go_enter Tryd.func5, Tryd.ntmps5
  go_wp2_with (at_builtin; refine wpList_append_lies _ rfl _ _ 22 rfl H 50 ii _ 2 32 Tryd.underlying22 hi0 hz0 hz1 hz2 rfl (by decide) _ _ _ rfl (HROW.out.alloc _) ⟨w.heap.size, 0, none⟩ 1 1 [.int .i64 c, .slice none 0 0] rfl rfl (new2_cells w _ rfl c) (new2_one c) (by decide) (by unfold maxLen; omega) (by omega) (by simp; omega) (w.heap.size + 1) (by simp) ?_)
  intro gn capn w3 hown3 hgr3 hg3 _
  have hgr : w.grownBy w3 ov.ownBlock := grown_trans (World.grownBy_alloc _ _ _) hgr3
  have hne : ov.ownBlock ≠ some H := fun e => by
    obtain ⟨cc, hcc⟩ := row_tag HROW.out e
    exact tags_ne hcc HBLK.out (by decide) rfl
  have hgnH : gn ≠ H := by
    rcases hg3 with e | e
    · exact fun q => hne (by rw [← q]; exact e)
    · rw [e]; omega
  have hb3 : w3.heap[H]? = some (.cells #[ov, .slice none 0 0] 25 (0, 0)) := by rw [hgr.block H hHl (fun e => hne e.symm)]; exact HBLK.out
  have k0 : w3.cell? ⟨H, 0, none⟩ = some ov := by simp [World.cell?, hb3]
  have kf : w3.frozen? ⟨H, 0, none⟩ = false := by simp [World.frozen?, hb3]
  have hbel : Below H w w3 := ⟨hgr.os, hgr.tape, hgr.output, hgr.size, fun k hk => hgr.block k (by omega) (fun e => by have := (HROW.out.lt k e.symm).1; omega)⟩
  have hH3 : H < w3.heap.size := lt_of_block hb3
  have HZ : Hid ((∃ ov', HO H (w3.setCell ⟨H, 0, none⟩ (.slice (some ⟨gn, 0, none⟩) (cs.length + 1) capn)) (cs ++ [c]) ov') ∧ Below H w (w3.setCell ⟨H, 0, none⟩ (.slice (some ⟨gn, 0, none⟩) (cs.length + 1) capn))) := by
    refine ⟨⟨.slice (some ⟨gn, 0, none⟩) (cs.length + 1) capn, ⟨?_, ?_⟩⟩, hbel.setCell (p := ⟨H, 0, none⟩) (Nat.le_refl _) _⟩
    · rw [heap_setCell_same w3 H 0 _ 25 _ hb3]; rfl
    · have := ownsRow_setCell_other (a := ⟨H, 0, none⟩) hown3 (by simp [Value.ownBlock]; exact hgnH) (.slice (some ⟨gn, 0, none⟩) (cs.length + 1) capn)
      simpa [rowO] using this
  clear hgr hne hb3 hbel hown3 hgr3 hg3 HROW HBLK c0
  go_wp2_with fail
  go_ret
  exact ⟨by simp, HZ.out.1, HZ.out.2⟩
theorem at_obj (g cap n : Nat) (i : Nat) (hi : i < n) (w : World) :
    Calls Tryd.prog 24 #[.slice (some ⟨g, 0, none⟩) n cap, .int .i64 (i : Int)] w fun e w' => e = .returned (.pointer (some ⟨g, i * 2, none⟩)) ∧ w' = w := by
  go_enter Tryd.func24, Tryd.ntmps24
  go_wp2
  all_goals first | omega | skip
  all_goals go_ret
  all_goals exact ⟨rfl, rfl⟩
theorem code_ok {H : Nat} {w : World} {cs : List Int} {ov : Value} (h : HO H w cs ov) (i : Nat) (c : Int) (hi : cs[i]? = some c) :
    Calls Tryd.prog 34 #[.pointer (some ⟨H, 0, none⟩), .int .i64 (i : Int)] w fun e w' => e = .returned (.int .i64 c) ∧ w' = w := by
  have c0 : w.cell? ⟨H, 0, none⟩ = some ov := by simp [World.cell?, h.blk]
  have hHl := lt_of_block h.blk
  have hlt : i < cs.length := (List.getElem?_eq_some_iff.1 hi).1
  rcases row_form h.row with ⟨_, hn⟩ | ⟨g, cap, rfl⟩
  · omega
  · have hc : w.cell? ⟨g, i * 2, none⟩ = some (.int .i64 c) := by rw [h.row.cellAt _ (by omega)]; exact rowO_get cs i c hi
    have hg := (h.row.lt g rfl).2
    have HC := hide (at_obj g cap cs.length i hlt w)
    clear h
    go_enter Tryd.func34, Tryd.ntmps34
    go_wp2_with fail
    refine Calls.mono HC.out ?_
    rintro e w1 ⟨rfl, rfl⟩
    go_wp2_with fail
    go_ret
    exact ⟨rfl, rfl⟩
def objT (c : Int) : ByteArray := if c = 0 then ⟨#[111, 98, 106, 101, 99, 116]⟩ else ⟨#[102, 117, 110, 99, 116, 105, 111, 110]⟩
theorem showObject_ok {H : Nat} {w : World} {cs : List Int} {ov : Value} (h : HO H w cs ov) (i : Nat) (c : Int) (hi : cs[i]? = some c) :
    Calls Tryd.prog 21 #[.pointer (some ⟨H, 0, none⟩), .int .i64 (i : Int)] w fun e w' => e = .returned (.string (objT c)) ∧ w' = w := by
  have HC := hide (code_ok h i c hi)
  clear h
  by_cases hc : c = 0
  · subst hc
    go_enter Tryd.func21, Tryd.ntmps21
    go_wp2_with fail
    refine Calls.mono HC.out ?_
    rintro e w1 ⟨rfl, rfl⟩
    go_wp2_with fail
    go_ret
    exact ⟨rfl, rfl⟩
  · rw [objT, if_neg hc]
    go_enter Tryd.func21, Tryd.ntmps21
    go_wp2_with fail
    refine Calls.mono HC.out ?_
    rintro e w1 ⟨rfl, rfl⟩
    go_wp2_with fail
    go_ret
    exact ⟨rfl, rfl⟩
theorem show_ref {H : Nat} {w : World} {cs : List Int} {ov : Value} (h : HO H w cs ov) (i : Nat) (c : Int) (hi : cs[i]? = some c) (s : ByteArray) :
    Calls Tryd.prog 8 #[.pointer (some ⟨H, 0, none⟩), .agg #[.int .i64 5, .int .i64 (i : Int), .string s]] w fun e w' => e = .returned (.string (objT c)) ∧ Below w.heap.size w w' := by
  have HC := hide (showObject_ok (h.later (w' := w.alloc (.cells #[.int .i64 5, .int .i64 (i : Int), .string s] 28)) ((Below.refl _ _).alloc (Nat.le_refl _) _)) i c hi)
  clear h
  go_enter Tryd.func8, Tryd.ntmps8
  go_wp2_with fail
  refine Calls.mono HC.out ?_
  rintro e w1 ⟨rfl, hw⟩
  subst hw
  go_wp2_with fail
  go_ret
  exact ⟨rfl, (Below.refl _ _).alloc (Nat.le_refl _) _⟩
end Go.Proofs.YtopehplicnppfaaDoor
namespace Go.Proofs
open Go.Shelf
def Tryd.laysM171_ren : Go.Shelf.Ren := ⟨fun | 171 => 20 | 243 => 33 | 246 => 47 | 283 => 55 | 284 => 56 | 285 => 57 | 286 => 58 | 129 => 62 | 317 => 61 | 318 => 63 | 319 => 64 | 320 => 65 | 337 => 66 | 338 => 67 | n => n, fun | 3 => 3 | 9 => 9 | 2 => 2 | 4 => 4 | 171 => 116 | 0 => 0 | 53 => 117 | 37 => 71 | 5 => 5 | 173 => 120 | 212 => 125 | 51 => 126 | 20 => 20 | 213 => 127 | 46 => 129 | 232 => 132 | 233 => 133 | n => n, fun | 17 => 1 | 18 => 3 | 19 => 4 | n => n⟩
theorem Tryd.laysM171 : Go.Proofs.LaysM.n171 Tryd.prog Tryd.laysM171_ren := {
  mixed := by kernel_rfl
  f129 := Tryd.func62.trans (congrArg some (by kernel_rfl))
  f171 := Tryd.func20.trans (congrArg some (by kernel_rfl))
  f243 := Tryd.func33.trans (congrArg some (by kernel_rfl))
  f246 := Tryd.func47.trans (congrArg some (by kernel_rfl))
  f283 := Tryd.func55.trans (congrArg some (by kernel_rfl))
  f284 := Tryd.func56.trans (congrArg some (by kernel_rfl))
  f285 := Tryd.func57.trans (congrArg some (by kernel_rfl))
  f286 := Tryd.func58.trans (congrArg some (by kernel_rfl))
  f317 := Tryd.func61.trans (congrArg some (by kernel_rfl))
  f318 := Tryd.func63.trans (congrArg some (by kernel_rfl))
  f319 := Tryd.func64.trans (congrArg some (by kernel_rfl))
  f320 := Tryd.func65.trans (congrArg some (by kernel_rfl))
  f337 := Tryd.func66.trans (congrArg some (by kernel_rfl))
  f338 := Tryd.func67.trans (congrArg some (by kernel_rfl))
  t0 := Tryd.underlying0
  a0 := Tryd.isAgg0
  z0 := Tryd.sizeOf0
  v0 := Tryd.zeroValue0
  t2 := Tryd.underlying2
  a2 := Tryd.isAgg2
  z2 := Tryd.sizeOf2
  v2 := Tryd.zeroValue2
  t3 := Tryd.underlying3
  a3 := Tryd.isAgg3
  z3 := Tryd.sizeOf3
  v3 := Tryd.zeroValue3
  t4 := Tryd.underlying4
  a4 := Tryd.isAgg4
  z4 := Tryd.sizeOf4
  v4 := Tryd.zeroValue4
  t5 := Tryd.underlying5
  a5 := Tryd.isAgg5
  z5 := Tryd.sizeOf5
  v5 := Tryd.zeroValue5
  t9 := Tryd.underlying9
  a9 := Tryd.isAgg9
  z9 := Tryd.sizeOf9
  v9 := Tryd.zeroValue9
  t20 := Tryd.underlying20
  a20 := Tryd.isAgg20
  z20 := Tryd.sizeOf20
  v20 := Tryd.zeroValue20
  t37 := Tryd.underlying71
  a37 := Tryd.isAgg71
  z37 := Tryd.sizeOf71
  v37 := Tryd.zeroValue71
  t46 := Tryd.underlying129
  a46 := Tryd.isAgg129
  z46 := Tryd.sizeOf129
  v46 := Tryd.zeroValue129
  t51 := Tryd.underlying126
  a51 := Tryd.isAgg126
  z51 := Tryd.sizeOf126
  v51 := Tryd.zeroValue126
  t53 := Tryd.underlying117
  a53 := Tryd.isAgg117
  z53 := Tryd.sizeOf117
  v53 := Tryd.zeroValue117
  t171 := Tryd.underlying116
  a171 := Tryd.isAgg116
  z171 := Tryd.sizeOf116
  v171 := Tryd.zeroValue116
  t173 := Tryd.underlying120
  a173 := Tryd.isAgg120
  z173 := Tryd.sizeOf120
  v173 := Tryd.zeroValue120
  t212 := Tryd.underlying125
  a212 := Tryd.isAgg125
  z212 := Tryd.sizeOf125
  v212 := Tryd.zeroValue125
  t213 := Tryd.underlying127
  a213 := Tryd.isAgg127
  z213 := Tryd.sizeOf127
  t232 := Tryd.underlying132
  a232 := Tryd.isAgg132
  z232 := Tryd.sizeOf132
  v232 := Tryd.zeroValue132
  t233 := Tryd.underlying133
  a233 := Tryd.isAgg133
  z233 := Tryd.sizeOf133
  v233 := Tryd.zeroValue133
  g17 := by kernel_rfl
  g18 := by kernel_rfl
  g19 := by kernel_rfl
  i0 := by kernel_rfl
  i2 := by kernel_rfl
  i3 := by kernel_rfl
  i4 := by kernel_rfl
  i5 := by kernel_rfl
  i9 := by kernel_rfl
  i20 := by kernel_rfl
  i37 := by kernel_rfl
  i46 := by kernel_rfl
  i51 := by kernel_rfl
  i53 := by kernel_rfl
  i171 := by kernel_rfl
  i173 := by kernel_rfl
  i212 := by kernel_rfl
  i232 := by kernel_rfl
  i233 := by kernel_rfl
  m17 := by kernel_rfl
  m18 := by kernel_rfl
  m19 := by kernel_rfl }
open Go.RowKit Go.Sort Go.Lib in
theorem Tryd.strconv_Itoa (n : Int) (h0 : -9223372036854775808 ≤ n) (h1 : n ≤ 9223372036854775807) (w : World) (htab : Lib.TabIs Tryd.prog w "internal/strconv.uint64pow10" .u64 Lib.pow10Tab) :
    Calls Tryd.prog 20 #[.int .i64 n] w fun e w' => e = .returned (.string ⟨(Lib.itoa n).toArray⟩) ∧ ∃ k os, w' = grow (w.drewN k) os := Any.strconv_Itoa Tryd.laysM171 n h0 h1 w htab
end Go.Proofs
namespace Go.Proofs.YtopehplicnppfaaDoor
open Go.RowKit

def TabW (w : World) : Prop := Lib.TabIs Tryd.prog w "internal/strconv.uint64pow10" .u64 Lib.pow10Tab
theorem gPow : Tryd.prog.globalNamed "internal/strconv.uint64pow10" = some 1 := by kernel_rfl
theorem TabW.later {w w' : World} (h : TabW w) (hb : Below w.heap.size w w') : TabW w' := by
  unfold TabW Lib.TabIs World.var? at h ⊢
  rw [gPow] at h ⊢
  simp only [Option.bind_some] at h ⊢
  have hl : 1 < w.heap.size := by
    rcases Nat.lt_or_ge 1 w.heap.size with h' | h'
    · exact h'
    · rw [Array.getElem?_eq_none h'] at h; simp at h
  rw [hb.block 1 hl]
  exact h
def itoaB (n : Int) : ByteArray := ⟨(Lib.itoa n).toArray⟩
theorem itoa_any (n : Int) (hn : -9223372036854775808 ≤ n ∧ n ≤ 9223372036854775807) (w : World) (ht : TabW w) : Calls Tryd.prog 20 #[.int .i64 n] w fun e w' => e = .returned (.string (itoaB n)) ∧ Below w.heap.size w w' := by
  exact (Tryd.strconv_Itoa n hn.1 hn.2 w ht).mono fun e w' ⟨a, k, os, b⟩ => ⟨a, by rw [b]; exact Lib.below_grow _ w (Nat.le_refl _) k os⟩
theorem show_num (H : Nat) (n : Int) (hn : -9223372036854775808 ≤ n ∧ n ≤ 9223372036854775807) (s : ByteArray) (w : World) (ht : TabW w) : Calls Tryd.prog 8 #[.pointer (some ⟨H, 0, none⟩), .agg #[.int .i64 3, .int .i64 n, .string s]] w fun e w' => e = .returned (.string (itoaB n)) ∧ Below w.heap.size w w' := by
  have HC := hide (itoa_any n hn (w.alloc (.cells #[.int .i64 3, .int .i64 n, .string s] 28)) (ht.later ((Below.refl _ _).alloc (Nat.le_refl _) _)))
  clear ht hn
  go_enter Tryd.func8, Tryd.ntmps8
  go_wp2_with fail
  refine Calls.mono HC.out ?_
  rintro e w1 ⟨rfl, h1⟩
  have HB := hide h1
  clear h1
  go_wp2_with fail
  go_ret
  exact ⟨rfl, ((Below.refl _ _).alloc (Nat.le_refl _) _).trans (HB.out.mono (by simp))⟩
theorem join_one (g cap : Nat) (t sep : ByteArray) (w : World) (hc : w.cell? ⟨g, 0, none⟩ = some (.string t)) : Calls Tryd.prog 22 #[.slice (some ⟨g, 0, none⟩) 1 cap, .string sep] w fun e w' => e = .returned (.string t) ∧ w' = w := by
  go_enter Tryd.func22, Tryd.ntmps22
  go_wp2_with fail
  go_ret
  exact ⟨rfl, rfl⟩
theorem info9 : (Tryd.prog.info? 9).map (fun i => (i.zero, i.size, i.bytes)) = some (some (.string ⟨#[]⟩), 1, 16) := by kernel_rfl
theorem one_cellsS (w : World) (k : ByteArray) (H : Nat) (h : w.heap.size = H) : ∀ j u, [Value.string k][j]? = some u → (w.alloc (.cells #[.string k] 9)).cell? ((⟨H, 0, none⟩ : Addr).add j) = some u := by
  subst h
  intro j u hj
  match j with
  | 0 =>
    simp only [List.getElem?_cons_zero, Option.some.injEq] at hj
    subst hj
    simp [Addr.add]
  | n + 1 => simp at hj
theorem one_oneS (k : ByteArray) : ∀ u ∈ [Value.string k], u.oneCell' = true := by
  intro u hu
  rw [List.mem_singleton.1 hu]
  rfl
theorem told_one (g cap : Nat) (n : Int) (hn : -9223372036854775808 ≤ n ∧ n ≤ 9223372036854775807) (w : World) (ht : TabW w) (hc : w.cell? ⟨g, 0, none⟩ = some (.int .i64 n)) :
    Calls Tryd.prog 9 #[.slice (some ⟨g, 0, none⟩) 1 cap] w fun e w' => e = .returned (.string (itoaB n)) ∧ Below w.heap.size w w' := by
  obtain ⟨ii, hi0, hz0, hz1, hz2⟩ := info_parts info9
  have HC := hide (itoa_any n hn w ht)
  clear ht hn
  go_enter Tryd.func9, Tryd.ntmps9
  go_wp2_with fail
  refine wp_loop_rounds 2 ?_
  rw [rounds_succ]
  go_wp2_with fail
  refine Calls.mono HC.out ?_
  rintro e w1 ⟨rfl, h1⟩
  have HB := hide h1
  have hs1 := h1.size
  clear h1 hc
  go_wp2_with (at_builtin; refine wpList_append_lies _ rfl _ _ 53 rfl w1.heap.size 9 ii (.string ⟨#[]⟩) 1 16 Tryd.underlying53 hi0 hz0 hz1 hz2 rfl (by decide) _ 0 [] rfl (World.ownsRow_nil _ _ _ _) ⟨w1.heap.size, 0, none⟩ 1 1 [.string (itoaB n)] rfl rfl (one_cellsS w1 (itoaB n) _ rfl) (one_oneS _) (by decide) (by unfold maxLen; omega) (by omega) (by simp) (w1.heap.size + 1) (by simp) ?_)
  intro gn capn w3 hown3 hgr3 hg3 _
  have hgr : w1.grownBy w3 none := grown_trans (World.grownBy_alloc _ _ _) hgr3
  have HB3 := hide (HB.out.grown hgr hs1 (fun k hk => by cases hk))
  have hcell : w3.cell? ⟨gn, 0, none⟩ = some (.string (itoaB n)) := by
    have := hown3.cellAt 0 (by decide)
    simpa using this
  have hgl := (hown3.lt gn rfl).2
  have HJ := hide (join_one gn capn (itoaB n) ⟨#[32]⟩ w3 hcell)
  clear hown3 hgr3 hg3 hgr HB hcell
  go_wp2_with fail
  rw [rounds_succ]
  go_wp2_with fail
  refine Calls.mono HJ.out ?_
  rintro e w4 ⟨rfl, rfl⟩
  go_wp2_with fail
  go_ret
  exact ⟨rfl, HB3.out⟩

structure SS (w0 : World) (H z : Nat) (ov : Value) (W : World) : Prop where
  ho : HO H W [0, 1] ov
  tab : TabW W
  b0 : W.heap[z]? = some (.cells #[.int .i64 1, .int .i64 0, .string ⟨#[]⟩] 28 (0, 0))
  b1 : W.heap[z + 1]? = some (.cells #[.int .i64 5, .int .i64 0, .string ⟨#[]⟩] 28 (0, 0))
  b2 : W.heap[z + 1 + 1]? = some (.cells #[.int .i64 5, .int .i64 1, .string ⟨#[]⟩] 28 (0, 0))
  below : Below w0.heap.size w0 W
theorem SS.later {w0 : World} {H z : Nat} {ov : Value} {W W' : World} (h : SS w0 H z ov W) (hb : Below W.heap.size W W') : SS w0 H z ov W' :=
  ⟨h.ho.later hb, h.tab.later hb, (hb.block _ (lt_of_block h.b0)).trans h.b0, (hb.block _ (lt_of_block h.b1)).trans h.b1, (hb.block _ (lt_of_block h.b2)).trans h.b2, h.below.trans (hb.mono h.below.size)⟩
theorem cells3 {W : World} {b : Nat} {x y z : Value} {t : TypeId} (h : W.heap[b]? = some (.cells #[x, y, z] t (0, 0))) : W.cell? ⟨b, 0, none⟩ = some x ∧ W.cell? ⟨b, 1, none⟩ = some y ∧ W.cell? ⟨b, 2, none⟩ = some z := by simp [World.cell?, h]
theorem shows_any (n : Int) (hn : -9223372036854775808 ≤ n ∧ n ≤ 9223372036854775807) (s : ByteArray) (w : World) (ht : TabW w) : Calls Tryd.prog 3 #[.int .i64 n, .string s] w fun e w' => e = .returned (.bool true) ∧ Below w.heap.size w w' := by
  have HS0 := hide (HO.start w)
  have HF0 := hide ((Below.refl w.heap.size w).alloc (Nat.le_refl _) (.cells #[.slice none 0 0, .slice none 0 0] 25))
  have HT := hide ht
  clear ht
  have HN := hide hn
  clear hn
  have HC := hide (object_ok HS0.out 0 (by decide))
  have t1 : (boolT true).toList = [116, 114, 117, 101] := by kernel_rfl
  have t2 : (boolT false).toList = [102, 97, 108, 115, 101] := by kernel_rfl
  have t3 : (objT 0).toList = [111, 98, 106, 101, 99, 116] := by kernel_rfl
  have t4 : (objT 1).toList = [102, 117, 110, 99, 116, 105, 111, 110] := by kernel_rfl
  go_enter Tryd.func3, Tryd.ntmps3
  go_wp2_with fail
  refine Calls.mono HC.out ?_
  rintro e w1 ⟨rfl, ⟨o1, h1⟩, hb1⟩
  have HD := hide (object_ok h1 1 (by decide))
  have HF1 := hide (HF0.out.trans hb1)
  clear h1 hb1 HC HF0
  go_wp2_with fail
  refine Calls.mono HD.out ?_
  rintro e w2 ⟨rfl, ⟨ov, h2⟩, hb2⟩
  have HH := hide h2
  have HF := hide (HF1.out.trans hb2)
  clear h2 hb2 HD HF1
  obtain ⟨W3, hW3⟩ : ∃ W3, W3 = ((w2.alloc (.cells #[.int .i64 1, .int .i64 0, .string ⟨#[]⟩] 28)).alloc (.cells #[.int .i64 5, .int .i64 0, .string ⟨#[]⟩] 28)).alloc (.cells #[.int .i64 5, .int .i64 1, .string ⟨#[]⟩] 28) := ⟨_, rfl⟩
  have HS : Hid (SS w w.heap.size w2.heap.size ov W3) := by
    have hb : Below w2.heap.size w2 W3 := by rw [hW3]; exact (((Below.refl _ _).alloc (Nat.le_refl _) _).alloc (by simp) _).alloc (by simp; omega) _
    refine ⟨HH.out.later hb, HT.out.later (HF.out.trans (hb.mono HF.out.size)), ?_, ?_, ?_, HF.out.trans (hb.mono HF.out.size)⟩
    · rw [hW3]
      rw [heap_alloc_old _ _ (by simp; omega), heap_alloc_old _ _ (by simp)]
      exact heap_alloc_new w2 _
    · rw [hW3]
      rw [heap_alloc_old _ _ (by simp)]
      have := heap_alloc_new (w2.alloc (.cells #[.int .i64 1, .int .i64 0, .string ⟨#[]⟩] 28)) (.cells #[.int .i64 5, .int .i64 0, .string ⟨#[]⟩] 28)
      simpa using this
    · rw [hW3]
      have := heap_alloc_new ((w2.alloc (.cells #[.int .i64 1, .int .i64 0, .string ⟨#[]⟩] 28)).alloc (.cells #[.int .i64 5, .int .i64 0, .string ⟨#[]⟩] 28)) (.cells #[.int .i64 5, .int .i64 1, .string ⟨#[]⟩] 28)
      simpa using this
  clear HH HF HT HS0
  go_wp2_with fail
  rw [← hW3]
  clear hW3
  refine Calls.mono (of_any n _) ?_
  rintro e wn0 ⟨rfl, hn⟩
  have hst := HS.out.later hn
  have HS := hide hst
  clear hst hn
  go_wp2_with fail
  refine Calls.mono (true_num _ n ⟨#[]⟩) ?_
  rintro e wn1 ⟨rfl, hn⟩
  have hst := HS.out.later hn
  have HS := hide hst
  clear hst hn
  go_wp2_with fail
  refine Calls.mono (of_any n _) ?_
  rintro e wn2 ⟨rfl, hn⟩
  have hst := HS.out.later hn
  have HS := hide hst
  clear hst hn
  go_wp2_with fail
  refine Calls.mono (show_num w.heap.size n HN.out ⟨#[]⟩ _ HS.out.tab) ?_
  rintro e wn3 ⟨rfl, hn⟩
  have hst := HS.out.later hn
  have HS := hide hst
  clear hst hn
  go_wp2_with fail
  have hst := HS.out.later ((Below.refl _ _).alloc (Nat.le_refl _) (.cells #[.int .i64 n] 3))
  have HS := hide hst
  clear hst
  refine Calls.mono (told_one _ 1 n HN.out _ HS.out.tab (by simp)) ?_
  rintro e wn4 ⟨rfl, hn⟩
  have hst := HS.out.later hn
  have HS := hide hst
  clear hst hn
  go_wp2_with fail
  refine Calls.mono (say_any s _) ?_
  rintro e wn5 ⟨rfl, hn⟩
  have hst := HS.out.later hn
  have HS := hide hst
  clear hst hn
  go_wp2_with fail
  refine Calls.mono (true_text _ 0 s) ?_
  rintro e wn6 ⟨rfl, hn⟩
  have hst := HS.out.later hn
  have HS := hide hst
  clear hst hn
  go_wp2_with fail
  refine Calls.mono (say_any s _) ?_
  rintro e wn7 ⟨rfl, hn⟩
  have hst := HS.out.later hn
  have HS := hide hst
  clear hst hn
  go_wp2_with fail
  refine Calls.mono (show_text _ w.heap.size 0 s) ?_
  rintro e wn8 ⟨rfl, hn⟩
  have hst := HS.out.later hn
  have HS := hide hst
  clear hst hn
  go_wp2_with fail
  refine Calls.mono (is_true _) ?_
  rintro e wn9 ⟨rfl, hn⟩
  have hst := HS.out.later hn
  have HS := hide hst
  clear hst hn
  go_wp2_with fail
  refine Calls.mono (show_bool _ w.heap.size true ⟨#[]⟩) ?_
  rintro e wn10 ⟨rfl, hn⟩
  have hst := HS.out.later hn
  have HS := hide hst
  clear hst hn
  go_wp2_with fail
  refine Calls.mono (is_false _) ?_
  rintro e wn11 ⟨rfl, hn⟩
  have hst := HS.out.later hn
  have HS := hide hst
  clear hst hn
  go_wp2_with fail
  refine Calls.mono (show_bool _ w.heap.size false ⟨#[]⟩) ?_
  rintro e wn12 ⟨rfl, hn⟩
  have hst := HS.out.later hn
  have HS := hide hst
  clear hst hn
  go_wp2_with fail
  refine Calls.mono (is_true _) ?_
  rintro e wn13 ⟨rfl, hn⟩
  have hst := HS.out.later hn
  have HS := hide hst
  clear hst hn
  go_wp2_with fail
  refine Calls.mono (true_bool _ 1 ⟨#[]⟩) ?_
  rintro e wn14 ⟨rfl, hn⟩
  have hst := HS.out.later hn
  have HS := hide hst
  clear hst hn
  go_wp2_with fail
  refine Calls.mono (is_false _) ?_
  rintro e wn15 ⟨rfl, hn⟩
  have hst := HS.out.later hn
  have HS := hide hst
  clear hst hn
  go_wp2_with fail
  refine Calls.mono (true_bool _ 0 ⟨#[]⟩) ?_
  rintro e wn16 ⟨rfl, hn⟩
  have hst := HS.out.later hn
  have HS := hide hst
  clear hst hn
  obtain ⟨q0, q1, q2⟩ := cells3 HS.out.b0
  have ql := lt_of_block HS.out.b0
  go_wp2_with fail
  clear q0 q1 q2 ql
  refine Calls.mono (true_null _ 0 ⟨#[]⟩) ?_
  rintro e wn17 ⟨rfl, hn⟩
  have hst := HS.out.later hn
  have HS := hide hst
  clear hst hn
  obtain ⟨q0, q1, q2⟩ := cells3 HS.out.b0
  have ql := lt_of_block HS.out.b0
  go_wp2_with fail
  clear q0 q1 q2 ql
  refine Calls.mono (show_null _ w.heap.size 0 ⟨#[]⟩) ?_
  rintro e wn18 ⟨rfl, hn⟩
  have hst := HS.out.later hn
  have HS := hide hst
  clear hst hn
  go_wp2_with fail
  refine Calls.mono (true_undef _ 0 ⟨#[]⟩) ?_
  rintro e wn19 ⟨rfl, hn⟩
  have hst := HS.out.later hn
  have HS := hide hst
  clear hst hn
  go_wp2_with fail
  refine Calls.mono (show_undef _ w.heap.size 0 ⟨#[]⟩) ?_
  rintro e wn20 ⟨rfl, hn⟩
  have hst := HS.out.later hn
  have HS := hide hst
  clear hst hn
  obtain ⟨q0, q1, q2⟩ := cells3 HS.out.b1
  have ql := lt_of_block HS.out.b1
  go_wp2_with fail
  clear q0 q1 q2 ql
  refine Calls.mono (true_ref _ 0 ⟨#[]⟩) ?_
  rintro e wn21 ⟨rfl, hn⟩
  have hst := HS.out.later hn
  have HS := hide hst
  clear hst hn
  obtain ⟨q0, q1, q2⟩ := cells3 HS.out.b1
  have ql := lt_of_block HS.out.b1
  go_wp2_with fail
  clear q0 q1 q2 ql
  refine Calls.mono (show_ref HS.out.ho 0 0 rfl ⟨#[]⟩) ?_
  rintro e wn22 ⟨rfl, hn⟩
  have hst := HS.out.later hn
  have HS := hide hst
  clear hst hn
  obtain ⟨q0, q1, q2⟩ := cells3 HS.out.b2
  have ql := lt_of_block HS.out.b2
  go_wp2_with fail
  clear q0 q1 q2 ql
  refine Calls.mono (show_ref HS.out.ho 1 1 rfl ⟨#[]⟩) ?_
  rintro e wn23 ⟨rfl, hn⟩
  have hst := HS.out.later hn
  have HS := hide hst
  clear hst hn
  go_wp2_with fail
  go_ret
  exact ⟨rfl, HS.out.below⟩
end Go.Proofs.YtopehplicnppfaaDoor
