/-
  New objects and scopes; a heap's own keys.
-/
import Derived.Test.YtomogijjkdiomaaDoorHp12
import Derived.OwnWalk
set_option maxRecDepth 100000
set_option maxHeartbeats 16000000
namespace Go.Proofs.YtomogijjkdiomaaDoor
open Go.RowKit

section
variable {H : Nat} {w w1 : World} {M : Mo} {ov sv : Value} {os ss : List Value} {K : Nat}
set_option maxRecDepth 100000
set_option maxHeartbeats 1000000
theorem HP.pushO (h : HP H w M ov sv os ss) (c : Int) {tv' : Value} (hgr : w.grownBy w1 ov.ownBlock) (hown : w1.ownsRow H 73 2 tv' (M.objs.length + 1) (flat (M.objs.map Ob.h) os ++ [.int .i64 c, .slice none 0 0])) :
    HP H (w1.setCell ⟨H, 0, none⟩ tv') ⟨M.objs ++ [⟨c, []⟩], M.rooms⟩ tv' sv (os ++ [.slice none 0 0]) ss ∧ FrT Th H w (w1.setCell ⟨H, 0, none⟩ tv') := by
  obtain ⟨t1, f1⟩ := h.ob.push (Nat.le_of_lt (lt_of_block h.blk)) [.int .i64 c] rfl hgr (by rw [List.length_map]; exact hown)
  have hb1 := f1.rest H _ 26 h.blk (by decide)
  have f2 : FrT [26] H w1 (w1.setCell ⟨H, 0, none⟩ tv') := FrT.setCell (FrT.of (Below.refl _ _) (Nat.le_of_lt (lt_of_block hb1))) hb1 (by simp) (Nat.le_refl _) _
  refine ⟨⟨?_, ?_, (h.ro.keep f1 (by decide) (by decide)).keep f2 (by decide) (by decide)⟩, (f1.mono (by decide) (Nat.le_refl _)).trans (f2.mono (by decide) (Nat.le_refl _))⟩
  · rw [heap_setCell_same w1 H 0 _ 26 _ hb1]; rfl
  · have := t1.keep f2 (by decide) (by decide)
    rw [List.map_append]
    exact this
theorem HP.pushR (h : HP H w M ov sv os ss) (a b : Int) {tv' : Value} (hgr : w.grownBy w1 sv.ownBlock) (hown : w1.ownsRow H 76 3 tv' (M.rooms.length + 1) (flat (M.rooms.map Ro.h) ss ++ [.int .i64 a, .int .i64 b, .slice none 0 0])) :
    HP H (w1.setCell ⟨H, 1, none⟩ tv') ⟨M.objs, M.rooms ++ [⟨a, b, []⟩]⟩ ov tv' os (ss ++ [.slice none 0 0]) ∧ FrT Th H w (w1.setCell ⟨H, 1, none⟩ tv') := by
  obtain ⟨t1, f1⟩ := h.ro.push (Nat.le_of_lt (lt_of_block h.blk)) [.int .i64 a, .int .i64 b] rfl hgr (by rw [List.length_map]; exact hown)
  have hb1 := f1.rest H _ 26 h.blk (by decide)
  have f2 : FrT [26] H w1 (w1.setCell ⟨H, 1, none⟩ tv') := FrT.setCell (FrT.of (Below.refl _ _) (Nat.le_of_lt (lt_of_block hb1))) hb1 (by simp) (Nat.le_refl _) _
  refine ⟨⟨?_, (h.ob.keep f1 (by decide) (by decide)).keep f2 (by decide) (by decide), ?_⟩, (f1.mono (by decide) (Nat.le_refl _)).trans (f2.mono (by decide) (Nat.le_refl _))⟩
  · rw [heap_setCell_same w1 H 1 _ 26 _ hb1]; rfl
  · have := t1.keep f2 (by decide) (by decide)
    rw [List.map_append]
    exact this
theorem info73 : (Tryd.prog.info? 73).map (fun i => (i.zero, i.size, i.bytes)) = some (some (.agg #[.int .i64 0, .slice none 0 0]), 2, 32) := by kernel_rfl
theorem info76 : (Tryd.prog.info? 76).map (fun i => (i.zero, i.size, i.bytes)) = some (some (.agg #[.int .i64 0, .int .i64 0, .slice none 0 0]), 3, 40) := by kernel_rfl
theorem new2_cells (w : World) (H : Nat) (hH : w.heap.size = H) (a : Int) (j : Nat) (u : Value) (h : ([.int .i64 a, .slice none 0 0] : List Value)[j]? = some u) :
    (w.alloc (.cells #[.int .i64 a, .slice none 0 0] 73)).cell? (Addr.add ⟨H, 0, none⟩ j) = some u := by
  subst hH
  match j, h with
  | 0, h => simp at h; subst h; simp [Addr.add]
  | 1, h => simp at h; subst h; simp [Addr.add]
  | k + 2, h => simp at h
theorem new2_one (a : Int) : ∀ u ∈ ([.int .i64 a, .slice none 0 0] : List Value), u.oneCell' = true := by
  intro u hu
  simp at hu
  rcases hu with rfl | rfl <;> rfl
theorem new3_cells (w : World) (H : Nat) (hH : w.heap.size = H) (a b : Int) (v : Value) (j : Nat) (u : Value) (h : ([.int .i64 a, .int .i64 b, v] : List Value)[j]? = some u) :
    (w.alloc (.cells #[.int .i64 a, .int .i64 b, v] 76)).cell? (Addr.add ⟨H, 0, none⟩ j) = some u := by
  subst hH
  match j, h with
  | 0, h => simp at h; subst h; simp [Addr.add]
  | 1, h => simp at h; subst h; simp [Addr.add]
  | 2, h => simp at h; subst h; simp [Addr.add]
  | k + 3, h => simp at h
theorem new3_one (a b : Int) : ∀ u ∈ ([.int .i64 a, .int .i64 b, .slice none 0 0] : List Value), u.oneCell' = true := by
  intro u hu
  simp at hu
  rcases hu with rfl | rfl | rfl <;> rfl
theorem object_ok (h : HP H w M ov sv os ss) (hs : M.Small K) (hK : K ≤ 1000) (c : Int) :
    Calls Tryd.prog 5 #[.pointer (some ⟨H, 0, none⟩), .int .i64 c] w fun e w' => e = .returned (.int .i64 M.objs.length) ∧ HeapH H w' ⟨M.objs ++ [⟨c, []⟩], M.rooms⟩ ∧ FrT Th H w w' := by
  obtain ⟨h0, h1, hf, hf1, hHl⟩ := h.c
  have hl := hs.o
  have hrow : w.ownsRow H 73 2 ov M.objs.length (flat (M.objs.map Ob.h) os) := by have := h.ob.row; rwa [List.length_map] at this
  have HROW := hide hrow
  have HH := hide h
  obtain ⟨m, hm⟩ : ∃ m, m = M.objs.length := ⟨_, rfl⟩
  have HM := hide hm
  rw [← hm] at HROW hl ⊢
  obtain ⟨ii, hi0, hz0, hz1, hz2⟩ := info_parts info73
  clear h hrow hs hm
  go_enter Tryd.func5, Tryd.ntmps5
  go_wp2_with (at_builtin; refine wpList_append_lies _ rfl _ _ 23 rfl H 73 ii _ 2 32 Tryd.underlying23 hi0 hz0 hz1 hz2 rfl (by decide) _ _ _ rfl (HROW.out.alloc _) ⟨w.heap.size, 0, none⟩ 1 1 [.int .i64 c, .slice none 0 0] rfl rfl (new2_cells w _ rfl c) (new2_one c) (by decide) (by unfold maxLen; omega) (by omega) (by simp; omega) (w.heap.size + 1) (by simp) ?_)
  intro gn capn w3 hown3 hgr3 hg3 _
  have hgr : w.grownBy w3 ov.ownBlock := grown_trans (World.grownBy_alloc _ _ _) hgr3
  have hne : ov.ownBlock ≠ some H := fun e => by
    obtain ⟨cc, hcc⟩ := row_tag HROW.out e
    exact tags_ne hcc HH.out.blk (by decide) rfl
  have hb3 : w3.heap[H]? = some (.cells #[ov, sv] 26 (0, 0)) := by rw [hgr.block H hHl (fun e => hne e.symm)]; exact HH.out.blk
  have k0 : w3.cell? ⟨H, 0, none⟩ = some ov := by simp [World.cell?, hb3]
  have kf : w3.frozen? ⟨H, 0, none⟩ = false := by simp [World.frozen?, hb3]
  have hH3 : H < w3.heap.size := lt_of_block hb3
  have HZ := hide (HH.out.pushO c (tv' := .slice (some ⟨gn, 0, none⟩) (m + 1) capn) hgr (by rw [← HM.out]; exact hown3))
  clear hgr hne hb3 hown3 hgr3 hg3 HROW h0 h1 hf hf1
  go_wp2_with fail
  go_ret
  exact ⟨by simp, ⟨_, _, _, _, HZ.out.1⟩, HZ.out.2⟩
theorem at_P (h : HP H w M ov sv os ss) (i : Nat) (x : Ob) (hi : M.objs[i]? = some x) : ∃ a : Addr, Calls Tryd.prog 38 #[ov, .int .i64 (i : Int)] w fun e w' => e = .returned (.pointer (some a)) ∧ w' = w := by
  obtain ⟨g, cap, v, e2, hlt, hv, hc, hrow, hg, hB, hf, _⟩ := h.ob.at_ (i := i) (e := x.h) (by simp [hi])
  have HC := at_inP g cap _ i hlt w
  rw [← e2] at HC
  exact ⟨_, HC⟩
theorem scope_nn (h : HP H w M ov sv os ss) (hs : M.Small K) (hK : K ≤ 1000) :
    Calls Tryd.prog 6 #[.pointer (some ⟨H, 0, none⟩), .int .i64 (-1), .int .i64 (-1)] w fun e w' => e = .returned (.int .i64 (M.rooms.length : Int)) ∧ HeapH H w' ⟨M.objs, M.rooms ++ [⟨(-1), (-1), []⟩]⟩ ∧ FrT Th H w w' := by
  obtain ⟨h0, h1, hf, hf1, hHl⟩ := h.c
  have HH := hide h
  have HLEN := hide hs.r
  have HLH := hide hHl
  have hbw : Below w.heap.size w (w.alloc (.cells #[.int .i64 (-1), .int .i64 (-1), .slice none 0 0] 76)) := (Below.refl _ _).alloc (Nat.le_refl _) _
  have HC := hide (at_outC sv _ (row_form h.ro.row) (-1) (.inl (by decide)) (w.alloc (.cells #[.int .i64 (-1), .int .i64 (-1), .slice none 0 0] 76)))
  have HD := hide (at_outP ov _ (row_form h.ob.row) (-1) (.inl (by decide)) (w.alloc (.cells #[.int .i64 (-1), .int .i64 (-1), .slice none 0 0] 76)))
  clear h hs hbw
  go_enter Tryd.func6, Tryd.ntmps6
  go_wp2_with fail
  refine Calls.mono HC.out ?_
  rintro e w1 ⟨rfl, hw⟩
  rw [hw]
  clear hw
  go_wp2_with fail
  refine Calls.mono HD.out ?_
  rintro e w1 ⟨rfl, hw⟩
  rw [hw]
  clear hw
  go_wp2_with fail
  obtain ⟨ii, hi0, hz0, hz1, hz2⟩ := info_parts info76
  obtain ⟨W0, hW0⟩ : ∃ W0, W0 = w.alloc (.cells #[.int .i64 (-1), .int .i64 (-1), .slice none 0 0] 76) := ⟨_, rfl⟩
  have hb0 : Below w.heap.size w W0 := by rw [hW0]; exact (Below.refl _ _).alloc (Nat.le_refl _) _
  have HB0 := hide hb0
  have HH1 := hide (HH.out.later hb0)
  obtain ⟨n0, n1, n2, nf, nl⟩ := new3 (w1 := W0) (by rw [hW0]; exact Below.refl _ _)
  obtain ⟨d0, d1, _, df, dl⟩ := HH1.out.c
  rw [← hW0]
  have hrow : W0.ownsRow H 76 3 sv M.rooms.length (flat (M.rooms.map Ro.h) ss) := by have := HH1.out.ro.row; rwa [List.length_map] at this
  have HROW := hide hrow
  clear hW0 hb0 h0 h1 hf hf1 HC HD d0 hrow
  refine wp_region_any (by kernel_rfl) ?_
  change wpAny _ _ _ _ _ _ _ (World.drew _)
  refine wt 0 (.pointer (some ⟨H, 0, none⟩)) ?_
  refine wt 1 (.pointer (some ⟨H, 0, none⟩)) ?_
  refine wt 2 (.pointer (some ⟨H, 0, none⟩)) ?_
  refine wt 3 (.pointer (some ⟨H, 1, none⟩)) ?_
  refine wr2 4 5 (fun K hK => ?ca) fun K hK => ?cb
  case' ca =>
    go_simp
    refine hK _ _ ?_
    clear hK K
    refine wr1 5 fun K hK => ?_
    go_simp
    refine hK _ _ ?_
    clear hK K
    refine wr1 6 fun K hK => ?_
    go_simp
    refine hK _ _ ?_
    clear hK K
  case' cb =>
    go_simp
    refine hK _ _ ?_
    clear hK K
    refine wr2 4 6 (fun K hK => ?cc) fun K hK => ?cd
  case' cc =>
    go_simp
    refine hK _ _ ?_
    clear hK K
    refine wr1 6 fun K hK => ?_
    go_simp
    refine hK _ _ ?_
    clear hK K
  case' cd =>
    go_simp
    refine hK _ _ ?_
    clear hK K
    refine wr1 4 fun K hK => ?_
    go_simp
    refine hK _ _ ?_
    clear hK K
  all_goals
    refine wr1 7 fun K hK => ?_
    refine step_append_lies _ rfl _ _ 24 rfl H 76 ii _ 3 40 Tryd.underlying24 hi0 hz0 hz1 hz2 rfl (by decide) _ _ _ rfl (HROW.out.drew.alloc _) ⟨W0.heap.size, 0, none⟩ 1 1 [.int .i64 (-1), .int .i64 (-1), .slice none 0 0] rfl rfl (new3_cells _ _ rfl _ _ _) (new3_one _ _) (by decide) (by have := HLEN.out; unfold maxLen; omega) (by have := HLEN.out; omega) (by simp; omega) (W0.heap.size + 1) (by simp) ?_
    intro gn capn w3 hown3 hgr3 hg3 _
    refine hK _ _ ?_
    clear hK K
    have hgr : W0.grownBy w3 sv.ownBlock := grown_trans (grown_trans (b := W0.drew) ⟨rfl, rfl, rfl, Nat.le_refl _, fun _ _ _ => rfl⟩ (World.grownBy_alloc _ _ _)) hgr3
    have HZ := hide (HH1.out.pushR (-1) (-1) (tv' := .slice (some ⟨gn, 0, none⟩) (M.rooms.length + 1) capn) hgr hown3)
    have kg : w3.cell? ⟨H, 1, none⟩ = some sv ∧ w3.frozen? ⟨H, 1, none⟩ = false := by
      have hne : some H ≠ sv.ownBlock := fun e => by
        obtain ⟨c, hc⟩ := row_tag HH1.out.ro.row e.symm
        exact tags_ne hc HH1.out.blk (by decide) rfl
      have hbk := hgr.block H dl hne
      exact ⟨(World.cell?_of_block (w := W0) (a := ⟨H, 1, none⟩) hbk).trans d1, (World.frozen?_of_block (w := W0) (a := ⟨H, 1, none⟩) hbk).trans df⟩
    obtain ⟨kg1, kg2⟩ := kg
    clear hgr hown3 hgr3 hg3 d1 df n0 n1 n2 nf
    have hln := HLEN.out
    refine wt 8 (.pointer (some ⟨H, 0, none⟩)) ?_
    refine wt 9 (.pointer (some ⟨H, 1, none⟩)) ?_
    refine wr1 10 fun K hK => ?_
    go_simp
    refine hK _ _ ?_
    clear hK K
    refine wpAny_done (by kernel_rfl) ?_ _
    go_simp
    go_wp2_with fail
    go_ret
    exact ⟨rfl, ⟨_, _, _, _, HZ.out.1⟩, (FrT.of HB0.out (Nat.le_of_lt HLH.out)).trans HZ.out.2⟩
theorem scope_yn (h : HP H w M ov sv os ss) (hs : M.Small K) (hK : K ≤ 1000) (i : Nat) (x : Ro) (hi : M.rooms[i]? = some x) :
    Calls Tryd.prog 6 #[.pointer (some ⟨H, 0, none⟩), .int .i64 (i : Int), .int .i64 (-1)] w fun e w' => e = .returned (.int .i64 (M.rooms.length : Int)) ∧ HeapH H w' ⟨M.objs, M.rooms ++ [⟨(i : Int), (-1), []⟩]⟩ ∧ FrT Th H w w' := by
  obtain ⟨h0, h1, hf, hf1, hHl⟩ := h.c
  have HH := hide h
  have HLEN := hide hs.r
  have HLH := hide hHl
  have hbw : Below w.heap.size w (w.alloc (.cells #[.int .i64 (i : Int), .int .i64 (-1), .slice none 0 0] 76)) := (Below.refl _ _).alloc (Nat.le_refl _) _
  obtain ⟨aa, hca⟩ := at_C (h.later hbw) i x hi
  have HC := hide hca
  clear hca hi
  have HD := hide (at_outP ov _ (row_form h.ob.row) (-1) (.inl (by decide)) (w.alloc (.cells #[.int .i64 (i : Int), .int .i64 (-1), .slice none 0 0] 76)))
  clear h hs hbw
  go_enter Tryd.func6, Tryd.ntmps6
  go_wp2_with fail
  refine Calls.mono HC.out ?_
  rintro e w1 ⟨rfl, hw⟩
  rw [hw]
  clear hw
  go_wp2_with fail
  refine Calls.mono HD.out ?_
  rintro e w1 ⟨rfl, hw⟩
  rw [hw]
  clear hw
  go_wp2_with fail
  obtain ⟨ii, hi0, hz0, hz1, hz2⟩ := info_parts info76
  obtain ⟨W0, hW0⟩ : ∃ W0, W0 = w.alloc (.cells #[.int .i64 (i : Int), .int .i64 (-1), .slice none 0 0] 76) := ⟨_, rfl⟩
  have hb0 : Below w.heap.size w W0 := by rw [hW0]; exact (Below.refl _ _).alloc (Nat.le_refl _) _
  have HB0 := hide hb0
  have HH1 := hide (HH.out.later hb0)
  obtain ⟨n0, n1, n2, nf, nl⟩ := new3 (w1 := W0) (by rw [hW0]; exact Below.refl _ _)
  obtain ⟨d0, d1, _, df, dl⟩ := HH1.out.c
  rw [← hW0]
  have hrow : W0.ownsRow H 76 3 sv M.rooms.length (flat (M.rooms.map Ro.h) ss) := by have := HH1.out.ro.row; rwa [List.length_map] at this
  have HROW := hide hrow
  clear hW0 hb0 h0 h1 hf hf1 HC HD d0 hrow
  refine wp_region_any (by kernel_rfl) ?_
  change wpAny _ _ _ _ _ _ _ (World.drew _)
  refine wt 0 (.pointer (some ⟨H, 0, none⟩)) ?_
  refine wt 1 (.pointer (some ⟨H, 0, none⟩)) ?_
  refine wt 2 (.pointer (some ⟨H, 0, none⟩)) ?_
  refine wt 3 (.pointer (some ⟨H, 1, none⟩)) ?_
  refine wr2 4 5 (fun K hK => ?ca) fun K hK => ?cb
  case' ca =>
    go_simp
    refine hK _ _ ?_
    clear hK K
    refine wr1 5 fun K hK => ?_
    go_simp
    refine hK _ _ ?_
    clear hK K
    refine wr1 6 fun K hK => ?_
    go_simp
    refine hK _ _ ?_
    clear hK K
  case' cb =>
    go_simp
    refine hK _ _ ?_
    clear hK K
    refine wr2 4 6 (fun K hK => ?cc) fun K hK => ?cd
  case' cc =>
    go_simp
    refine hK _ _ ?_
    clear hK K
    refine wr1 6 fun K hK => ?_
    go_simp
    refine hK _ _ ?_
    clear hK K
  case' cd =>
    go_simp
    refine hK _ _ ?_
    clear hK K
    refine wr1 4 fun K hK => ?_
    go_simp
    refine hK _ _ ?_
    clear hK K
  all_goals
    refine wr1 7 fun K hK => ?_
    refine step_append_lies _ rfl _ _ 24 rfl H 76 ii _ 3 40 Tryd.underlying24 hi0 hz0 hz1 hz2 rfl (by decide) _ _ _ rfl (HROW.out.drew.alloc _) ⟨W0.heap.size, 0, none⟩ 1 1 [.int .i64 (i : Int), .int .i64 (-1), .slice none 0 0] rfl rfl (new3_cells _ _ rfl _ _ _) (new3_one _ _) (by decide) (by have := HLEN.out; unfold maxLen; omega) (by have := HLEN.out; omega) (by simp; omega) (W0.heap.size + 1) (by simp) ?_
    intro gn capn w3 hown3 hgr3 hg3 _
    refine hK _ _ ?_
    clear hK K
    have hgr : W0.grownBy w3 sv.ownBlock := grown_trans (grown_trans (b := W0.drew) ⟨rfl, rfl, rfl, Nat.le_refl _, fun _ _ _ => rfl⟩ (World.grownBy_alloc _ _ _)) hgr3
    have HZ := hide (HH1.out.pushR (i : Int) (-1) (tv' := .slice (some ⟨gn, 0, none⟩) (M.rooms.length + 1) capn) hgr hown3)
    have kg : w3.cell? ⟨H, 1, none⟩ = some sv ∧ w3.frozen? ⟨H, 1, none⟩ = false := by
      have hne : some H ≠ sv.ownBlock := fun e => by
        obtain ⟨c, hc⟩ := row_tag HH1.out.ro.row e.symm
        exact tags_ne hc HH1.out.blk (by decide) rfl
      have hbk := hgr.block H dl hne
      exact ⟨(World.cell?_of_block (w := W0) (a := ⟨H, 1, none⟩) hbk).trans d1, (World.frozen?_of_block (w := W0) (a := ⟨H, 1, none⟩) hbk).trans df⟩
    obtain ⟨kg1, kg2⟩ := kg
    clear hgr hown3 hgr3 hg3 d1 df n0 n1 n2 nf
    have hln := HLEN.out
    refine wt 8 (.pointer (some ⟨H, 0, none⟩)) ?_
    refine wt 9 (.pointer (some ⟨H, 1, none⟩)) ?_
    refine wr1 10 fun K hK => ?_
    go_simp
    refine hK _ _ ?_
    clear hK K
    refine wpAny_done (by kernel_rfl) ?_ _
    go_simp
    go_wp2_with fail
    go_ret
    exact ⟨rfl, ⟨_, _, _, _, HZ.out.1⟩, (FrT.of HB0.out (Nat.le_of_lt HLH.out)).trans HZ.out.2⟩
theorem scope_ny (h : HP H w M ov sv os ss) (hs : M.Small K) (hK : K ≤ 1000) (j : Nat) (y : Ob) (hj : M.objs[j]? = some y) :
    Calls Tryd.prog 6 #[.pointer (some ⟨H, 0, none⟩), .int .i64 (-1), .int .i64 (j : Int)] w fun e w' => e = .returned (.int .i64 (M.rooms.length : Int)) ∧ HeapH H w' ⟨M.objs, M.rooms ++ [⟨(-1), (j : Int), []⟩]⟩ ∧ FrT Th H w w' := by
  obtain ⟨h0, h1, hf, hf1, hHl⟩ := h.c
  have HH := hide h
  have HLEN := hide hs.r
  have HLH := hide hHl
  have hbw : Below w.heap.size w (w.alloc (.cells #[.int .i64 (-1), .int .i64 (j : Int), .slice none 0 0] 76)) := (Below.refl _ _).alloc (Nat.le_refl _) _
  have HC := hide (at_outC sv _ (row_form h.ro.row) (-1) (.inl (by decide)) (w.alloc (.cells #[.int .i64 (-1), .int .i64 (j : Int), .slice none 0 0] 76)))
  obtain ⟨ab, hcb⟩ := at_P (h.later hbw) j y hj
  have HD := hide hcb
  clear hcb hj
  clear h hs hbw
  go_enter Tryd.func6, Tryd.ntmps6
  go_wp2_with fail
  refine Calls.mono HC.out ?_
  rintro e w1 ⟨rfl, hw⟩
  rw [hw]
  clear hw
  go_wp2_with fail
  refine Calls.mono HD.out ?_
  rintro e w1 ⟨rfl, hw⟩
  rw [hw]
  clear hw
  go_wp2_with fail
  obtain ⟨ii, hi0, hz0, hz1, hz2⟩ := info_parts info76
  obtain ⟨W0, hW0⟩ : ∃ W0, W0 = w.alloc (.cells #[.int .i64 (-1), .int .i64 (j : Int), .slice none 0 0] 76) := ⟨_, rfl⟩
  have hb0 : Below w.heap.size w W0 := by rw [hW0]; exact (Below.refl _ _).alloc (Nat.le_refl _) _
  have HB0 := hide hb0
  have HH1 := hide (HH.out.later hb0)
  obtain ⟨n0, n1, n2, nf, nl⟩ := new3 (w1 := W0) (by rw [hW0]; exact Below.refl _ _)
  obtain ⟨d0, d1, _, df, dl⟩ := HH1.out.c
  rw [← hW0]
  have hrow : W0.ownsRow H 76 3 sv M.rooms.length (flat (M.rooms.map Ro.h) ss) := by have := HH1.out.ro.row; rwa [List.length_map] at this
  have HROW := hide hrow
  clear hW0 hb0 h0 h1 hf hf1 HC HD d0 hrow
  refine wp_region_any (by kernel_rfl) ?_
  change wpAny _ _ _ _ _ _ _ (World.drew _)
  refine wt 0 (.pointer (some ⟨H, 0, none⟩)) ?_
  refine wt 1 (.pointer (some ⟨H, 0, none⟩)) ?_
  refine wt 2 (.pointer (some ⟨H, 0, none⟩)) ?_
  refine wt 3 (.pointer (some ⟨H, 1, none⟩)) ?_
  refine wr2 4 5 (fun K hK => ?ca) fun K hK => ?cb
  case' ca =>
    go_simp
    refine hK _ _ ?_
    clear hK K
    refine wr1 5 fun K hK => ?_
    go_simp
    refine hK _ _ ?_
    clear hK K
    refine wr1 6 fun K hK => ?_
    go_simp
    refine hK _ _ ?_
    clear hK K
  case' cb =>
    go_simp
    refine hK _ _ ?_
    clear hK K
    refine wr2 4 6 (fun K hK => ?cc) fun K hK => ?cd
  case' cc =>
    go_simp
    refine hK _ _ ?_
    clear hK K
    refine wr1 6 fun K hK => ?_
    go_simp
    refine hK _ _ ?_
    clear hK K
  case' cd =>
    go_simp
    refine hK _ _ ?_
    clear hK K
    refine wr1 4 fun K hK => ?_
    go_simp
    refine hK _ _ ?_
    clear hK K
  all_goals
    refine wr1 7 fun K hK => ?_
    refine step_append_lies _ rfl _ _ 24 rfl H 76 ii _ 3 40 Tryd.underlying24 hi0 hz0 hz1 hz2 rfl (by decide) _ _ _ rfl (HROW.out.drew.alloc _) ⟨W0.heap.size, 0, none⟩ 1 1 [.int .i64 (-1), .int .i64 (j : Int), .slice none 0 0] rfl rfl (new3_cells _ _ rfl _ _ _) (new3_one _ _) (by decide) (by have := HLEN.out; unfold maxLen; omega) (by have := HLEN.out; omega) (by simp; omega) (W0.heap.size + 1) (by simp) ?_
    intro gn capn w3 hown3 hgr3 hg3 _
    refine hK _ _ ?_
    clear hK K
    have hgr : W0.grownBy w3 sv.ownBlock := grown_trans (grown_trans (b := W0.drew) ⟨rfl, rfl, rfl, Nat.le_refl _, fun _ _ _ => rfl⟩ (World.grownBy_alloc _ _ _)) hgr3
    have HZ := hide (HH1.out.pushR (-1) (j : Int) (tv' := .slice (some ⟨gn, 0, none⟩) (M.rooms.length + 1) capn) hgr hown3)
    have kg : w3.cell? ⟨H, 1, none⟩ = some sv ∧ w3.frozen? ⟨H, 1, none⟩ = false := by
      have hne : some H ≠ sv.ownBlock := fun e => by
        obtain ⟨c, hc⟩ := row_tag HH1.out.ro.row e.symm
        exact tags_ne hc HH1.out.blk (by decide) rfl
      have hbk := hgr.block H dl hne
      exact ⟨(World.cell?_of_block (w := W0) (a := ⟨H, 1, none⟩) hbk).trans d1, (World.frozen?_of_block (w := W0) (a := ⟨H, 1, none⟩) hbk).trans df⟩
    obtain ⟨kg1, kg2⟩ := kg
    clear hgr hown3 hgr3 hg3 d1 df n0 n1 n2 nf
    have hln := HLEN.out
    refine wt 8 (.pointer (some ⟨H, 0, none⟩)) ?_
    refine wt 9 (.pointer (some ⟨H, 1, none⟩)) ?_
    refine wr1 10 fun K hK => ?_
    go_simp
    refine hK _ _ ?_
    clear hK K
    refine wpAny_done (by kernel_rfl) ?_ _
    go_simp
    go_wp2_with fail
    go_ret
    exact ⟨rfl, ⟨_, _, _, _, HZ.out.1⟩, (FrT.of HB0.out (Nat.le_of_lt HLH.out)).trans HZ.out.2⟩
theorem scope_yy (h : HP H w M ov sv os ss) (hs : M.Small K) (hK : K ≤ 1000) (i : Nat) (x : Ro) (hi : M.rooms[i]? = some x) (j : Nat) (y : Ob) (hj : M.objs[j]? = some y) :
    Calls Tryd.prog 6 #[.pointer (some ⟨H, 0, none⟩), .int .i64 (i : Int), .int .i64 (j : Int)] w fun e w' => e = .returned (.int .i64 (M.rooms.length : Int)) ∧ HeapH H w' ⟨M.objs, M.rooms ++ [⟨(i : Int), (j : Int), []⟩]⟩ ∧ FrT Th H w w' := by
  obtain ⟨h0, h1, hf, hf1, hHl⟩ := h.c
  have HH := hide h
  have HLEN := hide hs.r
  have HLH := hide hHl
  have hbw : Below w.heap.size w (w.alloc (.cells #[.int .i64 (i : Int), .int .i64 (j : Int), .slice none 0 0] 76)) := (Below.refl _ _).alloc (Nat.le_refl _) _
  obtain ⟨aa, hca⟩ := at_C (h.later hbw) i x hi
  have HC := hide hca
  clear hca hi
  obtain ⟨ab, hcb⟩ := at_P (h.later hbw) j y hj
  have HD := hide hcb
  clear hcb hj
  clear h hs hbw
  go_enter Tryd.func6, Tryd.ntmps6
  go_wp2_with fail
  refine Calls.mono HC.out ?_
  rintro e w1 ⟨rfl, hw⟩
  rw [hw]
  clear hw
  go_wp2_with fail
  refine Calls.mono HD.out ?_
  rintro e w1 ⟨rfl, hw⟩
  rw [hw]
  clear hw
  go_wp2_with fail
  obtain ⟨ii, hi0, hz0, hz1, hz2⟩ := info_parts info76
  obtain ⟨W0, hW0⟩ : ∃ W0, W0 = w.alloc (.cells #[.int .i64 (i : Int), .int .i64 (j : Int), .slice none 0 0] 76) := ⟨_, rfl⟩
  have hb0 : Below w.heap.size w W0 := by rw [hW0]; exact (Below.refl _ _).alloc (Nat.le_refl _) _
  have HB0 := hide hb0
  have HH1 := hide (HH.out.later hb0)
  obtain ⟨n0, n1, n2, nf, nl⟩ := new3 (w1 := W0) (by rw [hW0]; exact Below.refl _ _)
  obtain ⟨d0, d1, _, df, dl⟩ := HH1.out.c
  rw [← hW0]
  have hrow : W0.ownsRow H 76 3 sv M.rooms.length (flat (M.rooms.map Ro.h) ss) := by have := HH1.out.ro.row; rwa [List.length_map] at this
  have HROW := hide hrow
  clear hW0 hb0 h0 h1 hf hf1 HC HD d0 hrow
  refine wp_region_any (by kernel_rfl) ?_
  change wpAny _ _ _ _ _ _ _ (World.drew _)
  refine wt 0 (.pointer (some ⟨H, 0, none⟩)) ?_
  refine wt 1 (.pointer (some ⟨H, 0, none⟩)) ?_
  refine wt 2 (.pointer (some ⟨H, 0, none⟩)) ?_
  refine wt 3 (.pointer (some ⟨H, 1, none⟩)) ?_
  refine wr2 4 5 (fun K hK => ?ca) fun K hK => ?cb
  case' ca =>
    go_simp
    refine hK _ _ ?_
    clear hK K
    refine wr1 5 fun K hK => ?_
    go_simp
    refine hK _ _ ?_
    clear hK K
    refine wr1 6 fun K hK => ?_
    go_simp
    refine hK _ _ ?_
    clear hK K
  case' cb =>
    go_simp
    refine hK _ _ ?_
    clear hK K
    refine wr2 4 6 (fun K hK => ?cc) fun K hK => ?cd
  case' cc =>
    go_simp
    refine hK _ _ ?_
    clear hK K
    refine wr1 6 fun K hK => ?_
    go_simp
    refine hK _ _ ?_
    clear hK K
  case' cd =>
    go_simp
    refine hK _ _ ?_
    clear hK K
    refine wr1 4 fun K hK => ?_
    go_simp
    refine hK _ _ ?_
    clear hK K
  all_goals
    refine wr1 7 fun K hK => ?_
    refine step_append_lies _ rfl _ _ 24 rfl H 76 ii _ 3 40 Tryd.underlying24 hi0 hz0 hz1 hz2 rfl (by decide) _ _ _ rfl (HROW.out.drew.alloc _) ⟨W0.heap.size, 0, none⟩ 1 1 [.int .i64 (i : Int), .int .i64 (j : Int), .slice none 0 0] rfl rfl (new3_cells _ _ rfl _ _ _) (new3_one _ _) (by decide) (by have := HLEN.out; unfold maxLen; omega) (by have := HLEN.out; omega) (by simp; omega) (W0.heap.size + 1) (by simp) ?_
    intro gn capn w3 hown3 hgr3 hg3 _
    refine hK _ _ ?_
    clear hK K
    have hgr : W0.grownBy w3 sv.ownBlock := grown_trans (grown_trans (b := W0.drew) ⟨rfl, rfl, rfl, Nat.le_refl _, fun _ _ _ => rfl⟩ (World.grownBy_alloc _ _ _)) hgr3
    have HZ := hide (HH1.out.pushR (i : Int) (j : Int) (tv' := .slice (some ⟨gn, 0, none⟩) (M.rooms.length + 1) capn) hgr hown3)
    have kg : w3.cell? ⟨H, 1, none⟩ = some sv ∧ w3.frozen? ⟨H, 1, none⟩ = false := by
      have hne : some H ≠ sv.ownBlock := fun e => by
        obtain ⟨c, hc⟩ := row_tag HH1.out.ro.row e.symm
        exact tags_ne hc HH1.out.blk (by decide) rfl
      have hbk := hgr.block H dl hne
      exact ⟨(World.cell?_of_block (w := W0) (a := ⟨H, 1, none⟩) hbk).trans d1, (World.frozen?_of_block (w := W0) (a := ⟨H, 1, none⟩) hbk).trans df⟩
    obtain ⟨kg1, kg2⟩ := kg
    clear hgr hown3 hgr3 hg3 d1 df n0 n1 n2 nf
    have hln := HLEN.out
    refine wt 8 (.pointer (some ⟨H, 0, none⟩)) ?_
    refine wt 9 (.pointer (some ⟨H, 1, none⟩)) ?_
    refine wr1 10 fun K hK => ?_
    go_simp
    refine hK _ _ ?_
    clear hK K
    refine wpAny_done (by kernel_rfl) ?_ _
    go_simp
    go_wp2_with fail
    go_ret
    exact ⟨rfl, ⟨_, _, _, _, HZ.out.1⟩, (FrT.of HB0.out (Nat.le_of_lt HLH.out)).trans HZ.out.2⟩
end
end Go.Proofs.YtomogijjkdiomaaDoor
