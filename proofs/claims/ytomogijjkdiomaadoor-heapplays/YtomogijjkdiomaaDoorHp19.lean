/-
  The document's own heap: Declare.
-/
import Derived.Test.YtomogijjkdiomaaDoorHp18
set_option maxRecDepth 100000
set_option maxHeartbeats 16000000
namespace Go.Proofs.YtomogijjkdiomaaDoor
open Go.RowKit

section
variable {R : Nat} {w w1 : World} {M : Mo} {cv pv rv : Value} {ps rs : List Value} {K : Nat}
set_option maxRecDepth 100000
set_option maxHeartbeats 1000000
theorem info100 : (Tryd.prog.info? 100).map (fun i => (i.zero, i.size, i.bytes)) = some (some (.agg #[.string ⟨#[]⟩, .int .i64 0, .int .i64 0, .bool false]), 4, 40) := by kernel_rfl
theorem newc_cells (w : World) (H : Nat) (hH : w.heap.size = H) (x : ByteArray) (b c : Int) (r : Bool) (j : Nat) (u : Value) (h : ([.string x, .int .i64 b, .int .i64 c, .bool r] : List Value)[j]? = some u) :
    (w.alloc (.cells #[.string x, .int .i64 b, .int .i64 c, .bool r] 100)).cell? (Addr.add ⟨H, 0, none⟩ j) = some u := by
  subst hH
  match j, h with
  | 0, h => simp at h; subst h; simp [Addr.add]
  | 1, h => simp at h; subst h; simp [Addr.add]
  | 2, h => simp at h; subst h; simp [Addr.add]
  | 3, h => simp at h; subst h; simp [Addr.add]
  | k + 4, h => simp at h
theorem newc_one (x : ByteArray) (b c : Int) (r : Bool) : ∀ u ∈ ([.string x, .int .i64 b, .int .i64 c, .bool r] : List Value), u.oneCell' = true := by
  intro u hu
  simp at hu
  rcases hu with rfl | rfl | rfl | rfl <;> rfl
theorem rdecl_out (h : WP R w M cv pv rv ps rs) (s : Int) (nm : ByteArray) (kd n : Int) (ho : M.ro s = none) :
    Calls Tryd.prog 13 #[.pointer (some ⟨R, 0, none⟩), .int .i64 s, .string nm, .int .i64 kd, .int .i64 n] w fun e w' => e = .returned (.int .i64 7) ∧ Below w.heap.size w w' := by
  have HO := hide (room_any h s)
  rw [ho] at HO
  clear h ho
  go_enter Tryd.func13, Tryd.ntmps13
  go_wp2_with fail
  refine Calls.mono HO.out ?_
  rintro e w1 ⟨rfl, rfl⟩
  go_wp2_with fail
  go_ret
  exact ⟨rfl, Below.refl _ _⟩
theorem rdecl_obj (h : WP R w M cv pv rv ps rs) (i : Nat) (x : Ro) (hi : M.rooms[i]? = some x) (nm : ByteArray) (kd n : Int) (ho : 0 ≤ x.object) :
    Calls Tryd.prog 13 #[.pointer (some ⟨R, 0, none⟩), .int .i64 (i : Int), .string nm, .int .i64 kd, .int .i64 n] w fun e w' => e = .returned (.int .i64 1) ∧ Below w.heap.size w w' := by
  have HO := hide (room_any h i)
  rw [ro_nat hi] at HO
  obtain ⟨h0, h1, h2, hl⟩ := h.c
  obtain ⟨g, cap, v, rfl, hlt, hv, c0, c1, c2, hrow, hg, hB, hfz⟩ := rroom h hi
  clear h hrow hv hfz hi
  go_enter Tryd.func13, Tryd.ntmps13
  go_wp2_with fail
  refine Calls.mono HO.out ?_
  rintro e w1 ⟨rfl, rfl⟩
  go_wp2_with fail
  go_ret
  exact ⟨rfl, Below.refl _ _⟩
theorem rdecl_twice (h : WP R w M cv pv rv ps rs) (hs : M.Small K) (hK : K ≤ 1000) (hok : M.Ok) (i : Nat) (x : Ro) (hi : M.rooms[i]? = some x) (nm : ByteArray) (kd n : Int) (ho : x.object < 0) (hh : M.has i nm = true) :
    Calls Tryd.prog 13 #[.pointer (some ⟨R, 0, none⟩), .int .i64 (i : Int), .string nm, .int .i64 kd, .int .i64 n] w fun e w' => e = .returned (.int .i64 9) ∧ Below w.heap.size w w' := by
  have HO := hide (room_any h i)
  rw [ro_nat hi] at HO
  have HS := hide (rhas_any h hs hK hok i nm)
  rw [hh] at HS
  obtain ⟨h0, h1, h2, hl⟩ := h.c
  obtain ⟨g, cap, v, rfl, hlt, hv, c0, c1, c2, hrow, hg, hB, hfz⟩ := rroom h hi
  have ho2 : ¬ 0 ≤ x.object := by omega
  clear h hrow hv hfz hi hh hs hok
  go_enter Tryd.func13, Tryd.ntmps13
  go_wp2_with fail
  refine Calls.mono HO.out ?_
  rintro e w1 ⟨rfl, rfl⟩
  go_wp2_with fail
  refine Calls.mono HS.out ?_
  rintro e w2 ⟨rfl, hb⟩
  have HB := hide hb
  clear hb
  go_wp2_with fail
  go_ret
  exact ⟨rfl, HB.out⟩
theorem rdecl_late (h : WP R w M cv pv rv ps rs) (hs : M.Small K) (hK : K ≤ 1000) (hok : M.Ok) (i : Nat) (x : Ro) (hi : M.rooms[i]? = some x) (nm : ByteArray) (kd n : Int) (ho : x.object < 0) (hh : M.has i nm = false) (q1 : kd = 1) :
    Calls Tryd.prog 13 #[.pointer (some ⟨R, 0, none⟩), .int .i64 (i : Int), .string nm, .int .i64 kd, .int .i64 n] w fun e w' => e = .returned (.int .i64 0) ∧ (∃ rs', WP R w' (M.setRo i ⟨x.outer, x.object, x.cs ++ [⟨nm, n, kd, false⟩]⟩) cv pv rv ps rs') ∧ FrT Tr R w w' := by
  subst q1
  have HO := hide (room_any h i)
  rw [ro_nat hi] at HO
  have HS := hide (rhas_any h hs hK hok i nm)
  rw [hh] at HS
  obtain ⟨h0, h1, h2, hl⟩ := h.c
  obtain ⟨g, cap, v, rfl, hlt, hv, c0, c1, c2, hrow, hg, hB, hfz⟩ := rroom h hi
  have ho2 : ¬ 0 ≤ x.object := by omega
  have HH := hide h
  have HI := hide hi
  have HV := hide hv
  have HLEN := hide (hs.cs x (List.mem_of_getElem? hi))
  have HLR := hide hl
  have HFZ := hide hfz
  have HROW := hide hrow
  have HG := hide hg
  have HC2 := hide c2
  have HH2 := hide h2
  obtain ⟨ii, hi0, hz0, hz1, hz2⟩ := info_parts info100
  clear h hrow hv hfz hi hh hs hok
  go_enter Tryd.func13, Tryd.ntmps13
  go_wp2_with fail
  refine Calls.mono HO.out ?_
  rintro e w1 ⟨rfl, rfl⟩
  go_wp2_with fail
  refine Calls.mono HS.out ?_
  rintro e w2 ⟨rfl, hb⟩
  have HB := hide hb
  have HH1 := hide (HH.out.later hb)
  have HROW1 := hide (row_later HROW.out hb)
  have k2 : w2.cell? ⟨R, 2, none⟩ = some (.slice (some ⟨g, 0, none⟩) M.rooms.length cap) := (cell_below hb (a := ⟨R, 2, none⟩) HLR.out).trans HH2.out
  have e2 : w2.cell? ⟨g, i * 3 + 2, none⟩ = some v := (cell_below hb (a := ⟨g, i * 3 + 2, none⟩) HG.out).trans HC2.out
  have hl2 : R < w2.heap.size := Nat.lt_of_lt_of_le HLR.out hb.size
  have hg2 : g < w2.heap.size := Nat.lt_of_lt_of_le HG.out hb.size
  have hfz2 : w2.frozen? ⟨g, i * 3 + 2, none⟩ = false := (World.frozen?_of_block (w := w1) (a := ⟨g, i * 3 + 2, none⟩) (hb.block g HG.out)).trans (HFZ.out _)
  clear hb
  go_wp2_with fail
  refine wp_region_held (S := fun W => W.cell? ⟨R, 2, none⟩ = some (.slice (some ⟨g, 0, none⟩) M.rooms.length cap)) (by kernel_rfl) ?_
  change wpAnyH _ _ _ _ _ _ _ _ (World.drew _)
  have HS : Hid (w2.drew.cell? ⟨R, 2, none⟩ = some (.slice (some ⟨g, 0, none⟩) M.rooms.length cap)) := k2
  refine wh 0 (.pointer (some ⟨R, 0, none⟩)) HS.out ?_
  refine wh 1 (.pointer (some ⟨R, 0, none⟩)) HS.out ?_
  refine wh 2 (.pointer (some ⟨R, 2, none⟩)) HS.out ?_
  refine wg 3 (.slice (some ⟨g, 0, none⟩) M.rooms.length cap) rfl (Or.inl ⟨by kernel_rfl, fun W hW => by go_simp⟩) HS.out ?_
  refine wh 4 (.int .i64 (i : Int)) HS.out ?_
  refine wh 5 (.pointer (some ⟨R, 0, none⟩)) HS.out ?_
  refine wh 6 (.pointer (some ⟨R, 0, none⟩)) HS.out ?_
  refine wh 7 (.pointer (some ⟨R, 2, none⟩)) HS.out ?_
  refine wg 8 (.slice (some ⟨g, 0, none⟩) M.rooms.length cap) rfl (Or.inl ⟨by kernel_rfl, fun W hW => by go_simp⟩) HS.out ?_
  refine wh 9 (.int .i64 (i : Int)) HS.out ?_
  refine wh 10 (.pointer (some ⟨g, i * 3, none⟩)) HS.out ?_
  refine wh 11 (.pointer (some ⟨g, i * 3 + 2, none⟩)) HS.out ?_
  refine wh 13 (.string nm) HS.out ?_
  refine wh 14 (.int .i64 n) HS.out ?_
  refine wh 15 (.int .i64 1) HS.out ?_
  refine wh 16 (.int .i64 1) HS.out ?_
  refine wh 17 (.bool false) HS.out ?_
  refine wh 18 (.bool false) HS.out ?_
  refine wg 19 undef rfl (Or.inr ⟨by kernel_rfl, rfl⟩) HS.out ?_
  refine wg 20 undef rfl (Or.inr ⟨by kernel_rfl, rfl⟩) HS.out ?_
  refine wh 21 (.bool false) HS.out ?_
  refine wh 22 (.agg #[.string nm, .int .i64 n, .int .i64 1, .bool false]) HS.out ?_
  refine wq2 12 23 (fun K hK => ?ca) fun K hK => ?cb
  case' ca =>
    go_simp
    refine hK.out _ _ HS.out (fun _ => ?_)
    clear hK K
    refine wq1 23 fun K hK => ?_
    go_simp
    have HSA : Hid ((w2.drew.alloc (.cells #[.string nm, .int .i64 n, .int .i64 1, .bool false] 100)).cell? ⟨R, 2, none⟩ = some (.slice (some ⟨g, 0, none⟩) M.rooms.length cap)) := by show World.cell? _ _ = _; rw [World.cell?_alloc_past _ _ _ (by exact hl2)]; exact k2
    refine hK.out _ _ HSA.out (fun _ => ?_)
    clear hK K
  case' cb =>
    go_simp
    have HSA : Hid ((w2.drew.alloc (.cells #[.string nm, .int .i64 n, .int .i64 1, .bool false] 100)).cell? ⟨R, 2, none⟩ = some (.slice (some ⟨g, 0, none⟩) M.rooms.length cap)) := by show World.cell? _ _ = _; rw [World.cell?_alloc_past _ _ _ (by exact hl2)]; exact k2
    refine hK.out _ _ HSA.out (fun _ => ?_)
    clear hK K
    refine wq1 12 fun K hK => ?_
    go_simp
    refine hK.out _ _ HSA.out (fun _ => ?_)
    clear hK K
  all_goals
    refine wq1 24 fun K hK => ?_
    refine step_append_lies _ rfl _ _ 40 rfl R 100 ii _ 4 40 Tryd.underlying40 hi0 hz0 hz1 hz2 rfl (by decide) _ _ _ rfl (HROW1.out.drew.alloc _) ⟨w2.heap.size, 0, none⟩ 1 1 [.string nm, .int .i64 n, .int .i64 1, .bool false] rfl rfl (newc_cells _ _ rfl _ _ _ _) (newc_one _ _ _ _) (by decide) (by have := HLEN.out; unfold maxLen; omega) (by have := HLEN.out; omega) (by simp; omega) (w2.heap.size + 1) (by simp) ?_
    intro gn capn w3 hown3 hgr3 hg3 _
    have hgr : w2.grownBy w3 v.ownBlock := grown_trans (grown_trans (b := w2.drew) ⟨rfl, rfl, rfl, Nat.le_refl _, fun _ _ _ => rfl⟩ (World.grownBy_alloc _ _ _)) hgr3
    have HZ := hide (HH1.out.growC (x' := ⟨x.outer, x.object, x.cs ++ [⟨nm, n, 1, false⟩]⟩) HI.out HV.out rfl hgr (v' := .slice (some ⟨gn, 0, none⟩) (x.cs.length + 1) capn) (by rw [List.flatMap_append]; simpa [Ce.r] using hown3) (fun q hq => by cases hq; exact hg3.imp (fun e => e) (fun e => by rw [e]; exact Nat.le_succ _)) ⟨rfl, rfl⟩)
    have hneg : some g ≠ v.ownBlock := fun e => by
      obtain ⟨_, _, hnn⟩ := HH1.out.ro.nes HV.out
      exact (hnn g e.symm).2.2.1 rfl
    have hner : some R ≠ v.ownBlock := fun e => by
      obtain ⟨_, _, hnn⟩ := HH1.out.ro.nes HV.out
      obtain ⟨_, _, _, cc, hcc⟩ := hnn R e.symm
      exact tags_ne hcc HH1.out.blk (by decide) rfl
    have hS3 : w3.cell? ⟨R, 2, none⟩ = some (.slice (some ⟨g, 0, none⟩) M.rooms.length cap) := (World.cell?_of_block (w := w2) (a := ⟨R, 2, none⟩) (hgr.block R hl2 hner)).trans k2
    have kg1 : w3.cell? ⟨g, i * 3 + 2, none⟩ = some v := (World.cell?_of_block (w := w2) (a := ⟨g, i * 3 + 2, none⟩) (hgr.block g hg2 hneg)).trans e2
    have kg2 : w3.frozen? ⟨g, i * 3 + 2, none⟩ = false := (World.frozen?_of_block (w := w2) (a := ⟨g, i * 3 + 2, none⟩) (hgr.block g hg2 hneg)).trans hfz2
    have hRg : R ≠ g := by
      obtain ⟨cd, hcd⟩ := row_tag HH1.out.ro.row (k := g) rfl
      exact tags_ne HH1.out.blk hcd (by decide)
    refine hK.out _ _ hS3 (fun _ => ?_)
    clear hK K hgr hown3 hgr3 hg3 hneg hner e2 hfz2
    refine wh 25 (.pointer (some ⟨g, i * 3, none⟩)) hS3 ?_
    refine wh 26 (.pointer (some ⟨g, i * 3 + 2, none⟩)) hS3 ?_
    refine wq1 27 fun K hK => ?_
    go_simp
    refine hK.out _ _ (by show World.cell? _ _ = _; rw [World.cell?_setCell_far _ _ _ _ (by exact hRg.symm)]; exact hS3) (fun _ => ?_)
    clear hK K
    refine wpAnyH_done (by kernel_rfl) ?_ _
    go_simp
    go_wp2_with fail
    go_ret
    exact ⟨rfl, ⟨_, HZ.out.1⟩, (FrT.of HB.out (Nat.le_of_lt HLR.out)).trans HZ.out.2⟩
theorem rdecl_final (h : WP R w M cv pv rv ps rs) (hs : M.Small K) (hK : K ≤ 1000) (hok : M.Ok) (i : Nat) (x : Ro) (hi : M.rooms[i]? = some x) (nm : ByteArray) (kd n : Int) (ho : x.object < 0) (hh : M.has i nm = false) (q2 : kd = 2) :
    Calls Tryd.prog 13 #[.pointer (some ⟨R, 0, none⟩), .int .i64 (i : Int), .string nm, .int .i64 kd, .int .i64 n] w fun e w' => e = .returned (.int .i64 0) ∧ (∃ rs', WP R w' (M.setRo i ⟨x.outer, x.object, x.cs ++ [⟨nm, n, kd, false⟩]⟩) cv pv rv ps rs') ∧ FrT Tr R w w' := by
  subst q2
  have HO := hide (room_any h i)
  rw [ro_nat hi] at HO
  have HS := hide (rhas_any h hs hK hok i nm)
  rw [hh] at HS
  obtain ⟨h0, h1, h2, hl⟩ := h.c
  obtain ⟨g, cap, v, rfl, hlt, hv, c0, c1, c2, hrow, hg, hB, hfz⟩ := rroom h hi
  have ho2 : ¬ 0 ≤ x.object := by omega
  have HH := hide h
  have HI := hide hi
  have HV := hide hv
  have HLEN := hide (hs.cs x (List.mem_of_getElem? hi))
  have HLR := hide hl
  have HFZ := hide hfz
  have HROW := hide hrow
  have HG := hide hg
  have HC2 := hide c2
  have HH2 := hide h2
  obtain ⟨ii, hi0, hz0, hz1, hz2⟩ := info_parts info100
  clear h hrow hv hfz hi hh hs hok
  go_enter Tryd.func13, Tryd.ntmps13
  go_wp2_with fail
  refine Calls.mono HO.out ?_
  rintro e w1 ⟨rfl, rfl⟩
  go_wp2_with fail
  refine Calls.mono HS.out ?_
  rintro e w2 ⟨rfl, hb⟩
  have HB := hide hb
  have HH1 := hide (HH.out.later hb)
  have HROW1 := hide (row_later HROW.out hb)
  have k2 : w2.cell? ⟨R, 2, none⟩ = some (.slice (some ⟨g, 0, none⟩) M.rooms.length cap) := (cell_below hb (a := ⟨R, 2, none⟩) HLR.out).trans HH2.out
  have e2 : w2.cell? ⟨g, i * 3 + 2, none⟩ = some v := (cell_below hb (a := ⟨g, i * 3 + 2, none⟩) HG.out).trans HC2.out
  have hl2 : R < w2.heap.size := Nat.lt_of_lt_of_le HLR.out hb.size
  have hg2 : g < w2.heap.size := Nat.lt_of_lt_of_le HG.out hb.size
  have hfz2 : w2.frozen? ⟨g, i * 3 + 2, none⟩ = false := (World.frozen?_of_block (w := w1) (a := ⟨g, i * 3 + 2, none⟩) (hb.block g HG.out)).trans (HFZ.out _)
  clear hb
  go_wp2_with fail
  refine wp_region_held (S := fun W => W.cell? ⟨R, 2, none⟩ = some (.slice (some ⟨g, 0, none⟩) M.rooms.length cap)) (by kernel_rfl) ?_
  change wpAnyH _ _ _ _ _ _ _ _ (World.drew _)
  have HS : Hid (w2.drew.cell? ⟨R, 2, none⟩ = some (.slice (some ⟨g, 0, none⟩) M.rooms.length cap)) := k2
  refine wh 0 (.pointer (some ⟨R, 0, none⟩)) HS.out ?_
  refine wh 1 (.pointer (some ⟨R, 0, none⟩)) HS.out ?_
  refine wh 2 (.pointer (some ⟨R, 2, none⟩)) HS.out ?_
  refine wg 3 (.slice (some ⟨g, 0, none⟩) M.rooms.length cap) rfl (Or.inl ⟨by kernel_rfl, fun W hW => by go_simp⟩) HS.out ?_
  refine wh 4 (.int .i64 (i : Int)) HS.out ?_
  refine wh 5 (.pointer (some ⟨R, 0, none⟩)) HS.out ?_
  refine wh 6 (.pointer (some ⟨R, 0, none⟩)) HS.out ?_
  refine wh 7 (.pointer (some ⟨R, 2, none⟩)) HS.out ?_
  refine wg 8 (.slice (some ⟨g, 0, none⟩) M.rooms.length cap) rfl (Or.inl ⟨by kernel_rfl, fun W hW => by go_simp⟩) HS.out ?_
  refine wh 9 (.int .i64 (i : Int)) HS.out ?_
  refine wh 10 (.pointer (some ⟨g, i * 3, none⟩)) HS.out ?_
  refine wh 11 (.pointer (some ⟨g, i * 3 + 2, none⟩)) HS.out ?_
  refine wh 13 (.string nm) HS.out ?_
  refine wh 14 (.int .i64 n) HS.out ?_
  refine wh 15 (.int .i64 2) HS.out ?_
  refine wh 16 (.int .i64 2) HS.out ?_
  refine wh 17 (.bool true) HS.out ?_
  refine wh 18 (.bool true) HS.out ?_
  refine wh 19 (.int .i64 2) HS.out ?_
  refine wh 20 (.bool false) HS.out ?_
  refine wh 21 (.bool false) HS.out ?_
  refine wh 22 (.agg #[.string nm, .int .i64 n, .int .i64 2, .bool false]) HS.out ?_
  refine wq2 12 23 (fun K hK => ?ca) fun K hK => ?cb
  case' ca =>
    go_simp
    refine hK.out _ _ HS.out (fun _ => ?_)
    clear hK K
    refine wq1 23 fun K hK => ?_
    go_simp
    have HSA : Hid ((w2.drew.alloc (.cells #[.string nm, .int .i64 n, .int .i64 2, .bool false] 100)).cell? ⟨R, 2, none⟩ = some (.slice (some ⟨g, 0, none⟩) M.rooms.length cap)) := by show World.cell? _ _ = _; rw [World.cell?_alloc_past _ _ _ (by exact hl2)]; exact k2
    refine hK.out _ _ HSA.out (fun _ => ?_)
    clear hK K
  case' cb =>
    go_simp
    have HSA : Hid ((w2.drew.alloc (.cells #[.string nm, .int .i64 n, .int .i64 2, .bool false] 100)).cell? ⟨R, 2, none⟩ = some (.slice (some ⟨g, 0, none⟩) M.rooms.length cap)) := by show World.cell? _ _ = _; rw [World.cell?_alloc_past _ _ _ (by exact hl2)]; exact k2
    refine hK.out _ _ HSA.out (fun _ => ?_)
    clear hK K
    refine wq1 12 fun K hK => ?_
    go_simp
    refine hK.out _ _ HSA.out (fun _ => ?_)
    clear hK K
  all_goals
    refine wq1 24 fun K hK => ?_
    refine step_append_lies _ rfl _ _ 40 rfl R 100 ii _ 4 40 Tryd.underlying40 hi0 hz0 hz1 hz2 rfl (by decide) _ _ _ rfl (HROW1.out.drew.alloc _) ⟨w2.heap.size, 0, none⟩ 1 1 [.string nm, .int .i64 n, .int .i64 2, .bool false] rfl rfl (newc_cells _ _ rfl _ _ _ _) (newc_one _ _ _ _) (by decide) (by have := HLEN.out; unfold maxLen; omega) (by have := HLEN.out; omega) (by simp; omega) (w2.heap.size + 1) (by simp) ?_
    intro gn capn w3 hown3 hgr3 hg3 _
    have hgr : w2.grownBy w3 v.ownBlock := grown_trans (grown_trans (b := w2.drew) ⟨rfl, rfl, rfl, Nat.le_refl _, fun _ _ _ => rfl⟩ (World.grownBy_alloc _ _ _)) hgr3
    have HZ := hide (HH1.out.growC (x' := ⟨x.outer, x.object, x.cs ++ [⟨nm, n, 2, false⟩]⟩) HI.out HV.out rfl hgr (v' := .slice (some ⟨gn, 0, none⟩) (x.cs.length + 1) capn) (by rw [List.flatMap_append]; simpa [Ce.r] using hown3) (fun q hq => by cases hq; exact hg3.imp (fun e => e) (fun e => by rw [e]; exact Nat.le_succ _)) ⟨rfl, rfl⟩)
    have hneg : some g ≠ v.ownBlock := fun e => by
      obtain ⟨_, _, hnn⟩ := HH1.out.ro.nes HV.out
      exact (hnn g e.symm).2.2.1 rfl
    have hner : some R ≠ v.ownBlock := fun e => by
      obtain ⟨_, _, hnn⟩ := HH1.out.ro.nes HV.out
      obtain ⟨_, _, _, cc, hcc⟩ := hnn R e.symm
      exact tags_ne hcc HH1.out.blk (by decide) rfl
    have hS3 : w3.cell? ⟨R, 2, none⟩ = some (.slice (some ⟨g, 0, none⟩) M.rooms.length cap) := (World.cell?_of_block (w := w2) (a := ⟨R, 2, none⟩) (hgr.block R hl2 hner)).trans k2
    have kg1 : w3.cell? ⟨g, i * 3 + 2, none⟩ = some v := (World.cell?_of_block (w := w2) (a := ⟨g, i * 3 + 2, none⟩) (hgr.block g hg2 hneg)).trans e2
    have kg2 : w3.frozen? ⟨g, i * 3 + 2, none⟩ = false := (World.frozen?_of_block (w := w2) (a := ⟨g, i * 3 + 2, none⟩) (hgr.block g hg2 hneg)).trans hfz2
    have hRg : R ≠ g := by
      obtain ⟨cd, hcd⟩ := row_tag HH1.out.ro.row (k := g) rfl
      exact tags_ne HH1.out.blk hcd (by decide)
    refine hK.out _ _ hS3 (fun _ => ?_)
    clear hK K hgr hown3 hgr3 hg3 hneg hner e2 hfz2
    refine wh 25 (.pointer (some ⟨g, i * 3, none⟩)) hS3 ?_
    refine wh 26 (.pointer (some ⟨g, i * 3 + 2, none⟩)) hS3 ?_
    refine wq1 27 fun K hK => ?_
    go_simp
    refine hK.out _ _ (by show World.cell? _ _ = _; rw [World.cell?_setCell_far _ _ _ _ (by exact hRg.symm)]; exact hS3) (fun _ => ?_)
    clear hK K
    refine wpAnyH_done (by kernel_rfl) ?_ _
    go_simp
    go_wp2_with fail
    go_ret
    exact ⟨rfl, ⟨_, HZ.out.1⟩, (FrT.of HB.out (Nat.le_of_lt HLR.out)).trans HZ.out.2⟩
theorem rdecl_plain (h : WP R w M cv pv rv ps rs) (hs : M.Small K) (hK : K ≤ 1000) (hok : M.Ok) (i : Nat) (x : Ro) (hi : M.rooms[i]? = some x) (nm : ByteArray) (kd n : Int) (ho : x.object < 0) (hh : M.has i nm = false) (q1 : kd ≠ 1) (q2 : kd ≠ 2) :
    Calls Tryd.prog 13 #[.pointer (some ⟨R, 0, none⟩), .int .i64 (i : Int), .string nm, .int .i64 kd, .int .i64 n] w fun e w' => e = .returned (.int .i64 0) ∧ (∃ rs', WP R w' (M.setRo i ⟨x.outer, x.object, x.cs ++ [⟨nm, n, kd, true⟩]⟩) cv pv rv ps rs') ∧ FrT Tr R w w' := by
  have HO := hide (room_any h i)
  rw [ro_nat hi] at HO
  have HS := hide (rhas_any h hs hK hok i nm)
  rw [hh] at HS
  obtain ⟨h0, h1, h2, hl⟩ := h.c
  obtain ⟨g, cap, v, rfl, hlt, hv, c0, c1, c2, hrow, hg, hB, hfz⟩ := rroom h hi
  have ho2 : ¬ 0 ≤ x.object := by omega
  have HH := hide h
  have HI := hide hi
  have HV := hide hv
  have HLEN := hide (hs.cs x (List.mem_of_getElem? hi))
  have HLR := hide hl
  have HFZ := hide hfz
  have HROW := hide hrow
  have HG := hide hg
  have HC2 := hide c2
  have HH2 := hide h2
  obtain ⟨ii, hi0, hz0, hz1, hz2⟩ := info_parts info100
  clear h hrow hv hfz hi hh hs hok
  go_enter Tryd.func13, Tryd.ntmps13
  go_wp2_with fail
  refine Calls.mono HO.out ?_
  rintro e w1 ⟨rfl, rfl⟩
  go_wp2_with fail
  refine Calls.mono HS.out ?_
  rintro e w2 ⟨rfl, hb⟩
  have HB := hide hb
  have HH1 := hide (HH.out.later hb)
  have HROW1 := hide (row_later HROW.out hb)
  have k2 : w2.cell? ⟨R, 2, none⟩ = some (.slice (some ⟨g, 0, none⟩) M.rooms.length cap) := (cell_below hb (a := ⟨R, 2, none⟩) HLR.out).trans HH2.out
  have e2 : w2.cell? ⟨g, i * 3 + 2, none⟩ = some v := (cell_below hb (a := ⟨g, i * 3 + 2, none⟩) HG.out).trans HC2.out
  have hl2 : R < w2.heap.size := Nat.lt_of_lt_of_le HLR.out hb.size
  have hg2 : g < w2.heap.size := Nat.lt_of_lt_of_le HG.out hb.size
  have hfz2 : w2.frozen? ⟨g, i * 3 + 2, none⟩ = false := (World.frozen?_of_block (w := w1) (a := ⟨g, i * 3 + 2, none⟩) (hb.block g HG.out)).trans (HFZ.out _)
  clear hb
  go_wp2_with fail
  refine wp_region_held (S := fun W => W.cell? ⟨R, 2, none⟩ = some (.slice (some ⟨g, 0, none⟩) M.rooms.length cap)) (by kernel_rfl) ?_
  change wpAnyH _ _ _ _ _ _ _ _ (World.drew _)
  have HS : Hid (w2.drew.cell? ⟨R, 2, none⟩ = some (.slice (some ⟨g, 0, none⟩) M.rooms.length cap)) := k2
  refine wh 0 (.pointer (some ⟨R, 0, none⟩)) HS.out ?_
  refine wh 1 (.pointer (some ⟨R, 0, none⟩)) HS.out ?_
  refine wh 2 (.pointer (some ⟨R, 2, none⟩)) HS.out ?_
  refine wg 3 (.slice (some ⟨g, 0, none⟩) M.rooms.length cap) rfl (Or.inl ⟨by kernel_rfl, fun W hW => by go_simp⟩) HS.out ?_
  refine wh 4 (.int .i64 (i : Int)) HS.out ?_
  refine wh 5 (.pointer (some ⟨R, 0, none⟩)) HS.out ?_
  refine wh 6 (.pointer (some ⟨R, 0, none⟩)) HS.out ?_
  refine wh 7 (.pointer (some ⟨R, 2, none⟩)) HS.out ?_
  refine wg 8 (.slice (some ⟨g, 0, none⟩) M.rooms.length cap) rfl (Or.inl ⟨by kernel_rfl, fun W hW => by go_simp⟩) HS.out ?_
  refine wh 9 (.int .i64 (i : Int)) HS.out ?_
  refine wh 10 (.pointer (some ⟨g, i * 3, none⟩)) HS.out ?_
  refine wh 11 (.pointer (some ⟨g, i * 3 + 2, none⟩)) HS.out ?_
  refine wh 13 (.string nm) HS.out ?_
  refine wh 14 (.int .i64 n) HS.out ?_
  refine wh 15 (.int .i64 kd) HS.out ?_
  refine wh 16 (.int .i64 kd) HS.out ?_
  refine wh 17 (.bool true) HS.out ?_
  refine wh 18 (.bool true) HS.out ?_
  refine wh 19 (.int .i64 kd) HS.out ?_
  refine wh 20 (.bool true) HS.out ?_
  refine wh 21 (.bool true) HS.out ?_
  refine wh 22 (.agg #[.string nm, .int .i64 n, .int .i64 kd, .bool true]) HS.out ?_
  refine wq2 12 23 (fun K hK => ?ca) fun K hK => ?cb
  case' ca =>
    go_simp
    refine hK.out _ _ HS.out (fun _ => ?_)
    clear hK K
    refine wq1 23 fun K hK => ?_
    go_simp
    have HSA : Hid ((w2.drew.alloc (.cells #[.string nm, .int .i64 n, .int .i64 kd, .bool true] 100)).cell? ⟨R, 2, none⟩ = some (.slice (some ⟨g, 0, none⟩) M.rooms.length cap)) := by show World.cell? _ _ = _; rw [World.cell?_alloc_past _ _ _ (by exact hl2)]; exact k2
    refine hK.out _ _ HSA.out (fun _ => ?_)
    clear hK K
  case' cb =>
    go_simp
    have HSA : Hid ((w2.drew.alloc (.cells #[.string nm, .int .i64 n, .int .i64 kd, .bool true] 100)).cell? ⟨R, 2, none⟩ = some (.slice (some ⟨g, 0, none⟩) M.rooms.length cap)) := by show World.cell? _ _ = _; rw [World.cell?_alloc_past _ _ _ (by exact hl2)]; exact k2
    refine hK.out _ _ HSA.out (fun _ => ?_)
    clear hK K
    refine wq1 12 fun K hK => ?_
    go_simp
    refine hK.out _ _ HSA.out (fun _ => ?_)
    clear hK K
  all_goals
    refine wq1 24 fun K hK => ?_
    refine step_append_lies _ rfl _ _ 40 rfl R 100 ii _ 4 40 Tryd.underlying40 hi0 hz0 hz1 hz2 rfl (by decide) _ _ _ rfl (HROW1.out.drew.alloc _) ⟨w2.heap.size, 0, none⟩ 1 1 [.string nm, .int .i64 n, .int .i64 kd, .bool true] rfl rfl (newc_cells _ _ rfl _ _ _ _) (newc_one _ _ _ _) (by decide) (by have := HLEN.out; unfold maxLen; omega) (by have := HLEN.out; omega) (by simp; omega) (w2.heap.size + 1) (by simp) ?_
    intro gn capn w3 hown3 hgr3 hg3 _
    have hgr : w2.grownBy w3 v.ownBlock := grown_trans (grown_trans (b := w2.drew) ⟨rfl, rfl, rfl, Nat.le_refl _, fun _ _ _ => rfl⟩ (World.grownBy_alloc _ _ _)) hgr3
    have HZ := hide (HH1.out.growC (x' := ⟨x.outer, x.object, x.cs ++ [⟨nm, n, kd, true⟩]⟩) HI.out HV.out rfl hgr (v' := .slice (some ⟨gn, 0, none⟩) (x.cs.length + 1) capn) (by rw [List.flatMap_append]; simpa [Ce.r] using hown3) (fun q hq => by cases hq; exact hg3.imp (fun e => e) (fun e => by rw [e]; exact Nat.le_succ _)) ⟨rfl, rfl⟩)
    have hneg : some g ≠ v.ownBlock := fun e => by
      obtain ⟨_, _, hnn⟩ := HH1.out.ro.nes HV.out
      exact (hnn g e.symm).2.2.1 rfl
    have hner : some R ≠ v.ownBlock := fun e => by
      obtain ⟨_, _, hnn⟩ := HH1.out.ro.nes HV.out
      obtain ⟨_, _, _, cc, hcc⟩ := hnn R e.symm
      exact tags_ne hcc HH1.out.blk (by decide) rfl
    have hS3 : w3.cell? ⟨R, 2, none⟩ = some (.slice (some ⟨g, 0, none⟩) M.rooms.length cap) := (World.cell?_of_block (w := w2) (a := ⟨R, 2, none⟩) (hgr.block R hl2 hner)).trans k2
    have kg1 : w3.cell? ⟨g, i * 3 + 2, none⟩ = some v := (World.cell?_of_block (w := w2) (a := ⟨g, i * 3 + 2, none⟩) (hgr.block g hg2 hneg)).trans e2
    have kg2 : w3.frozen? ⟨g, i * 3 + 2, none⟩ = false := (World.frozen?_of_block (w := w2) (a := ⟨g, i * 3 + 2, none⟩) (hgr.block g hg2 hneg)).trans hfz2
    have hRg : R ≠ g := by
      obtain ⟨cd, hcd⟩ := row_tag HH1.out.ro.row (k := g) rfl
      exact tags_ne HH1.out.blk hcd (by decide)
    refine hK.out _ _ hS3 (fun _ => ?_)
    clear hK K hgr hown3 hgr3 hg3 hneg hner e2 hfz2
    refine wh 25 (.pointer (some ⟨g, i * 3, none⟩)) hS3 ?_
    refine wh 26 (.pointer (some ⟨g, i * 3 + 2, none⟩)) hS3 ?_
    refine wq1 27 fun K hK => ?_
    go_simp
    refine hK.out _ _ (by show World.cell? _ _ = _; rw [World.cell?_setCell_far _ _ _ _ (by exact hRg.symm)]; exact hS3) (fun _ => ?_)
    clear hK K
    refine wpAnyH_done (by kernel_rfl) ?_ _
    go_simp
    go_wp2_with fail
    go_ret
    exact ⟨rfl, ⟨_, HZ.out.1⟩, (FrT.of HB.out (Nat.le_of_lt HLR.out)).trans HZ.out.2⟩
end
end Go.Proofs.YtomogijjkdiomaaDoor
