/-
  The switch of the law, case by case.
-/
import Derived.Test.YtomogijjkdiomaaDoorHp28
set_option maxRecDepth 100000
set_option maxHeartbeats 16000000
namespace Go.Proofs.YtomogijjkdiomaaDoor
open Go.RowKit

section
variable {w0 W W' : World} {H R D V : Nat} {M N M' : Mo} {d : Dv} {k : Nat}
set_option maxRecDepth 100000
set_option maxHeartbeats 8000000
theorem info42 : (Tryd.prog.info? 42).map (fun i => (i.zero, i.size, i.bytes)) = some (some (.agg #[.int .i64 0, .int .i64 0, .slice none 0 0]), 3, 40) := by kernel_rfl
theorem newr_cells (w : World) (H : Nat) (hH : w.heap.size = H) (a b : Int) (v : Value) (j : Nat) (u : Value) (h : ([.int .i64 a, .int .i64 b, v] : List Value)[j]? = some u) :
    (w.alloc (.cells #[.int .i64 a, .int .i64 b, v] 42)).cell? (Addr.add ⟨H, 0, none⟩ j) = some u := by
  subst hH
  match j, h with
  | 0, h => simp at h; subst h; simp [Addr.add]
  | 1, h => simp at h; subst h; simp [Addr.add]
  | 2, h => simp at h; subst h; simp [Addr.add]
  | k + 3, h => simp at h
theorem case1_ok (Q : Exit → Act → World → Prop) (l v5 : Value) (f : Nat → Value) (s : Rd w0 W H R D V M M d) (q : d.what = 1) (ha1 : ¬ d.a < -1) (ha2 : ¬ (M.rooms.length : Int) ≤ d.a) (ha3 : ¬ d.b < -1) (ha4 : ¬ (M.objs.length : Int) ≤ d.b)
    (hP : ∀ c a a' w, Q (.panic c) a w → Q (.panic c) a' w) (hM : M.Inv k) (hk : k < 1000) (hQ : ∀ f' W' M', M'.Inv (k + 1) → Rd w0 W' H R D V M' M' d → Q .normal (fr l (pH H) (pH R) v5 (pH D) (pH V) f') W') : SwitchWp Q (fr l (pH H) (pH R) v5 (pH D) (pH V) f) W := by
  obtain ⟨cv, pv, rv, ps, rs, hr⟩ := s.hr
  obtain ⟨pc, cc, rfl⟩ : ∃ p c, cv = .slice p M.objs.length c := by
    rcases row_form hr.co with ⟨h1, h2⟩ | ⟨g, c, h1⟩
    · exact ⟨none, 0, by rw [h1, h2]⟩
    · exact ⟨_, _, h1⟩
  obtain ⟨pr, cr, rfl⟩ : ∃ p c, rv = .slice p M.rooms.length c := by
    have h0 := hr.ro.row
    rw [List.length_map] at h0
    rcases row_form h0 with ⟨h1, h2⟩ | ⟨g, c, h1⟩
    · exact ⟨none, 0, by rw [h1, h2]⟩
    · exact ⟨_, _, h1⟩
  obtain ⟨r0, _, r2, hRl⟩ := hr.c
  have c0 := s.d0
  rw [q] at c0
  have c1 := s.d1
  have c2 := s.d2
  have hl := lt_of_block s.db
  have HR0 := hide hr
  have HQ := hide hQ
  have HP := hide hP
  have HSS := hide s
  have HSC := hide (scope_all (H := H) hM hk d.a d.b (by omega) (by omega))
  have HI := hide (hM.pushR d.a d.b (by omega) (by omega))
  have HSM := hide hM.small.r
  have HK := hide hk
  clear hQ hP hr s q hM hk
  unfold SwitchWp
  simp only [Go.Proofs.YtomogijjkdiomaaDoor.cl, Go.Proofs.YtomogijjkdiomaaDoor.cr, Tryd.f3, Option.getD_some]
  unfold pH fr
  go_wp2_with fail
  refine wp_region_held (S := fun W' => W' = W.drew) (by kernel_rfl) ?_
  change wpAnyH _ _ _ _ _ _ _ _ (World.drew _)
  have HS : Hid (W.drew = W.drew) := rfl
  refine wh 0 (.pointer (some ⟨D, 1, none⟩)) HS.out ?_ (hQ := fun _ _ _ h => HP.out _ _ _ _ h)
  refine wg 1 (.int .i64 d.a) rfl (Or.inl ⟨by kernel_rfl, fun W hW => by subst hW; go_simp⟩) HS.out ?_ (hQ := fun _ _ _ h => HP.out _ _ _ _ h)
  refine wh 2 (.bool false) HS.out ?_ (hQ := fun _ _ _ h => HP.out _ _ _ _ h)
  refine wh 3 (.bool false) HS.out ?_ (hQ := fun _ _ _ h => HP.out _ _ _ _ h)
  refine wh 4 (.pointer (some ⟨D, 1, none⟩)) HS.out ?_ (hQ := fun _ _ _ h => HP.out _ _ _ _ h)
  refine wg 5 (.int .i64 d.a) rfl (Or.inl ⟨by kernel_rfl, fun W hW => by subst hW; go_simp⟩) HS.out ?_ (hQ := fun _ _ _ h => HP.out _ _ _ _ h)
  refine wh 6 (.pointer (some ⟨R, 0, none⟩)) HS.out ?_ (hQ := fun _ _ _ h => HP.out _ _ _ _ h)
  refine wh 7 (.pointer (some ⟨R, 0, none⟩)) HS.out ?_ (hQ := fun _ _ _ h => HP.out _ _ _ _ h)
  refine wh 8 (.pointer (some ⟨R, 2, none⟩)) HS.out ?_ (hQ := fun _ _ _ h => HP.out _ _ _ _ h)
  refine wg 9 (.slice pr M.rooms.length cr) rfl (Or.inl ⟨by kernel_rfl, fun W hW => by subst hW; go_simp⟩) HS.out ?_ (hQ := fun _ _ _ h => HP.out _ _ _ _ h)
  refine wh 10 (.int .i64 (M.rooms.length : Int)) HS.out ?_ (hQ := fun _ _ _ h => HP.out _ _ _ _ h)
  refine wh 11 (.bool false) HS.out ?_ (hQ := fun _ _ _ h => HP.out _ _ _ _ h)
  refine wh 12 (.bool false) HS.out ?_ (hQ := fun _ _ _ h => HP.out _ _ _ _ h)
  refine wh 13 (.bool false) HS.out ?_ (hQ := fun _ _ _ h => HP.out _ _ _ _ h)
  refine wh 14 (.pointer (some ⟨D, 2, none⟩)) HS.out ?_ (hQ := fun _ _ _ h => HP.out _ _ _ _ h)
  refine wg 15 (.int .i64 d.b) rfl (Or.inl ⟨by kernel_rfl, fun W hW => by subst hW; go_simp⟩) HS.out ?_ (hQ := fun _ _ _ h => HP.out _ _ _ _ h)
  refine wh 16 (.bool false) HS.out ?_ (hQ := fun _ _ _ h => HP.out _ _ _ _ h)
  refine wh 17 (.bool false) HS.out ?_ (hQ := fun _ _ _ h => HP.out _ _ _ _ h)
  refine wh 18 (.bool false) HS.out ?_ (hQ := fun _ _ _ h => HP.out _ _ _ _ h)
  refine wh 19 (.pointer (some ⟨D, 2, none⟩)) HS.out ?_ (hQ := fun _ _ _ h => HP.out _ _ _ _ h)
  refine wg 20 (.int .i64 d.b) rfl (Or.inl ⟨by kernel_rfl, fun W hW => by subst hW; go_simp⟩) HS.out ?_ (hQ := fun _ _ _ h => HP.out _ _ _ _ h)
  refine wh 21 (.pointer (some ⟨R, 0, none⟩)) HS.out ?_ (hQ := fun _ _ _ h => HP.out _ _ _ _ h)
  refine wh 22 (.pointer (some ⟨R, 0, none⟩)) HS.out ?_ (hQ := fun _ _ _ h => HP.out _ _ _ _ h)
  refine wh 23 (.pointer (some ⟨R, 0, none⟩)) HS.out ?_ (hQ := fun _ _ _ h => HP.out _ _ _ _ h)
  refine wg 24 (.slice pc M.objs.length cc) rfl (Or.inl ⟨by kernel_rfl, fun W hW => by subst hW; go_simp⟩) HS.out ?_ (hQ := fun _ _ _ h => HP.out _ _ _ _ h)
  refine wh 25 (.int .i64 (M.objs.length : Int)) HS.out ?_ (hQ := fun _ _ _ h => HP.out _ _ _ _ h)
  refine wh 26 (.bool false) HS.out ?_ (hQ := fun _ _ _ h => HP.out _ _ _ _ h)
  refine wh 27 (.bool false) HS.out ?_ (hQ := fun _ _ _ h => HP.out _ _ _ _ h)
  refine wpAnyH_done (by kernel_rfl) ?_ _
  go_simp
  go_wp2_with fail
  have HS1 := hide ((HSS.out.b (Below.refl _ _).drew).b (Below.refl _ _).drew)
  refine wp_region_held (S := fun W' => Dvs D V d W' ∧ W'.cell? ⟨R, 2, none⟩ = some (.slice pr M.rooms.length cr)) (by kernel_rfl) ?_
  change wpAnyH _ _ _ _ _ _ _ _ (World.drew _)
  have HT : Hid (Dvs D V d W.drew.drew ∧ W.drew.drew.cell? ⟨R, 2, none⟩ = some (.slice pr M.rooms.length cr)) := ⟨HS1.out.dvs, r2⟩
  refine wh 0 (.pointer (some ⟨D, 1, none⟩)) HT.out ?_ (hQ := fun _ _ _ h => HP.out _ _ _ _ h)
  refine wg 1 (.int .i64 d.a) rfl (Or.inl ⟨by kernel_rfl, fun W hW => by have h0 := hW.1.d1; clear hW; go_simp⟩) HT.out ?_ (hQ := fun _ _ _ h => HP.out _ _ _ _ h)
  refine wh 2 (.pointer (some ⟨D, 2, none⟩)) HT.out ?_ (hQ := fun _ _ _ h => HP.out _ _ _ _ h)
  refine wg 3 (.int .i64 d.b) rfl (Or.inl ⟨by kernel_rfl, fun W hW => by have h0 := hW.1.d2; clear hW; go_simp⟩) HT.out ?_ (hQ := fun _ _ _ h => HP.out _ _ _ _ h)
  refine wh 5 (.pointer (some ⟨R, 0, none⟩)) HT.out ?_ (hQ := fun _ _ _ h => HP.out _ _ _ _ h)
  refine wh 6 (.pointer (some ⟨R, 0, none⟩)) HT.out ?_ (hQ := fun _ _ _ h => HP.out _ _ _ _ h)
  refine wh 7 (.pointer (some ⟨R, 2, none⟩)) HT.out ?_ (hQ := fun _ _ _ h => HP.out _ _ _ _ h)
  refine wg 8 (.slice pr M.rooms.length cr) rfl (Or.inl ⟨by kernel_rfl, fun W hW => by have h0 := hW.2; clear hW; go_simp⟩) HT.out ?_ (hQ := fun _ _ _ h => HP.out _ _ _ _ h)
  refine wh 9 (.int .i64 (M.rooms.length : Int)) HT.out ?_ (hQ := fun _ _ _ h => HP.out _ _ _ _ h)
  refine wq1 4 fun K hK => ?_
  go_simp
  refine Calls.mono (HSC.out _ HS1.out.hh) ?_
  rintro e1 w1 ⟨rfl, hh1, hf1⟩
  have HS2 := hide (HS1.out.h hh1 hf1)
  have HRR := hide ((HR0.out.later ((Below.refl _ _).drew)).later ((Below.refl _ _).drew))
  have blk1 := hf1.rest _ _ 32 HRR.out.blk (by decide)
  have HW1 : Hid (WP R w1 M (.slice pc M.objs.length cc) pv (.slice pr M.rooms.length cr) ps rs) := ⟨blk1, row_keep HRR.out.co hf1 (by decide), HRR.out.ob.keep hf1 (by decide) (by decide), HRR.out.ro.keep hf1 (by decide) (by decide)⟩
  obtain ⟨_, _, k2, hRl1⟩ := HW1.out.c
  have HT1 : Hid (Dvs D V d w1 ∧ w1.cell? ⟨R, 2, none⟩ = some (.slice pr M.rooms.length cr)) := ⟨HS2.out.dvs, k2⟩
  refine hK.out _ _ HT1.out (fun _ => ?_)
  clear hK K hh1 hf1 HS1 HRR blk1 r0 r2 c0 c1 c2
  refine wh 10 (.bool false) HT1.out ?_ (hQ := fun _ _ _ h => HP.out _ _ _ _ h)
  refine wpAnyH_done (by kernel_rfl) ?_ _
  go_simp
  go_wp2_with fail
  obtain ⟨ii, hi0, hz0, hz1, hz2⟩ := info_parts info42
  have hrow : w1.ownsRow R 42 3 (.slice pr M.rooms.length cr) M.rooms.length (flat (M.rooms.map Ro.r) rs) := by have := HW1.out.ro.row; rwa [List.length_map] at this
  have HROW := hide hrow
  clear hrow
  refine wp_region_held (S := Dvs D V d) (by kernel_rfl) ?_
  change wpAnyH _ _ _ _ _ _ _ _ (World.drew _)
  have HD : Hid (Dvs D V d w1.drew) := (HS2.out.b (Below.refl _ _).drew).dvs
  refine wh 0 (.pointer (some ⟨R, 0, none⟩)) HD.out ?_ (hQ := fun _ _ _ h => HP.out _ _ _ _ h)
  refine wh 1 (.pointer (some ⟨R, 0, none⟩)) HD.out ?_ (hQ := fun _ _ _ h => HP.out _ _ _ _ h)
  refine wh 2 (.pointer (some ⟨R, 0, none⟩)) HD.out ?_ (hQ := fun _ _ _ h => HP.out _ _ _ _ h)
  refine wh 3 (.pointer (some ⟨R, 2, none⟩)) HD.out ?_ (hQ := fun _ _ _ h => HP.out _ _ _ _ h)
  refine wh 5 (.pointer (some ⟨D, 1, none⟩)) HD.out ?_ (hQ := fun _ _ _ h => HP.out _ _ _ _ h)
  refine wg 6 (.int .i64 d.a) rfl (Or.inl ⟨by kernel_rfl, fun W hW => by have h0 := hW.d1; clear hW; go_simp⟩) HD.out ?_ (hQ := fun _ _ _ h => HP.out _ _ _ _ h)
  refine wh 7 (.pointer (some ⟨D, 2, none⟩)) HD.out ?_ (hQ := fun _ _ _ h => HP.out _ _ _ _ h)
  refine wg 8 (.int .i64 d.b) rfl (Or.inl ⟨by kernel_rfl, fun W hW => by have h0 := hW.d2; clear hW; go_simp⟩) HD.out ?_ (hQ := fun _ _ _ h => HP.out _ _ _ _ h)
  refine wh 9 (.agg #[.int .i64 d.a, .int .i64 d.b, .slice none 0 0]) HD.out ?_ (hQ := fun _ _ _ h => HP.out _ _ _ _ h)
  have k2d : w1.drew.cell? ⟨R, 2, none⟩ = some (.slice pr M.rooms.length cr) := k2
  have HDA : Hid (Dvs D V d (w1.drew.alloc (.cells #[.int .i64 d.a, .int .i64 d.b, .slice none 0 0] 42))) := ((HS2.out.b (Below.refl _ _).drew).b ((Below.refl _ _).alloc (Nat.le_refl _) _)).dvs
  have k2a : (w1.drew.alloc (.cells #[.int .i64 d.a, .int .i64 d.b, .slice none 0 0] 42)).cell? ⟨R, 2, none⟩ = some (.slice pr M.rooms.length cr) := by rw [World.cell?_alloc_past _ _ _ (by exact hRl1)]; exact k2
  refine wq2 4 10 (fun K hK => ?ca) fun K hK => ?cb
  case' ca =>
    go_simp
    refine hK.out _ _ HD.out (fun _ => ?_)
    clear hK K
    refine wq1 10 fun K hK => ?_
    go_simp
    refine hK.out _ _ HDA.out (fun _ => ?_)
    clear hK K
  case' cb =>
    go_simp
    refine hK.out _ _ HDA.out (fun _ => ?_)
    clear hK K
    refine wq1 4 fun K hK => ?_
    go_simp
    refine hK.out _ _ HDA.out (fun _ => ?_)
    clear hK K
  all_goals
    refine wq1 11 fun K hK => ?_
    refine step_append_lies _ rfl _ _ 30 rfl R 42 ii _ 3 40 Tryd.underlying30 hi0 hz0 hz1 hz2 rfl (by decide) _ _ _ rfl (HROW.out.drew.alloc _) ⟨w1.heap.size, 0, none⟩ 1 1 [.int .i64 d.a, .int .i64 d.b, .slice none 0 0] rfl rfl (newr_cells _ _ rfl _ _ _) (new3_one _ _) (by decide) (by have := HSM.out; have := HK.out; unfold maxLen; omega) (by have := HSM.out; have := HK.out; omega) (by simp; omega) (w1.heap.size + 1) (by simp) ?_
    intro gn capn w3 hown3 hgr3 hg3 _
    have hgr : w1.grownBy w3 (Value.slice pr M.rooms.length cr).ownBlock := grown_trans (grown_trans (b := w1.drew) ⟨rfl, rfl, rfl, Nat.le_refl _, fun _ _ _ => rfl⟩ (World.grownBy_alloc _ _ _)) hgr3
    have HZ := hide (HW1.out.pushR d.a d.b (rv' := .slice (some ⟨gn, 0, none⟩) (M.rooms.length + 1) capn) hgr (by simpa using hown3))
    have hne : (Value.slice pr M.rooms.length cr).ownBlock ≠ some R := fun e => by
      obtain ⟨c9, hc9⟩ := row_tag HROW.out e
      exact tags_ne hc9 HW1.out.blk (by decide) rfl
    have hb3 : w3.heap[R]? = some (.cells #[.slice pc M.objs.length cc, pv, .slice pr M.rooms.length cr] 32 (0, 0)) := by rw [hgr.block R hRl1 (fun e => hne e.symm)]; exact HW1.out.blk
    have j2 : w3.cell? ⟨R, 2, none⟩ = some (.slice pr M.rooms.length cr) := by simp [World.cell?, hb3]
    have jf : w3.frozen? ⟨R, 2, none⟩ = false := by simp [World.frozen?, hb3]
    have jl : R < w3.heap.size := lt_of_block hb3
    have HFIN := hide (HS2.out.r ⟨_, _, _, _, _, HZ.out.1⟩ HZ.out.2)
    have HD3 : Hid (Dvs D V d w3) := by
      have f3 : FrT [42] R w1 w3 := FrT.grown hgr (Nat.le_of_lt hRl1) fun q hq => by
        obtain ⟨c9, hc9⟩ := row_tag HROW.out hq
        exact ⟨(HROW.out.lt q hq).1, c9, 42, hc9, by simp⟩
      have d3 := f3.rest _ _ 34 HS2.out.db (by decide)
      have v3 := f3.rest _ _ 36 HS2.out.vb (by decide)
      exact ⟨by simp [World.cell?, d3, Dv.cells], by simp [World.cell?, d3, Dv.cells], by simp [World.cell?, d3, Dv.cells], by simp [World.cell?, d3, Dv.cells], by simp [World.cell?, d3, Dv.cells], by simp [World.cell?, d3, Dv.cells], by simp [World.cell?, v3], by simp [World.cell?, v3], by simp [World.cell?, v3]⟩
    refine hK.out _ _ HD3.out (fun _ => ?_)
    clear hK K hgr hown3 hgr3 hg3 hne hb3 k2 k2d k2a HD HDA HT HT1
    refine wh 12 (.pointer (some ⟨R, 0, none⟩)) HD3.out ?_ (hQ := fun _ _ _ h => HP.out _ _ _ _ h)
    refine wh 13 (.pointer (some ⟨R, 2, none⟩)) HD3.out ?_ (hQ := fun _ _ _ h => HP.out _ _ _ _ h)
    refine wq1 14 fun K hK => ?_
    go_simp
    refine hK.out _ _ HFIN.out.dvs (fun _ => ?_)
    clear hK K
    refine wpAnyH_done (by kernel_rfl) ?_ _
    go_simp
    go_wp2_with fail
    exact fin Q .normal _ rfl rfl rfl rfl rfl rfl rfl (HQ.out _ _ _ HI.out HFIN.out)
end
end Go.Proofs.YtomogijjkdiomaaDoor
