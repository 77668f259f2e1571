/-
  The switch of the law, case by case.
-/
import Derived.Test.YtomogijjkdiomaaDoorHp28
set_option maxRecDepth 100000
set_option maxHeartbeats 16000000
namespace Go.Proofs.YtomogijjkdiomaaDoor
open Go.RowKit

section
variable {w0 W W' : World} {H R D V : Nat} {M N M' : Mo} {d : Dv} {k : Nat}
set_option maxRecDepth 100000
set_option maxHeartbeats 8000000
theorem case1_b1 (Q : Exit → Act → World → Prop) (l v5 : Value) (f : Nat → Value) (s : Rd w0 W H R D V M M d) (q : d.what = 1) (ha1 : ¬ d.a < -1) (ha2 : ¬ (M.rooms.length : Int) ≤ d.a) (ha : d.b < -1)
    (hP : ∀ c a a' w, Q (.panic c) a w → Q (.panic c) a' w) (hQ : ∀ f' W', Rd w0 W' H R D V M M d → Q (.exit 1) (fr l (pH H) (pH R) v5 (pH D) (pH V) f') W') : SwitchWp Q (fr l (pH H) (pH R) v5 (pH D) (pH V) f) W := by
  obtain ⟨cv, pv, rv, ps, rs, hr⟩ := s.hr
  obtain ⟨pc, cc, rfl⟩ : ∃ p c, cv = .slice p M.objs.length c := by
    rcases row_form hr.co with ⟨h1, h2⟩ | ⟨g, c, h1⟩
    · exact ⟨none, 0, by rw [h1, h2]⟩
    · exact ⟨_, _, h1⟩
  obtain ⟨pr, cr, rfl⟩ : ∃ p c, rv = .slice p M.rooms.length c := by
    have h0 := hr.ro.row
    rw [List.length_map] at h0
    rcases row_form h0 with ⟨h1, h2⟩ | ⟨g, c, h1⟩
    · exact ⟨none, 0, by rw [h1, h2]⟩
    · exact ⟨_, _, h1⟩
  obtain ⟨r0, _, r2, hRl⟩ := hr.c
  have c0 := s.d0
  rw [q] at c0
  have c1 := s.d1
  have c2 := s.d2
  have hl := lt_of_block s.db
  have HR0 := hide hr
  have HQ := hide hQ
  have HP := hide hP
  have HSS := hide s
  clear hQ hP hr s q
  unfold SwitchWp
  simp only [Go.Proofs.YtomogijjkdiomaaDoor.cl, Go.Proofs.YtomogijjkdiomaaDoor.cr, Tryd.f3, Option.getD_some]
  unfold pH fr
  go_wp2_with fail
  refine wp_region_held (S := fun W' => W' = W.drew) (by kernel_rfl) ?_
  change wpAnyH _ _ _ _ _ _ _ _ (World.drew _)
  have HS : Hid (W.drew = W.drew) := rfl
  refine wh 0 (.pointer (some ⟨D, 1, none⟩)) HS.out ?_ (hQ := fun _ _ _ h => HP.out _ _ _ _ h)
  refine wg 1 (.int .i64 d.a) rfl (Or.inl ⟨by kernel_rfl, fun W hW => by subst hW; go_simp⟩) HS.out ?_ (hQ := fun _ _ _ h => HP.out _ _ _ _ h)
  refine wh 2 (.bool false) HS.out ?_ (hQ := fun _ _ _ h => HP.out _ _ _ _ h)
  refine wh 3 (.bool false) HS.out ?_ (hQ := fun _ _ _ h => HP.out _ _ _ _ h)
  refine wh 4 (.pointer (some ⟨D, 1, none⟩)) HS.out ?_ (hQ := fun _ _ _ h => HP.out _ _ _ _ h)
  refine wg 5 (.int .i64 d.a) rfl (Or.inl ⟨by kernel_rfl, fun W hW => by subst hW; go_simp⟩) HS.out ?_ (hQ := fun _ _ _ h => HP.out _ _ _ _ h)
  refine wh 6 (.pointer (some ⟨R, 0, none⟩)) HS.out ?_ (hQ := fun _ _ _ h => HP.out _ _ _ _ h)
  refine wh 7 (.pointer (some ⟨R, 0, none⟩)) HS.out ?_ (hQ := fun _ _ _ h => HP.out _ _ _ _ h)
  refine wh 8 (.pointer (some ⟨R, 2, none⟩)) HS.out ?_ (hQ := fun _ _ _ h => HP.out _ _ _ _ h)
  refine wg 9 (.slice pr M.rooms.length cr) rfl (Or.inl ⟨by kernel_rfl, fun W hW => by subst hW; go_simp⟩) HS.out ?_ (hQ := fun _ _ _ h => HP.out _ _ _ _ h)
  refine wh 10 (.int .i64 (M.rooms.length : Int)) HS.out ?_ (hQ := fun _ _ _ h => HP.out _ _ _ _ h)
  refine wh 11 (.bool false) HS.out ?_ (hQ := fun _ _ _ h => HP.out _ _ _ _ h)
  refine wh 12 (.bool false) HS.out ?_ (hQ := fun _ _ _ h => HP.out _ _ _ _ h)
  refine wh 13 (.bool false) HS.out ?_ (hQ := fun _ _ _ h => HP.out _ _ _ _ h)
  refine wh 14 (.pointer (some ⟨D, 2, none⟩)) HS.out ?_ (hQ := fun _ _ _ h => HP.out _ _ _ _ h)
  refine wg 15 (.int .i64 d.b) rfl (Or.inl ⟨by kernel_rfl, fun W hW => by subst hW; go_simp⟩) HS.out ?_ (hQ := fun _ _ _ h => HP.out _ _ _ _ h)
  refine wh 16 (.bool true) HS.out ?_ (hQ := fun _ _ _ h => HP.out _ _ _ _ h)
  refine wh 17 (.bool true) HS.out ?_ (hQ := fun _ _ _ h => HP.out _ _ _ _ h)
  refine wh 18 (.bool true) HS.out ?_ (hQ := fun _ _ _ h => HP.out _ _ _ _ h)
  refine wg 19 undef rfl (Or.inr ⟨by kernel_rfl, rfl⟩) HS.out ?_ (hQ := fun _ _ _ h => HP.out _ _ _ _ h)
  refine wg 20 undef rfl (Or.inr ⟨by kernel_rfl, rfl⟩) HS.out ?_ (hQ := fun _ _ _ h => HP.out _ _ _ _ h)
  refine wg 21 undef rfl (Or.inr ⟨by kernel_rfl, rfl⟩) HS.out ?_ (hQ := fun _ _ _ h => HP.out _ _ _ _ h)
  refine wg 22 undef rfl (Or.inr ⟨by kernel_rfl, rfl⟩) HS.out ?_ (hQ := fun _ _ _ h => HP.out _ _ _ _ h)
  refine wg 23 undef rfl (Or.inr ⟨by kernel_rfl, rfl⟩) HS.out ?_ (hQ := fun _ _ _ h => HP.out _ _ _ _ h)
  refine wg 24 undef rfl (Or.inr ⟨by kernel_rfl, rfl⟩) HS.out ?_ (hQ := fun _ _ _ h => HP.out _ _ _ _ h)
  refine wg 25 undef rfl (Or.inr ⟨by kernel_rfl, rfl⟩) HS.out ?_ (hQ := fun _ _ _ h => HP.out _ _ _ _ h)
  refine wg 26 undef rfl (Or.inr ⟨by kernel_rfl, rfl⟩) HS.out ?_ (hQ := fun _ _ _ h => HP.out _ _ _ _ h)
  refine wh 27 (.bool true) HS.out ?_ (hQ := fun _ _ _ h => HP.out _ _ _ _ h)
  refine wpAnyH_done (by kernel_rfl) ?_ _
  go_simp
  go_wp2_with fail
  exact fin Q (.exit 1) _ rfl rfl rfl rfl rfl rfl rfl (HQ.out _ _ (HSS.out.b (Below.refl _ _).drew))
end

section
variable {w0 W W' : World} {H R D V : Nat} {M N M' : Mo} {d : Dv} {k : Nat}
set_option maxRecDepth 100000
set_option maxHeartbeats 8000000
theorem case1_b2 (Q : Exit → Act → World → Prop) (l v5 : Value) (f : Nat → Value) (s : Rd w0 W H R D V M M d) (q : d.what = 1) (ha1 : ¬ d.a < -1) (ha2 : ¬ (M.rooms.length : Int) ≤ d.a) (ha3 : ¬ d.b < -1) (ha : (M.objs.length : Int) ≤ d.b)
    (hP : ∀ c a a' w, Q (.panic c) a w → Q (.panic c) a' w) (hQ : ∀ f' W', Rd w0 W' H R D V M M d → Q (.exit 1) (fr l (pH H) (pH R) v5 (pH D) (pH V) f') W') : SwitchWp Q (fr l (pH H) (pH R) v5 (pH D) (pH V) f) W := by
  obtain ⟨cv, pv, rv, ps, rs, hr⟩ := s.hr
  obtain ⟨pc, cc, rfl⟩ : ∃ p c, cv = .slice p M.objs.length c := by
    rcases row_form hr.co with ⟨h1, h2⟩ | ⟨g, c, h1⟩
    · exact ⟨none, 0, by rw [h1, h2]⟩
    · exact ⟨_, _, h1⟩
  obtain ⟨pr, cr, rfl⟩ : ∃ p c, rv = .slice p M.rooms.length c := by
    have h0 := hr.ro.row
    rw [List.length_map] at h0
    rcases row_form h0 with ⟨h1, h2⟩ | ⟨g, c, h1⟩
    · exact ⟨none, 0, by rw [h1, h2]⟩
    · exact ⟨_, _, h1⟩
  obtain ⟨r0, _, r2, hRl⟩ := hr.c
  have c0 := s.d0
  rw [q] at c0
  have c1 := s.d1
  have c2 := s.d2
  have hl := lt_of_block s.db
  have HR0 := hide hr
  have HQ := hide hQ
  have HP := hide hP
  have HSS := hide s
  clear hQ hP hr s q
  unfold SwitchWp
  simp only [Go.Proofs.YtomogijjkdiomaaDoor.cl, Go.Proofs.YtomogijjkdiomaaDoor.cr, Tryd.f3, Option.getD_some]
  unfold pH fr
  go_wp2_with fail
  refine wp_region_held (S := fun W' => W' = W.drew) (by kernel_rfl) ?_
  change wpAnyH _ _ _ _ _ _ _ _ (World.drew _)
  have HS : Hid (W.drew = W.drew) := rfl
  refine wh 0 (.pointer (some ⟨D, 1, none⟩)) HS.out ?_ (hQ := fun _ _ _ h => HP.out _ _ _ _ h)
  refine wg 1 (.int .i64 d.a) rfl (Or.inl ⟨by kernel_rfl, fun W hW => by subst hW; go_simp⟩) HS.out ?_ (hQ := fun _ _ _ h => HP.out _ _ _ _ h)
  refine wh 2 (.bool false) HS.out ?_ (hQ := fun _ _ _ h => HP.out _ _ _ _ h)
  refine wh 3 (.bool false) HS.out ?_ (hQ := fun _ _ _ h => HP.out _ _ _ _ h)
  refine wh 4 (.pointer (some ⟨D, 1, none⟩)) HS.out ?_ (hQ := fun _ _ _ h => HP.out _ _ _ _ h)
  refine wg 5 (.int .i64 d.a) rfl (Or.inl ⟨by kernel_rfl, fun W hW => by subst hW; go_simp⟩) HS.out ?_ (hQ := fun _ _ _ h => HP.out _ _ _ _ h)
  refine wh 6 (.pointer (some ⟨R, 0, none⟩)) HS.out ?_ (hQ := fun _ _ _ h => HP.out _ _ _ _ h)
  refine wh 7 (.pointer (some ⟨R, 0, none⟩)) HS.out ?_ (hQ := fun _ _ _ h => HP.out _ _ _ _ h)
  refine wh 8 (.pointer (some ⟨R, 2, none⟩)) HS.out ?_ (hQ := fun _ _ _ h => HP.out _ _ _ _ h)
  refine wg 9 (.slice pr M.rooms.length cr) rfl (Or.inl ⟨by kernel_rfl, fun W hW => by subst hW; go_simp⟩) HS.out ?_ (hQ := fun _ _ _ h => HP.out _ _ _ _ h)
  refine wh 10 (.int .i64 (M.rooms.length : Int)) HS.out ?_ (hQ := fun _ _ _ h => HP.out _ _ _ _ h)
  refine wh 11 (.bool false) HS.out ?_ (hQ := fun _ _ _ h => HP.out _ _ _ _ h)
  refine wh 12 (.bool false) HS.out ?_ (hQ := fun _ _ _ h => HP.out _ _ _ _ h)
  refine wh 13 (.bool false) HS.out ?_ (hQ := fun _ _ _ h => HP.out _ _ _ _ h)
  refine wh 14 (.pointer (some ⟨D, 2, none⟩)) HS.out ?_ (hQ := fun _ _ _ h => HP.out _ _ _ _ h)
  refine wg 15 (.int .i64 d.b) rfl (Or.inl ⟨by kernel_rfl, fun W hW => by subst hW; go_simp⟩) HS.out ?_ (hQ := fun _ _ _ h => HP.out _ _ _ _ h)
  refine wh 16 (.bool false) HS.out ?_ (hQ := fun _ _ _ h => HP.out _ _ _ _ h)
  refine wh 17 (.bool false) HS.out ?_ (hQ := fun _ _ _ h => HP.out _ _ _ _ h)
  refine wh 18 (.bool false) HS.out ?_ (hQ := fun _ _ _ h => HP.out _ _ _ _ h)
  refine wh 19 (.pointer (some ⟨D, 2, none⟩)) HS.out ?_ (hQ := fun _ _ _ h => HP.out _ _ _ _ h)
  refine wg 20 (.int .i64 d.b) rfl (Or.inl ⟨by kernel_rfl, fun W hW => by subst hW; go_simp⟩) HS.out ?_ (hQ := fun _ _ _ h => HP.out _ _ _ _ h)
  refine wh 21 (.pointer (some ⟨R, 0, none⟩)) HS.out ?_ (hQ := fun _ _ _ h => HP.out _ _ _ _ h)
  refine wh 22 (.pointer (some ⟨R, 0, none⟩)) HS.out ?_ (hQ := fun _ _ _ h => HP.out _ _ _ _ h)
  refine wh 23 (.pointer (some ⟨R, 0, none⟩)) HS.out ?_ (hQ := fun _ _ _ h => HP.out _ _ _ _ h)
  refine wg 24 (.slice pc M.objs.length cc) rfl (Or.inl ⟨by kernel_rfl, fun W hW => by subst hW; go_simp⟩) HS.out ?_ (hQ := fun _ _ _ h => HP.out _ _ _ _ h)
  refine wh 25 (.int .i64 (M.objs.length : Int)) HS.out ?_ (hQ := fun _ _ _ h => HP.out _ _ _ _ h)
  refine wh 26 (.bool true) HS.out ?_ (hQ := fun _ _ _ h => HP.out _ _ _ _ h)
  refine wh 27 (.bool true) HS.out ?_ (hQ := fun _ _ _ h => HP.out _ _ _ _ h)
  refine wpAnyH_done (by kernel_rfl) ?_ _
  go_simp
  go_wp2_with fail
  exact fin Q (.exit 1) _ rfl rfl rfl rfl rfl rfl rfl (HQ.out _ _ (HSS.out.b (Below.refl _ _).drew))
end
end Go.Proofs.YtomogijjkdiomaaDoor
