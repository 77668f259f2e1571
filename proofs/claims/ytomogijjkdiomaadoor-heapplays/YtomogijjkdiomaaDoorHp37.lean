/-
  Behind the switch: what the document's own heap is asked by the law itself.
-/
import Derived.Test.YtomogijjkdiomaaDoorHp32
set_option maxRecDepth 100000
set_option maxHeartbeats 16000000
namespace Go.Proofs.YtomogijjkdiomaaDoor
open Go.RowKit

section
variable {w0 W W' : World} {H R D V : Nat} {M N M' : Mo} {d : Dv} {k : Nat}
set_option maxRecDepth 100000
set_option maxHeartbeats 4000000
theorem pB_inn (Q : Exit → Act → World → Prop) (l v5 : Value) (f : Nat → Value) (s : Rd w0 W H R D V M M d) (i : Nat) (x : Ro) (hi : d.a = i) (hx : M.rooms[i]? = some x)
    (hP : ∀ c a a' w, Q (.panic c) a w → Q (.panic c) a' w) (hQ : ∀ f' W', Below W.heap.size W W' → Same f f' → f' 18 = f 18 → f' 19 = .int .i64 x.object → f' 20 = .int .i64 x.outer → Q .normal (fr l (pH H) (pH R) v5 (pH D) (pH V) f') W') : PieceBWp Q (fr l (pH H) (pH R) v5 (pH D) (pH V) f) W := by
  obtain ⟨cv, pv, rv, ps, rs, hr⟩ := s.hr
  obtain ⟨g, cr, v, e2, hlt, hv, cx0, cx1, _, _, hg, _, _⟩ := rroom hr hx
  subst e2
  obtain ⟨r0, _, r2, hRl⟩ := hr.c
  have c1 := s.d1
  rw [hi] at c1
  have hl := lt_of_block s.db
  have HQ := hide hQ
  have HP := hide hP
  clear hQ hP hr s
  unfold PieceBWp
  simp only [Go.Proofs.YtomogijjkdiomaaDoor.cl, Go.Proofs.YtomogijjkdiomaaDoor.cr, Tryd.f3, Option.getD_some]
  unfold pH fr
  go_wp2_with fail
  refine wp_region_held (S := fun W' => W' = W.drew) (by kernel_rfl) ?_
  change wpAnyH _ _ _ _ _ _ _ _ (World.drew _)
  have HS : Hid (W.drew = W.drew) := rfl
  refine wh 0 (.pointer (some ⟨D, 1, none⟩)) HS.out ?_ (hQ := fun _ _ _ h => HP.out _ _ _ _ h)
  refine wg 1 (.int .i64 (i : Int)) rfl (Or.inl ⟨by kernel_rfl, fun W hW => by subst hW; go_simp⟩) HS.out ?_ (hQ := fun _ _ _ h => HP.out _ _ _ _ h)
  refine wh 2 (.bool true) HS.out ?_ (hQ := fun _ _ _ h => HP.out _ _ _ _ h)
  refine wh 3 (.bool true) HS.out ?_ (hQ := fun _ _ _ h => HP.out _ _ _ _ h)
  refine wh 4 (.pointer (some ⟨D, 1, none⟩)) HS.out ?_ (hQ := fun _ _ _ h => HP.out _ _ _ _ h)
  refine wg 5 (.int .i64 (i : Int)) rfl (Or.inl ⟨by kernel_rfl, fun W hW => by subst hW; go_simp⟩) HS.out ?_ (hQ := fun _ _ _ h => HP.out _ _ _ _ h)
  refine wh 6 (.pointer (some ⟨R, 0, none⟩)) HS.out ?_ (hQ := fun _ _ _ h => HP.out _ _ _ _ h)
  refine wh 7 (.pointer (some ⟨R, 0, none⟩)) HS.out ?_ (hQ := fun _ _ _ h => HP.out _ _ _ _ h)
  refine wh 8 (.pointer (some ⟨R, 2, none⟩)) HS.out ?_ (hQ := fun _ _ _ h => HP.out _ _ _ _ h)
  refine wg 9 (.slice (some ⟨g, 0, none⟩) M.rooms.length cr) rfl (Or.inl ⟨by kernel_rfl, fun W hW => by subst hW; go_simp⟩) HS.out ?_ (hQ := fun _ _ _ h => HP.out _ _ _ _ h)
  refine wh 10 (.int .i64 (M.rooms.length : Int)) HS.out ?_ (hQ := fun _ _ _ h => HP.out _ _ _ _ h)
  refine wh 11 (.bool true) HS.out ?_ (hQ := fun _ _ _ h => HP.out _ _ _ _ h)
  refine wh 12 (.bool true) HS.out ?_ (hQ := fun _ _ _ h => HP.out _ _ _ _ h)
  refine wpAnyH_done (by kernel_rfl) ?_ _
  go_simp
  go_wp2_with fail
  refine wp_region_held (S := fun W' => W' = W.drew.drew) (by kernel_rfl) ?_
  change wpAnyH _ _ _ _ _ _ _ _ (World.drew _)
  have HS : Hid (W.drew.drew = W.drew.drew) := rfl
  refine wh 0 (.pointer (some ⟨R, 0, none⟩)) HS.out ?_ (hQ := fun _ _ _ h => HP.out _ _ _ _ h)
  refine wh 1 (.pointer (some ⟨R, 0, none⟩)) HS.out ?_ (hQ := fun _ _ _ h => HP.out _ _ _ _ h)
  refine wh 2 (.pointer (some ⟨R, 2, none⟩)) HS.out ?_ (hQ := fun _ _ _ h => HP.out _ _ _ _ h)
  refine wg 3 (.slice (some ⟨g, 0, none⟩) M.rooms.length cr) rfl (Or.inl ⟨by kernel_rfl, fun W hW => by subst hW; go_simp⟩) HS.out ?_ (hQ := fun _ _ _ h => HP.out _ _ _ _ h)
  refine wh 4 (.pointer (some ⟨D, 1, none⟩)) HS.out ?_ (hQ := fun _ _ _ h => HP.out _ _ _ _ h)
  refine wg 5 (.int .i64 (i : Int)) rfl (Or.inl ⟨by kernel_rfl, fun W hW => by subst hW; go_simp⟩) HS.out ?_ (hQ := fun _ _ _ h => HP.out _ _ _ _ h)
  refine wh 6 (.pointer (some ⟨g, i * 3, none⟩)) HS.out ?_ (hQ := fun _ _ _ h => HP.out _ _ _ _ h)
  refine wh 7 (.pointer (some ⟨g, i * 3 + 1, none⟩)) HS.out ?_ (hQ := fun _ _ _ h => HP.out _ _ _ _ h)
  refine wg 8 (.int .i64 x.object) rfl (Or.inl ⟨by kernel_rfl, fun W hW => by subst hW; go_simp⟩) HS.out ?_ (hQ := fun _ _ _ h => HP.out _ _ _ _ h)
  refine wh 9 (.pointer (some ⟨R, 0, none⟩)) HS.out ?_ (hQ := fun _ _ _ h => HP.out _ _ _ _ h)
  refine wh 10 (.pointer (some ⟨R, 0, none⟩)) HS.out ?_ (hQ := fun _ _ _ h => HP.out _ _ _ _ h)
  refine wh 11 (.pointer (some ⟨R, 2, none⟩)) HS.out ?_ (hQ := fun _ _ _ h => HP.out _ _ _ _ h)
  refine wg 12 (.slice (some ⟨g, 0, none⟩) M.rooms.length cr) rfl (Or.inl ⟨by kernel_rfl, fun W hW => by subst hW; go_simp⟩) HS.out ?_ (hQ := fun _ _ _ h => HP.out _ _ _ _ h)
  refine wh 13 (.pointer (some ⟨D, 1, none⟩)) HS.out ?_ (hQ := fun _ _ _ h => HP.out _ _ _ _ h)
  refine wg 14 (.int .i64 (i : Int)) rfl (Or.inl ⟨by kernel_rfl, fun W hW => by subst hW; go_simp⟩) HS.out ?_ (hQ := fun _ _ _ h => HP.out _ _ _ _ h)
  refine wh 15 (.pointer (some ⟨g, i * 3, none⟩)) HS.out ?_ (hQ := fun _ _ _ h => HP.out _ _ _ _ h)
  refine wh 16 (.pointer (some ⟨g, i * 3, none⟩)) HS.out ?_ (hQ := fun _ _ _ h => HP.out _ _ _ _ h)
  refine wg 17 (.int .i64 x.outer) rfl (Or.inl ⟨by kernel_rfl, fun W hW => by subst hW; go_simp⟩) HS.out ?_ (hQ := fun _ _ _ h => HP.out _ _ _ _ h)
  refine wh 18 (.int .i64 x.object) HS.out ?_ (hQ := fun _ _ _ h => HP.out _ _ _ _ h)
  refine wh 19 (.int .i64 x.outer) HS.out ?_ (hQ := fun _ _ _ h => HP.out _ _ _ _ h)
  refine wpAnyH_done (by kernel_rfl) ?_ _
  go_simp
  go_wp2_with fail
  exact fin Q .normal _ rfl rfl rfl rfl rfl rfl rfl (HQ.out _ _ (((Below.refl _ _).drew).drew) ⟨rfl, rfl, rfl, rfl, rfl, rfl⟩ rfl rfl rfl)
end
end Go.Proofs.YtomogijjkdiomaaDoor
