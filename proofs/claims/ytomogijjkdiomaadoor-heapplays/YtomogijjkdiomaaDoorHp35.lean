/-
  Behind the switch: what the document's own heap is asked by the law itself.
-/
import Derived.Test.YtomogijjkdiomaaDoorHp32
set_option maxRecDepth 100000
set_option maxHeartbeats 16000000
namespace Go.Proofs.YtomogijjkdiomaaDoor
open Go.RowKit

section
variable {w0 W W' : World} {H R D V : Nat} {M N M' : Mo} {d : Dv} {k : Nat}
set_option maxRecDepth 100000
set_option maxHeartbeats 4000000
theorem pB_neg (Q : Exit → Act → World → Prop) (l v5 : Value) (f : Nat → Value) (s : Rd w0 W H R D V M M d) (hneg : d.a < 0)
    (hP : ∀ c a a' w, Q (.panic c) a w → Q (.panic c) a' w) (hQ : ∀ f' W', Below W.heap.size W W' → Same f f' → f' 18 = f 18 → f' 19 = f 19 → f' 20 = f 20 → Q .normal (fr l (pH H) (pH R) v5 (pH D) (pH V) f') W') : PieceBWp Q (fr l (pH H) (pH R) v5 (pH D) (pH V) f) W := by
  obtain ⟨cv, pv, rv, ps, rs, hr⟩ := s.hr
  obtain ⟨pr, cr, rfl⟩ : ∃ p c, rv = .slice p M.rooms.length c := by
    have := slice_of' hr.ro.row
    rwa [List.length_map] at this
  obtain ⟨r0, _, r2, hRl⟩ := hr.c
  have c1 := s.d1
  have hl := lt_of_block s.db
  have HQ := hide hQ
  have HP := hide hP
  clear hQ hP hr s
  unfold PieceBWp
  simp only [Go.Proofs.YtomogijjkdiomaaDoor.cl, Go.Proofs.YtomogijjkdiomaaDoor.cr, Tryd.f3, Option.getD_some]
  unfold pH fr
  go_wp2_with fail
  refine wp_region_held (S := fun W' => W' = W.drew) (by kernel_rfl) ?_
  change wpAnyH _ _ _ _ _ _ _ _ (World.drew _)
  have HS : Hid (W.drew = W.drew) := rfl
  refine wh 0 (.pointer (some ⟨D, 1, none⟩)) HS.out ?_ (hQ := fun _ _ _ h => HP.out _ _ _ _ h)
  refine wg 1 (.int .i64 d.a) rfl (Or.inl ⟨by kernel_rfl, fun W hW => by subst hW; go_simp⟩) HS.out ?_ (hQ := fun _ _ _ h => HP.out _ _ _ _ h)
  refine wh 2 (.bool false) HS.out ?_ (hQ := fun _ _ _ h => HP.out _ _ _ _ h)
  refine wh 3 (.bool false) HS.out ?_ (hQ := fun _ _ _ h => HP.out _ _ _ _ h)
  refine wg 4 undef rfl (Or.inr ⟨by kernel_rfl, rfl⟩) HS.out ?_ (hQ := fun _ _ _ h => HP.out _ _ _ _ h)
  refine wg 5 undef rfl (Or.inr ⟨by kernel_rfl, rfl⟩) HS.out ?_ (hQ := fun _ _ _ h => HP.out _ _ _ _ h)
  refine wg 6 undef rfl (Or.inr ⟨by kernel_rfl, rfl⟩) HS.out ?_ (hQ := fun _ _ _ h => HP.out _ _ _ _ h)
  refine wg 7 undef rfl (Or.inr ⟨by kernel_rfl, rfl⟩) HS.out ?_ (hQ := fun _ _ _ h => HP.out _ _ _ _ h)
  refine wg 8 undef rfl (Or.inr ⟨by kernel_rfl, rfl⟩) HS.out ?_ (hQ := fun _ _ _ h => HP.out _ _ _ _ h)
  refine wg 9 undef rfl (Or.inr ⟨by kernel_rfl, rfl⟩) HS.out ?_ (hQ := fun _ _ _ h => HP.out _ _ _ _ h)
  refine wg 10 undef rfl (Or.inr ⟨by kernel_rfl, rfl⟩) HS.out ?_ (hQ := fun _ _ _ h => HP.out _ _ _ _ h)
  refine wg 11 undef rfl (Or.inr ⟨by kernel_rfl, rfl⟩) HS.out ?_ (hQ := fun _ _ _ h => HP.out _ _ _ _ h)
  refine wh 12 (.bool false) HS.out ?_ (hQ := fun _ _ _ h => HP.out _ _ _ _ h)
  refine wpAnyH_done (by kernel_rfl) ?_ _
  go_simp
  go_wp2_with fail
  exact fin Q .normal _ rfl rfl rfl rfl rfl rfl rfl (HQ.out _ _ ((Below.refl _ _).drew) ⟨rfl, rfl, rfl, rfl, rfl, rfl⟩ rfl rfl rfl)
end
end Go.Proofs.YtomogijjkdiomaaDoor
