/-
  Behind the switch: what the document's own heap is asked by the law itself.
-/
import Derived.Test.YtomogijjkdiomaaDoorHp32
set_option maxRecDepth 100000
set_option maxHeartbeats 16000000
namespace Go.Proofs.YtomogijjkdiomaaDoor
open Go.RowKit

section
variable {w0 W W' : World} {H R D V : Nat} {M N M' : Mo} {d : Dv} {k : Nat}
set_option maxRecDepth 100000
set_option maxHeartbeats 4000000
theorem pA_inn (Q : Exit → Act → World → Prop) (l v5 : Value) (f : Nat → Value) (s : Rd w0 W H R D V M M d) (i : Nat) (x : Ob) (hi : d.a = i) (hx : M.objs[i]? = some x)
    (hP : ∀ c a a' w, Q (.panic c) a w → Q (.panic c) a' w) (hQ : ∀ f' W', Below W.heap.size W W' → Same f f' → f' 18 = .int .i64 x.code → f' 19 = f 19 → f' 20 = f 20 → Q .normal (fr l (pH H) (pH R) v5 (pH D) (pH V) f') W') : PieceAWp Q (fr l (pH H) (pH R) v5 (pH D) (pH V) f) W := by
  obtain ⟨cv, pv, rv, ps, rs, hr⟩ := s.hr
  have hlt : i < M.objs.length := (List.getElem?_eq_some_iff.1 hx).1
  obtain ⟨g, cc, rfl⟩ : ∃ g c, cv = .slice (some ⟨g, 0, none⟩) M.objs.length c := by
    rcases row_form hr.co with ⟨_, h0⟩ | ⟨g, c, h0⟩
    · omega
    · exact ⟨g, c, h0⟩
  have cx : W.cell? ⟨g, i, none⟩ = some (.int .i64 x.code) := by
    have := hr.co.cellAt i (by omega)
    simpa [hx] using this
  have hg : g < W.heap.size := (hr.co.lt g rfl).2
  have HFZ := hide hr
  obtain ⟨r0, _, r2, hRl⟩ := hr.c
  have c1 := s.d1
  rw [hi] at c1
  have hl := lt_of_block s.db
  have HQ := hide hQ
  have HP := hide hP
  clear hQ hP hr s
  unfold PieceAWp
  simp only [Go.Proofs.YtomogijjkdiomaaDoor.cl, Go.Proofs.YtomogijjkdiomaaDoor.cr, Tryd.f3, Option.getD_some]
  unfold pH fr
  go_wp2_with fail
  refine wp_region_held (S := fun W' => W' = W.drew) (by kernel_rfl) ?_
  change wpAnyH _ _ _ _ _ _ _ _ (World.drew _)
  have HS : Hid (W.drew = W.drew) := rfl
  refine wh 0 (.pointer (some ⟨D, 1, none⟩)) HS.out ?_ (hQ := fun _ _ _ h => HP.out _ _ _ _ h)
  refine wg 1 (.int .i64 (i : Int)) rfl (Or.inl ⟨by kernel_rfl, fun W hW => by subst hW; go_simp⟩) HS.out ?_ (hQ := fun _ _ _ h => HP.out _ _ _ _ h)
  refine wh 2 (.bool true) HS.out ?_ (hQ := fun _ _ _ h => HP.out _ _ _ _ h)
  refine wh 3 (.bool true) HS.out ?_ (hQ := fun _ _ _ h => HP.out _ _ _ _ h)
  refine wh 4 (.pointer (some ⟨D, 1, none⟩)) HS.out ?_ (hQ := fun _ _ _ h => HP.out _ _ _ _ h)
  refine wg 5 (.int .i64 (i : Int)) rfl (Or.inl ⟨by kernel_rfl, fun W hW => by subst hW; go_simp⟩) HS.out ?_ (hQ := fun _ _ _ h => HP.out _ _ _ _ h)
  refine wh 6 (.pointer (some ⟨R, 0, none⟩)) HS.out ?_ (hQ := fun _ _ _ h => HP.out _ _ _ _ h)
  refine wh 7 (.pointer (some ⟨R, 0, none⟩)) HS.out ?_ (hQ := fun _ _ _ h => HP.out _ _ _ _ h)
  refine wh 8 (.pointer (some ⟨R, 0, none⟩)) HS.out ?_ (hQ := fun _ _ _ h => HP.out _ _ _ _ h)
  refine wg 9 (.slice (some ⟨g, 0, none⟩) M.objs.length cc) rfl (Or.inl ⟨by kernel_rfl, fun W hW => by subst hW; go_simp⟩) HS.out ?_ (hQ := fun _ _ _ h => HP.out _ _ _ _ h)
  refine wh 10 (.int .i64 (M.objs.length : Int)) HS.out ?_ (hQ := fun _ _ _ h => HP.out _ _ _ _ h)
  refine wh 11 (.bool true) HS.out ?_ (hQ := fun _ _ _ h => HP.out _ _ _ _ h)
  refine wh 12 (.bool true) HS.out ?_ (hQ := fun _ _ _ h => HP.out _ _ _ _ h)
  refine wpAnyH_done (by kernel_rfl) ?_ _
  go_simp
  go_wp2_with fail
  refine wp_region_held (S := fun W' => W' = W.drew.drew) (by kernel_rfl) ?_
  change wpAnyH _ _ _ _ _ _ _ _ (World.drew _)
  have HS : Hid (W.drew.drew = W.drew.drew) := rfl
  refine wh 0 (.pointer (some ⟨R, 0, none⟩)) HS.out ?_ (hQ := fun _ _ _ h => HP.out _ _ _ _ h)
  refine wh 1 (.pointer (some ⟨R, 0, none⟩)) HS.out ?_ (hQ := fun _ _ _ h => HP.out _ _ _ _ h)
  refine wh 2 (.pointer (some ⟨R, 0, none⟩)) HS.out ?_ (hQ := fun _ _ _ h => HP.out _ _ _ _ h)
  refine wg 3 (.slice (some ⟨g, 0, none⟩) M.objs.length cc) rfl (Or.inl ⟨by kernel_rfl, fun W hW => by subst hW; go_simp⟩) HS.out ?_ (hQ := fun _ _ _ h => HP.out _ _ _ _ h)
  refine wh 4 (.pointer (some ⟨D, 1, none⟩)) HS.out ?_ (hQ := fun _ _ _ h => HP.out _ _ _ _ h)
  refine wg 5 (.int .i64 (i : Int)) rfl (Or.inl ⟨by kernel_rfl, fun W hW => by subst hW; go_simp⟩) HS.out ?_ (hQ := fun _ _ _ h => HP.out _ _ _ _ h)
  refine wh 6 (.pointer (some ⟨g, i, none⟩)) HS.out ?_ (hQ := fun _ _ _ h => HP.out _ _ _ _ h)
  refine wg 7 (.int .i64 x.code) rfl (Or.inl ⟨by kernel_rfl, fun W hW => by subst hW; go_simp⟩) HS.out ?_ (hQ := fun _ _ _ h => HP.out _ _ _ _ h)
  refine wh 8 (.int .i64 x.code) HS.out ?_ (hQ := fun _ _ _ h => HP.out _ _ _ _ h)
  refine wpAnyH_done (by kernel_rfl) ?_ _
  go_simp
  go_wp2_with fail
  exact fin Q .normal _ rfl rfl rfl rfl rfl rfl rfl (HQ.out _ _ (((Below.refl _ _).drew).drew) ⟨rfl, rfl, rfl, rfl, rfl, rfl⟩ rfl rfl rfl)
end
end Go.Proofs.YtomogijjkdiomaaDoor
