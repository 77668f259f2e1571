/-
  The last test of a round: part 0.
-/
import Derived.Test.YtomogijjkdiomaaDoorHp30
set_option maxRecDepth 100000
set_option maxHeartbeats 16000000
namespace Go.Proofs.YtomogijjkdiomaaDoor
open Go.RowKit

section
variable {W : World} {H R D V : Nat} {M : Mo} {d : Dv}
set_option maxRecDepth 100000
set_option maxHeartbeats 8000000
theorem seg0 (Q : Exit → Act → World → Prop) (l v5 : Value) (f : Nat → Value) (X : Nat) (b : Int) (ok : Bool) (pc pr : Option Addr) (cc cr : Nat) (hA : Ask W H R D X M d b pc pr cc cr) (hT : Tmp f X M d b ok) (W' : World) (hB : Below W.heap.size W W')
    (hP : ∀ c a a' w, Q (.panic c) a w → Q (.panic c) a' w) (hQ : ∀ f' W', Below W.heap.size W W' → f' 469 = .bool false → Q .normal (fr l (pH H) (pH R) v5 (pH D) (pH V) f') W') :
    Reg58 Q (fun W' => Below W.heap.size W W') 87 #[false, false, false, false, false, false, false, false, false, false, false, false, false, false, false, false, false, false, false, false, false, false, false, false, false, false, false, false, false, false, false, false, false, false, false, false, false, false, false, false, false, false, false, false, false, false, false, false, false, false, false, false, false, false, false, false, false, false, false, false, false, false, false, false, false, false, false, false, false, false, false, false, false, false, false, false, false, false, false, false, false, false, false, false, false, false, false] (fr l (pH H) (pH R) v5 (pH D) (pH V) f) W' := by
  have HA := hide hA
  have HT := hide hT
  have HB0 := hide hB
  have HP := hide hP
  have HQ := hide hQ
  obtain ⟨f12, f13, f14, f15, f16, f17, f18, f19, f20⟩ := hT
  clear hA hB hP hQ
  unfold Reg58
  simp only [Go.Proofs.YtomogijjkdiomaaDoor.regOps, Go.Proofs.YtomogijjkdiomaaDoor.cl, Go.Proofs.YtomogijjkdiomaaDoor.cr, Tryd.f3, Option.getD_some]
  unfold pH fr
  rw [f12, f13, f14, f15, f16, f17, f18, f19, f20]
  clear f12 f13 f14 f15 f16 f17 f18 f19 f20
  refine wh 0 (.bool ok) HB0.out ?_ (hQ := fun _ _ _ h => HP.out _ _ _ _ h)
  refine wh 1 (.bool ok) HB0.out ?_ (hQ := fun _ _ _ h => HP.out _ _ _ _ h)
  refine wh 2 (.bool false) HB0.out ?_ (hQ := fun _ _ _ h => HP.out _ _ _ _ h)
  refine wh 3 (.bool false) HB0.out ?_ (hQ := fun _ _ _ h => HP.out _ _ _ _ h)
  refine wh 4 (.pointer (some ⟨X, 1, none⟩)) HB0.out ?_ (hQ := fun _ _ _ h => HP.out _ _ _ _ h)
  refine wg 5 (.int .i64 b) rfl (Or.inl ⟨by kernel_rfl, fun W hW => by have h0 := HA.out.cX1 W hW; clear hW; go_simp⟩) HB0.out ?_ (hQ := fun _ _ _ h => HP.out _ _ _ _ h)
  refine wh 6 (.int .i64 b) HB0.out ?_ (hQ := fun _ _ _ h => HP.out _ _ _ _ h)
  refine wh 7 (.bool false) HB0.out ?_ (hQ := fun _ _ _ h => HP.out _ _ _ _ h)
  refine wh 8 (.bool false) HB0.out ?_ (hQ := fun _ _ _ h => HP.out _ _ _ _ h)
  refine wh 9 (.bool false) HB0.out ?_ (hQ := fun _ _ _ h => HP.out _ _ _ _ h)
  refine wpAnyH_norm (a' := ?x) ?h ?k
  case h =>
    go_simp
    try exact rfl
  refine wpAnyH_same (l' := #[true, true, true, true, true, true, true, true, true, true, false, false, false, false, false, false, false, false, false, false, false, false, false, false, false, false, false, false, false, false, false, false, false, false, false, false, false, false, false, false, false, false, false, false, false, false, false, false, false, false, false, false, false, false, false, false, false, false, false, false, false, false, false, false, false, false, false, false, false, false, false, false, false, false, false, false, false, false, false, false, false, false, false, false, false, false, false]) (by kernel_rfl) (fr_of _ rfl rfl rfl rfl rfl rfl rfl) ?_
  exact seg1 Q l v5 _ X b ok pc pr cc cr HA.out ⟨rfl, rfl, rfl, rfl, rfl, rfl, rfl, rfl, rfl⟩ _ HB0.out rfl HP.out HQ.out
end
end Go.Proofs.YtomogijjkdiomaaDoor
