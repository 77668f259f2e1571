/-
  The last test of a round: part 2.
-/
import Derived.Test.YtomogijjkdiomaaDoorHp29
set_option maxRecDepth 100000
set_option maxHeartbeats 16000000
namespace Go.Proofs.YtomogijjkdiomaaDoor
open Go.RowKit

section
variable {W : World} {H R D V : Nat} {M : Mo} {d : Dv}
set_option maxRecDepth 100000
set_option maxHeartbeats 8000000
theorem wpAnyH_norm {P : Program} {md : Region.Mode} {ops : Array Oper} {Q : Exit → Act → World → Prop} {S : World → Prop} {n : Nat} {l : Array Bool} {a a' : Act} {w : World} (h2 : a = a') (h : wpAnyH P md ops Q S n l a' w) : wpAnyH P md ops Q S n l a w := by
  rw [h2]; exact h
theorem seg2 (Q : Exit → Act → World → Prop) (l v5 : Value) (f : Nat → Value) (X : Nat) (b : Int) (ok : Bool) (pc pr : Option Addr) (cc cr : Nat) (hA : Ask W H R D X M d b pc pr cc cr) (hT : Tmp f X M d b ok) (W' : World) (hB : Below W.heap.size W W') (g0 : f 401 = .bool false)
    (hP : ∀ c a a' w, Q (.panic c) a w → Q (.panic c) a' w) (hQ : ∀ f' W', Below W.heap.size W W' → f' 469 = .bool false → Q .normal (fr l (pH H) (pH R) v5 (pH D) (pH V) f') W') :
    Reg58 Q (fun W' => Below W.heap.size W W') 68 #[true, true, true, true, true, true, true, true, true, true, true, true, true, true, true, true, true, true, true, false, false, false, false, false, false, false, false, false, false, false, false, false, false, false, false, false, false, false, false, false, false, false, false, false, false, false, false, false, false, false, false, false, false, false, false, false, false, false, false, false, false, false, false, false, false, false, false, false, false, false, false, false, false, false, false, false, false, false, false, false, false, false, false, false, false, false, false] (fr l (pH H) (pH R) v5 (pH D) (pH V) f) W' := by
  have HA := hide hA
  have HT := hide hT
  have HB0 := hide hB
  have HP := hide hP
  have HQ := hide hQ
  obtain ⟨f12, f13, f14, f15, f16, f17, f18, f19, f20⟩ := hT
  clear hA hB hP hQ
  unfold Reg58
  simp only [Go.Proofs.YtomogijjkdiomaaDoor.regOps, Go.Proofs.YtomogijjkdiomaaDoor.cl, Go.Proofs.YtomogijjkdiomaaDoor.cr, Tryd.f3, Option.getD_some]
  unfold pH fr
  rw [f12, f13, f14, f15, f16, f17, f18, f19, f20, g0]
  clear f12 f13 f14 f15 f16 f17 f18 f19 f20 g0
  refine wh 19 (.int .i64 (M.rooms.length : Int)) HB0.out ?_ (hQ := fun _ _ _ h => HP.out _ _ _ _ h)
  refine wh 20 (.pointer (some ⟨R, 0, none⟩)) HB0.out ?_ (hQ := fun _ _ _ h => HP.out _ _ _ _ h)
  refine wh 21 (.pointer (some ⟨R, 0, none⟩)) HB0.out ?_ (hQ := fun _ _ _ h => HP.out _ _ _ _ h)
  refine wh 22 (.pointer (some ⟨R, 2, none⟩)) HB0.out ?_ (hQ := fun _ _ _ h => HP.out _ _ _ _ h)
  refine wg 23 (.slice pr M.rooms.length cr) rfl (Or.inl ⟨by kernel_rfl, fun W hW => by have h0 := HA.out.cR2 W hW; clear hW; go_simp⟩) HB0.out ?_ (hQ := fun _ _ _ h => HP.out _ _ _ _ h)
  refine wh 24 (.int .i64 (M.rooms.length : Int)) HB0.out ?_ (hQ := fun _ _ _ h => HP.out _ _ _ _ h)
  refine wh 25 (.bool false) HB0.out ?_ (hQ := fun _ _ _ h => HP.out _ _ _ _ h)
  refine wh 26 (.bool false) HB0.out ?_ (hQ := fun _ _ _ h => HP.out _ _ _ _ h)
  refine wh 27 (.bool false) HB0.out ?_ (hQ := fun _ _ _ h => HP.out _ _ _ _ h)
  refine wpAnyH_norm (a' := ?x) ?h ?k
  case h =>
    go_simp
    try exact rfl
  refine wpAnyH_same (l' := #[true, true, true, true, true, true, true, true, true, true, true, true, true, true, true, true, true, true, true, true, true, true, true, true, true, true, true, true, false, false, false, false, false, false, false, false, false, false, false, false, false, false, false, false, false, false, false, false, false, false, false, false, false, false, false, false, false, false, false, false, false, false, false, false, false, false, false, false, false, false, false, false, false, false, false, false, false, false, false, false, false, false, false, false, false, false, false]) (by kernel_rfl) (fr_of _ rfl rfl rfl rfl rfl rfl rfl) ?_
  exact seg3 Q l v5 _ X b ok pc pr cc cr HA.out ⟨rfl, rfl, rfl, rfl, rfl, rfl, rfl, rfl, rfl⟩ _ HB0.out rfl HP.out HQ.out
end

section
variable {W : World} {H R D V : Nat} {M : Mo} {d : Dv}
set_option maxRecDepth 100000
set_option maxHeartbeats 8000000
theorem seg1 (Q : Exit → Act → World → Prop) (l v5 : Value) (f : Nat → Value) (X : Nat) (b : Int) (ok : Bool) (pc pr : Option Addr) (cc cr : Nat) (hA : Ask W H R D X M d b pc pr cc cr) (hT : Tmp f X M d b ok) (W' : World) (hB : Below W.heap.size W W') (g0 : f 392 = .bool false)
    (hP : ∀ c a a' w, Q (.panic c) a w → Q (.panic c) a' w) (hQ : ∀ f' W', Below W.heap.size W W' → f' 469 = .bool false → Q .normal (fr l (pH H) (pH R) v5 (pH D) (pH V) f') W') :
    Reg58 Q (fun W' => Below W.heap.size W W') 77 #[true, true, true, true, true, true, true, true, true, true, false, false, false, false, false, false, false, false, false, false, false, false, false, false, false, false, false, false, false, false, false, false, false, false, false, false, false, false, false, false, false, false, false, false, false, false, false, false, false, false, false, false, false, false, false, false, false, false, false, false, false, false, false, false, false, false, false, false, false, false, false, false, false, false, false, false, false, false, false, false, false, false, false, false, false, false, false] (fr l (pH H) (pH R) v5 (pH D) (pH V) f) W' := by
  have HA := hide hA
  have HT := hide hT
  have HB0 := hide hB
  have HP := hide hP
  have HQ := hide hQ
  obtain ⟨f12, f13, f14, f15, f16, f17, f18, f19, f20⟩ := hT
  clear hA hB hP hQ
  unfold Reg58
  simp only [Go.Proofs.YtomogijjkdiomaaDoor.regOps, Go.Proofs.YtomogijjkdiomaaDoor.cl, Go.Proofs.YtomogijjkdiomaaDoor.cr, Tryd.f3, Option.getD_some]
  unfold pH fr
  rw [f12, f13, f14, f15, f16, f17, f18, f19, f20, g0]
  clear f12 f13 f14 f15 f16 f17 f18 f19 f20 g0
  refine wh 10 (.int .i64 (M.objs.length : Int)) HB0.out ?_ (hQ := fun _ _ _ h => HP.out _ _ _ _ h)
  refine wh 11 (.pointer (some ⟨R, 0, none⟩)) HB0.out ?_ (hQ := fun _ _ _ h => HP.out _ _ _ _ h)
  refine wh 12 (.pointer (some ⟨R, 0, none⟩)) HB0.out ?_ (hQ := fun _ _ _ h => HP.out _ _ _ _ h)
  refine wh 13 (.pointer (some ⟨R, 0, none⟩)) HB0.out ?_ (hQ := fun _ _ _ h => HP.out _ _ _ _ h)
  refine wg 14 (.slice pc M.objs.length cc) rfl (Or.inl ⟨by kernel_rfl, fun W hW => by have h0 := HA.out.cR0 W hW; clear hW; go_simp⟩) HB0.out ?_ (hQ := fun _ _ _ h => HP.out _ _ _ _ h)
  refine wh 15 (.int .i64 (M.objs.length : Int)) HB0.out ?_ (hQ := fun _ _ _ h => HP.out _ _ _ _ h)
  refine wh 16 (.bool false) HB0.out ?_ (hQ := fun _ _ _ h => HP.out _ _ _ _ h)
  refine wh 17 (.bool false) HB0.out ?_ (hQ := fun _ _ _ h => HP.out _ _ _ _ h)
  refine wh 18 (.bool false) HB0.out ?_ (hQ := fun _ _ _ h => HP.out _ _ _ _ h)
  refine wpAnyH_norm (a' := ?x) ?h ?k
  case h =>
    go_simp
    try exact rfl
  refine wpAnyH_same (l' := #[true, true, true, true, true, true, true, true, true, true, true, true, true, true, true, true, true, true, true, false, false, false, false, false, false, false, false, false, false, false, false, false, false, false, false, false, false, false, false, false, false, false, false, false, false, false, false, false, false, false, false, false, false, false, false, false, false, false, false, false, false, false, false, false, false, false, false, false, false, false, false, false, false, false, false, false, false, false, false, false, false, false, false, false, false, false, false]) (by kernel_rfl) (fr_of _ rfl rfl rfl rfl rfl rfl rfl) ?_
  exact seg2 Q l v5 _ X b ok pc pr cc cr HA.out ⟨rfl, rfl, rfl, rfl, rfl, rfl, rfl, rfl, rfl⟩ _ HB0.out rfl HP.out HQ.out
end
end Go.Proofs.YtomogijjkdiomaaDoor
