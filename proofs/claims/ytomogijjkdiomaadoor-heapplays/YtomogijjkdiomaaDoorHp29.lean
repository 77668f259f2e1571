/-
  The last test of a round: part 7.
-/
import Derived.Test.YtomogijjkdiomaaDoorHp28
set_option maxRecDepth 100000
set_option maxHeartbeats 16000000
namespace Go.Proofs.YtomogijjkdiomaaDoor
open Go.RowKit

section
variable {W : World} {H R D V : Nat} {M : Mo} {d : Dv}
set_option maxRecDepth 100000
set_option maxHeartbeats 8000000
theorem seg7 (Q : Exit → Act → World → Prop) (l v5 : Value) (f : Nat → Value) (X : Nat) (b : Int) (ok : Bool) (pc pr : Option Addr) (cc cr : Nat) (hA : Ask W H R D X M d b pc pr cc cr) (hT : Tmp f X M d b ok) (W' : World) (hB : Below W.heap.size W W') (g0 : f 456 = .bool false)
    (hP : ∀ c a a' w, Q (.panic c) a w → Q (.panic c) a' w) (hQ : ∀ f' W', Below W.heap.size W W' → f' 469 = .bool false → Q .normal (fr l (pH H) (pH R) v5 (pH D) (pH V) f') W') :
    Reg58 Q (fun W' => Below W.heap.size W W') 13 #[true, true, true, true, true, true, true, true, true, true, true, true, true, true, true, true, true, true, true, true, true, true, true, true, true, true, true, true, true, true, true, true, true, true, true, true, true, true, true, true, true, true, true, true, true, true, true, true, true, true, true, true, true, true, true, true, true, true, true, true, true, true, true, true, true, true, true, true, true, true, true, true, true, true, false, false, false, false, false, false, false, false, false, false, false, false, false] (fr l (pH H) (pH R) v5 (pH D) (pH V) f) W' := by
  have HA := hide hA
  have HT := hide hT
  have HB0 := hide hB
  have HP := hide hP
  have HQ := hide hQ
  obtain ⟨f12, f13, f14, f15, f16, f17, f18, f19, f20⟩ := hT
  clear hA hB hP hQ
  unfold Reg58
  simp only [Go.Proofs.YtomogijjkdiomaaDoor.regOps, Go.Proofs.YtomogijjkdiomaaDoor.cl, Go.Proofs.YtomogijjkdiomaaDoor.cr, Tryd.f3, Option.getD_some]
  unfold pH fr
  rw [f12, f13, f14, f15, f16, f17, f18, f19, f20, g0]
  clear f12 f13 f14 f15 f16 f17 f18 f19 f20 g0
  refine wh 74 (.pointer (some ⟨D, 1, none⟩)) HB0.out ?_ (hQ := fun _ _ _ h => HP.out _ _ _ _ h)
  refine wg 75 (.int .i64 d.a) rfl (Or.inl ⟨by kernel_rfl, fun W hW => by have h0 := HA.out.cD1 W hW; clear hW; go_simp⟩) HB0.out ?_ (hQ := fun _ _ _ h => HP.out _ _ _ _ h)
  refine wh 77 (.int .i64 (M.objOf d.a)) HB0.out ?_ (hQ := fun _ _ _ h => HP.out _ _ _ _ h)
  refine wq1 76 fun K hK => ?_
  go_simp
  refine Calls.mono (HA.out.f35 _ HB0.out) ?_
  rintro e1 w1 ⟨rfl, hb1⟩
  have HB1 := hide (HB0.out.trans (hb1.mono HB0.out.size))
  refine hK.out _ _ HB1.out (fun _ => ?_)
  clear hK K hb1
  refine wh 78 (.bool false) HB1.out ?_ (hQ := fun _ _ _ h => HP.out _ _ _ _ h)
  refine wh 79 (.bool false) HB1.out ?_ (hQ := fun _ _ _ h => HP.out _ _ _ _ h)
  refine wh 80 (.bool false) HB1.out ?_ (hQ := fun _ _ _ h => HP.out _ _ _ _ h)
  refine wpAnyH_same (l' := #[true, true, true, true, true, true, true, true, true, true, true, true, true, true, true, true, true, true, true, true, true, true, true, true, true, true, true, true, true, true, true, true, true, true, true, true, true, true, true, true, true, true, true, true, true, true, true, true, true, true, true, true, true, true, true, true, true, true, true, true, true, true, true, true, true, true, true, true, true, true, true, true, true, true, true, true, true, true, true, true, true, false, false, false, false, false, false]) (by kernel_rfl) (fr_of _ rfl rfl rfl rfl rfl rfl rfl) ?_
  exact seg8 Q l v5 _ X b ok pc pr cc cr HA.out ⟨rfl, rfl, rfl, rfl, rfl, rfl, rfl, rfl, rfl⟩ _ HB1.out rfl HP.out HQ.out
end

section
variable {W : World} {H R D V : Nat} {M : Mo} {d : Dv}
set_option maxRecDepth 100000
set_option maxHeartbeats 8000000
theorem seg6 (Q : Exit → Act → World → Prop) (l v5 : Value) (f : Nat → Value) (X : Nat) (b : Int) (ok : Bool) (pc pr : Option Addr) (cc cr : Nat) (hA : Ask W H R D X M d b pc pr cc cr) (hT : Tmp f X M d b ok) (W' : World) (hB : Below W.heap.size W W') (g0 : f 449 = .bool false)
    (hP : ∀ c a a' w, Q (.panic c) a w → Q (.panic c) a' w) (hQ : ∀ f' W', Below W.heap.size W W' → f' 469 = .bool false → Q .normal (fr l (pH H) (pH R) v5 (pH D) (pH V) f') W') :
    Reg58 Q (fun W' => Below W.heap.size W W') 20 #[true, true, true, true, true, true, true, true, true, true, true, true, true, true, true, true, true, true, true, true, true, true, true, true, true, true, true, true, true, true, true, true, true, true, true, true, true, true, true, true, true, true, true, true, true, true, true, true, true, true, true, true, true, true, true, true, true, true, true, true, true, true, true, true, true, true, true, false, false, false, false, false, false, false, false, false, false, false, false, false, false, false, false, false, false, false, false] (fr l (pH H) (pH R) v5 (pH D) (pH V) f) W' := by
  have HA := hide hA
  have HT := hide hT
  have HB0 := hide hB
  have HP := hide hP
  have HQ := hide hQ
  obtain ⟨f12, f13, f14, f15, f16, f17, f18, f19, f20⟩ := hT
  clear hA hB hP hQ
  unfold Reg58
  simp only [Go.Proofs.YtomogijjkdiomaaDoor.regOps, Go.Proofs.YtomogijjkdiomaaDoor.cl, Go.Proofs.YtomogijjkdiomaaDoor.cr, Tryd.f3, Option.getD_some]
  unfold pH fr
  rw [f12, f13, f14, f15, f16, f17, f18, f19, f20, g0]
  clear f12 f13 f14 f15 f16 f17 f18 f19 f20 g0
  refine wh 67 (.pointer (some ⟨D, 1, none⟩)) HB0.out ?_ (hQ := fun _ _ _ h => HP.out _ _ _ _ h)
  refine wg 68 (.int .i64 d.a) rfl (Or.inl ⟨by kernel_rfl, fun W hW => by have h0 := HA.out.cD1 W hW; clear hW; go_simp⟩) HB0.out ?_ (hQ := fun _ _ _ h => HP.out _ _ _ _ h)
  refine wh 70 (.int .i64 (M.codeOf d.a)) HB0.out ?_ (hQ := fun _ _ _ h => HP.out _ _ _ _ h)
  refine wq1 69 fun K hK => ?_
  go_simp
  refine Calls.mono (HA.out.f34 _ HB0.out) ?_
  rintro e1 w1 ⟨rfl, hb1⟩
  have HB1 := hide (HB0.out.trans (hb1.mono HB0.out.size))
  refine hK.out _ _ HB1.out (fun _ => ?_)
  clear hK K hb1
  refine wh 71 (.bool false) HB1.out ?_ (hQ := fun _ _ _ h => HP.out _ _ _ _ h)
  refine wh 72 (.bool false) HB1.out ?_ (hQ := fun _ _ _ h => HP.out _ _ _ _ h)
  refine wh 73 (.bool false) HB1.out ?_ (hQ := fun _ _ _ h => HP.out _ _ _ _ h)
  refine wpAnyH_same (l' := #[true, true, true, true, true, true, true, true, true, true, true, true, true, true, true, true, true, true, true, true, true, true, true, true, true, true, true, true, true, true, true, true, true, true, true, true, true, true, true, true, true, true, true, true, true, true, true, true, true, true, true, true, true, true, true, true, true, true, true, true, true, true, true, true, true, true, true, true, true, true, true, true, true, true, false, false, false, false, false, false, false, false, false, false, false, false, false]) (by kernel_rfl) (fr_of _ rfl rfl rfl rfl rfl rfl rfl) ?_
  exact seg7 Q l v5 _ X b ok pc pr cc cr HA.out ⟨rfl, rfl, rfl, rfl, rfl, rfl, rfl, rfl, rfl⟩ _ HB1.out rfl HP.out HQ.out
end

section
variable {W : World} {H R D V : Nat} {M : Mo} {d : Dv}
set_option maxRecDepth 100000
set_option maxHeartbeats 8000000
theorem seg5 (Q : Exit → Act → World → Prop) (l v5 : Value) (f : Nat → Value) (X : Nat) (b : Int) (ok : Bool) (pc pr : Option Addr) (cc cr : Nat) (hA : Ask W H R D X M d b pc pr cc cr) (hT : Tmp f X M d b ok) (W' : World) (hB : Below W.heap.size W W') (g0 : f 438 = .bool false)
    (hP : ∀ c a a' w, Q (.panic c) a w → Q (.panic c) a' w) (hQ : ∀ f' W', Below W.heap.size W W' → f' 469 = .bool false → Q .normal (fr l (pH H) (pH R) v5 (pH D) (pH V) f') W') :
    Reg58 Q (fun W' => Below W.heap.size W W') 31 #[true, true, true, true, true, true, true, true, true, true, true, true, true, true, true, true, true, true, true, true, true, true, true, true, true, true, true, true, true, true, true, true, true, true, true, true, true, true, true, true, true, true, true, true, true, true, true, true, true, true, true, true, true, true, true, true, false, false, false, false, false, false, false, false, false, false, false, false, false, false, false, false, false, false, false, false, false, false, false, false, false, false, false, false, false, false, false] (fr l (pH H) (pH R) v5 (pH D) (pH V) f) W' := by
  have HA := hide hA
  have HT := hide hT
  have HB0 := hide hB
  have HP := hide hP
  have HQ := hide hQ
  obtain ⟨f12, f13, f14, f15, f16, f17, f18, f19, f20⟩ := hT
  clear hA hB hP hQ
  unfold Reg58
  simp only [Go.Proofs.YtomogijjkdiomaaDoor.regOps, Go.Proofs.YtomogijjkdiomaaDoor.cl, Go.Proofs.YtomogijjkdiomaaDoor.cr, Tryd.f3, Option.getD_some]
  unfold pH fr
  rw [f12, f13, f14, f15, f16, f17, f18, f19, f20, g0]
  clear f12 f13 f14 f15 f16 f17 f18 f19 f20 g0
  refine wh 56 (.pointer (some ⟨D, 1, none⟩)) HB0.out ?_ (hQ := fun _ _ _ h => HP.out _ _ _ _ h)
  refine wg 57 (.int .i64 d.a) rfl (Or.inl ⟨by kernel_rfl, fun W hW => by have h0 := HA.out.cD1 W hW; clear hW; go_simp⟩) HB0.out ?_ (hQ := fun _ _ _ h => HP.out _ _ _ _ h)
  refine wh 60 (.pointer (some ⟨R, 0, none⟩)) HB0.out ?_ (hQ := fun _ _ _ h => HP.out _ _ _ _ h)
  refine wh 61 (.pointer (some ⟨D, 1, none⟩)) HB0.out ?_ (hQ := fun _ _ _ h => HP.out _ _ _ _ h)
  refine wg 62 (.int .i64 d.a) rfl (Or.inl ⟨by kernel_rfl, fun W hW => by have h0 := HA.out.cD1 W hW; clear hW; go_simp⟩) HB0.out ?_ (hQ := fun _ _ _ h => HP.out _ _ _ _ h)
  refine wq1 58 fun K hK => ?_
  go_simp
  refine Calls.mono (HA.out.f32 _ HB0.out) ?_
  rintro e1 w1 ⟨rv_, rfl, hrow, hb1⟩
  have HB1 := hide (HB0.out.trans (hb1.mono HB0.out.size))
  have HJ := hide (HA.out.f31 _ _ hrow)
  refine hK.out _ _ HB1.out (fun _ => ?_)
  clear hK K hb1 hrow
  refine wq1 59 fun K hK => ?_
  go_simp
  refine Calls.mono (HJ.out) ?_
  rintro e1 w2 ⟨rfl, hb2⟩
  have HB2 := hide (HB1.out.trans (hb2.mono HB1.out.size))
  refine hK.out _ _ HB2.out (fun _ => ?_)
  clear hK K hb2
  refine wq1 63 fun K hK => ?_
  go_simp
  refine Calls.mono (HA.out.f33 _ HB2.out) ?_
  rintro e1 w3 ⟨rfl, hb3⟩
  have HB3 := hide (HB2.out.trans (hb3.mono HB2.out.size))
  refine hK.out _ _ HB3.out (fun _ => ?_)
  clear hK K hb3
  refine wh 64 (.bool false) HB3.out ?_ (hQ := fun _ _ _ h => HP.out _ _ _ _ h)
  refine wh 65 (.bool false) HB3.out ?_ (hQ := fun _ _ _ h => HP.out _ _ _ _ h)
  refine wh 66 (.bool false) HB3.out ?_ (hQ := fun _ _ _ h => HP.out _ _ _ _ h)
  refine wpAnyH_same (l' := #[true, true, true, true, true, true, true, true, true, true, true, true, true, true, true, true, true, true, true, true, true, true, true, true, true, true, true, true, true, true, true, true, true, true, true, true, true, true, true, true, true, true, true, true, true, true, true, true, true, true, true, true, true, true, true, true, true, true, true, true, true, true, true, true, true, true, true, false, false, false, false, false, false, false, false, false, false, false, false, false, false, false, false, false, false, false, false]) (by kernel_rfl) (fr_of _ rfl rfl rfl rfl rfl rfl rfl) ?_
  exact seg6 Q l v5 _ X b ok pc pr cc cr HA.out ⟨rfl, rfl, rfl, rfl, rfl, rfl, rfl, rfl, rfl⟩ _ HB3.out rfl HP.out HQ.out
end

section
variable {W : World} {H R D V : Nat} {M : Mo} {d : Dv}
set_option maxRecDepth 100000
set_option maxHeartbeats 8000000
theorem seg4 (Q : Exit → Act → World → Prop) (l v5 : Value) (f : Nat → Value) (X : Nat) (b : Int) (ok : Bool) (pc pr : Option Addr) (cc cr : Nat) (hA : Ask W H R D X M d b pc pr cc cr) (hT : Tmp f X M d b ok) (W' : World) (hB : Below W.heap.size W W') (g0 : f 424 = .bool false)
    (hP : ∀ c a a' w, Q (.panic c) a w → Q (.panic c) a' w) (hQ : ∀ f' W', Below W.heap.size W W' → f' 469 = .bool false → Q .normal (fr l (pH H) (pH R) v5 (pH D) (pH V) f') W') :
    Reg58 Q (fun W' => Below W.heap.size W W') 45 #[true, true, true, true, true, true, true, true, true, true, true, true, true, true, true, true, true, true, true, true, true, true, true, true, true, true, true, true, true, true, true, true, true, true, true, true, true, true, true, true, true, true, false, false, false, false, false, false, false, false, false, false, false, false, false, false, false, false, false, false, false, false, false, false, false, false, false, false, false, false, false, false, false, false, false, false, false, false, false, false, false, false, false, false, false, false, false] (fr l (pH H) (pH R) v5 (pH D) (pH V) f) W' := by
  have HA := hide hA
  have HT := hide hT
  have HB0 := hide hB
  have HP := hide hP
  have HQ := hide hQ
  obtain ⟨f12, f13, f14, f15, f16, f17, f18, f19, f20⟩ := hT
  clear hA hB hP hQ
  unfold Reg58
  simp only [Go.Proofs.YtomogijjkdiomaaDoor.regOps, Go.Proofs.YtomogijjkdiomaaDoor.cl, Go.Proofs.YtomogijjkdiomaaDoor.cr, Tryd.f3, Option.getD_some]
  unfold pH fr
  rw [f12, f13, f14, f15, f16, f17, f18, f19, f20, g0]
  clear f12 f13 f14 f15 f16 f17 f18 f19 f20 g0
  refine wh 42 (.pointer (some ⟨D, 1, none⟩)) HB0.out ?_ (hQ := fun _ _ _ h => HP.out _ _ _ _ h)
  refine wg 43 (.int .i64 d.a) rfl (Or.inl ⟨by kernel_rfl, fun W hW => by have h0 := HA.out.cD1 W hW; clear hW; go_simp⟩) HB0.out ?_ (hQ := fun _ _ _ h => HP.out _ _ _ _ h)
  refine wh 44 (.pointer (some ⟨D, 3, none⟩)) HB0.out ?_ (hQ := fun _ _ _ h => HP.out _ _ _ _ h)
  refine wg 45 (.string d.name) rfl (Or.inl ⟨by kernel_rfl, fun W hW => by have h0 := HA.out.cD3 W hW; clear hW; go_simp⟩) HB0.out ?_ (hQ := fun _ _ _ h => HP.out _ _ _ _ h)
  refine wh 47 (.pointer (some ⟨R, 0, none⟩)) HB0.out ?_ (hQ := fun _ _ _ h => HP.out _ _ _ _ h)
  refine wh 48 (.pointer (some ⟨D, 1, none⟩)) HB0.out ?_ (hQ := fun _ _ _ h => HP.out _ _ _ _ h)
  refine wg 49 (.int .i64 d.a) rfl (Or.inl ⟨by kernel_rfl, fun W hW => by have h0 := HA.out.cD1 W hW; clear hW; go_simp⟩) HB0.out ?_ (hQ := fun _ _ _ h => HP.out _ _ _ _ h)
  refine wh 50 (.pointer (some ⟨D, 3, none⟩)) HB0.out ?_ (hQ := fun _ _ _ h => HP.out _ _ _ _ h)
  refine wg 51 (.string d.name) rfl (Or.inl ⟨by kernel_rfl, fun W hW => by have h0 := HA.out.cD3 W hW; clear hW; go_simp⟩) HB0.out ?_ (hQ := fun _ _ _ h => HP.out _ _ _ _ h)
  refine wq1 46 fun K hK => ?_
  go_simp
  refine Calls.mono (HA.out.f29 _ HB0.out) ?_
  rintro e1 w1 ⟨rfl, hb1⟩
  have HB1 := hide (HB0.out.trans (hb1.mono HB0.out.size))
  refine hK.out _ _ HB1.out (fun _ => ?_)
  clear hK K hb1
  refine wq1 52 fun K hK => ?_
  go_simp
  refine Calls.mono (HA.out.f30 _ HB1.out) ?_
  rintro e1 w2 ⟨rfl, hb2⟩
  have HB2 := hide (HB1.out.trans (hb2.mono HB1.out.size))
  refine hK.out _ _ HB2.out (fun _ => ?_)
  clear hK K hb2
  refine wh 53 (.bool false) HB2.out ?_ (hQ := fun _ _ _ h => HP.out _ _ _ _ h)
  refine wh 54 (.bool false) HB2.out ?_ (hQ := fun _ _ _ h => HP.out _ _ _ _ h)
  refine wh 55 (.bool false) HB2.out ?_ (hQ := fun _ _ _ h => HP.out _ _ _ _ h)
  refine wpAnyH_same (l' := #[true, true, true, true, true, true, true, true, true, true, true, true, true, true, true, true, true, true, true, true, true, true, true, true, true, true, true, true, true, true, true, true, true, true, true, true, true, true, true, true, true, true, true, true, true, true, true, true, true, true, true, true, true, true, true, true, false, false, false, false, false, false, false, false, false, false, false, false, false, false, false, false, false, false, false, false, false, false, false, false, false, false, false, false, false, false, false]) (by kernel_rfl) (fr_of _ rfl rfl rfl rfl rfl rfl rfl) ?_
  exact seg5 Q l v5 _ X b ok pc pr cc cr HA.out ⟨rfl, rfl, rfl, rfl, rfl, rfl, rfl, rfl, rfl⟩ _ HB2.out rfl HP.out HQ.out
end

section
variable {W : World} {H R D V : Nat} {M : Mo} {d : Dv}
set_option maxRecDepth 100000
set_option maxHeartbeats 8000000
theorem seg3 (Q : Exit → Act → World → Prop) (l v5 : Value) (f : Nat → Value) (X : Nat) (b : Int) (ok : Bool) (pc pr : Option Addr) (cc cr : Nat) (hA : Ask W H R D X M d b pc pr cc cr) (hT : Tmp f X M d b ok) (W' : World) (hB : Below W.heap.size W W') (g0 : f 410 = .bool false)
    (hP : ∀ c a a' w, Q (.panic c) a w → Q (.panic c) a' w) (hQ : ∀ f' W', Below W.heap.size W W' → f' 469 = .bool false → Q .normal (fr l (pH H) (pH R) v5 (pH D) (pH V) f') W') :
    Reg58 Q (fun W' => Below W.heap.size W W') 59 #[true, true, true, true, true, true, true, true, true, true, true, true, true, true, true, true, true, true, true, true, true, true, true, true, true, true, true, true, false, false, false, false, false, false, false, false, false, false, false, false, false, false, false, false, false, false, false, false, false, false, false, false, false, false, false, false, false, false, false, false, false, false, false, false, false, false, false, false, false, false, false, false, false, false, false, false, false, false, false, false, false, false, false, false, false, false, false] (fr l (pH H) (pH R) v5 (pH D) (pH V) f) W' := by
  have HA := hide hA
  have HT := hide hT
  have HB0 := hide hB
  have HP := hide hP
  have HQ := hide hQ
  obtain ⟨f12, f13, f14, f15, f16, f17, f18, f19, f20⟩ := hT
  clear hA hB hP hQ
  unfold Reg58
  simp only [Go.Proofs.YtomogijjkdiomaaDoor.regOps, Go.Proofs.YtomogijjkdiomaaDoor.cl, Go.Proofs.YtomogijjkdiomaaDoor.cr, Tryd.f3, Option.getD_some]
  unfold pH fr
  rw [f12, f13, f14, f15, f16, f17, f18, f19, f20, g0]
  clear f12 f13 f14 f15 f16 f17 f18 f19 f20 g0
  refine wh 28 (.pointer (some ⟨D, 1, none⟩)) HB0.out ?_ (hQ := fun _ _ _ h => HP.out _ _ _ _ h)
  refine wg 29 (.int .i64 d.a) rfl (Or.inl ⟨by kernel_rfl, fun W hW => by have h0 := HA.out.cD1 W hW; clear hW; go_simp⟩) HB0.out ?_ (hQ := fun _ _ _ h => HP.out _ _ _ _ h)
  refine wh 30 (.pointer (some ⟨D, 3, none⟩)) HB0.out ?_ (hQ := fun _ _ _ h => HP.out _ _ _ _ h)
  refine wg 31 (.string d.name) rfl (Or.inl ⟨by kernel_rfl, fun W hW => by have h0 := HA.out.cD3 W hW; clear hW; go_simp⟩) HB0.out ?_ (hQ := fun _ _ _ h => HP.out _ _ _ _ h)
  refine wh 33 (.pointer (some ⟨R, 0, none⟩)) HB0.out ?_ (hQ := fun _ _ _ h => HP.out _ _ _ _ h)
  refine wh 34 (.pointer (some ⟨D, 1, none⟩)) HB0.out ?_ (hQ := fun _ _ _ h => HP.out _ _ _ _ h)
  refine wg 35 (.int .i64 d.a) rfl (Or.inl ⟨by kernel_rfl, fun W hW => by have h0 := HA.out.cD1 W hW; clear hW; go_simp⟩) HB0.out ?_ (hQ := fun _ _ _ h => HP.out _ _ _ _ h)
  refine wh 36 (.pointer (some ⟨D, 3, none⟩)) HB0.out ?_ (hQ := fun _ _ _ h => HP.out _ _ _ _ h)
  refine wg 37 (.string d.name) rfl (Or.inl ⟨by kernel_rfl, fun W hW => by have h0 := HA.out.cD3 W hW; clear hW; go_simp⟩) HB0.out ?_ (hQ := fun _ _ _ h => HP.out _ _ _ _ h)
  refine wq1 32 fun K hK => ?_
  go_simp
  refine Calls.mono (HA.out.f27 _ HB0.out) ?_
  rintro e1 w1 ⟨rfl, hb1⟩
  have HB1 := hide (HB0.out.trans (hb1.mono HB0.out.size))
  refine hK.out _ _ HB1.out (fun _ => ?_)
  clear hK K hb1
  refine wq1 38 fun K hK => ?_
  go_simp
  refine Calls.mono (HA.out.f28 _ HB1.out) ?_
  rintro e1 w2 ⟨rfl, hb2⟩
  have HB2 := hide (HB1.out.trans (hb2.mono HB1.out.size))
  refine hK.out _ _ HB2.out (fun _ => ?_)
  clear hK K hb2
  refine wh 39 (.bool false) HB2.out ?_ (hQ := fun _ _ _ h => HP.out _ _ _ _ h)
  refine wh 40 (.bool false) HB2.out ?_ (hQ := fun _ _ _ h => HP.out _ _ _ _ h)
  refine wh 41 (.bool false) HB2.out ?_ (hQ := fun _ _ _ h => HP.out _ _ _ _ h)
  refine wpAnyH_same (l' := #[true, true, true, true, true, true, true, true, true, true, true, true, true, true, true, true, true, true, true, true, true, true, true, true, true, true, true, true, true, true, true, true, true, true, true, true, true, true, true, true, true, true, false, false, false, false, false, false, false, false, false, false, false, false, false, false, false, false, false, false, false, false, false, false, false, false, false, false, false, false, false, false, false, false, false, false, false, false, false, false, false, false, false, false, false, false, false]) (by kernel_rfl) (fr_of _ rfl rfl rfl rfl rfl rfl rfl) ?_
  exact seg4 Q l v5 _ X b ok pc pr cc cr HA.out ⟨rfl, rfl, rfl, rfl, rfl, rfl, rfl, rfl, rfl⟩ _ HB2.out rfl HP.out HQ.out
end
end Go.Proofs.YtomogijjkdiomaaDoor
