/-
  The signs that make a value of so many parts.
-/
import Derived.Test.YtoimgcjbcbhclaaGreatDoorAo0
import Derived.Test.YtoimgcjbcbhclaaGreatDoorAo1
import Derived.Test.YtoimgcjbcbhclaaGreatDoorAo5
import Derived.Deep.RegionHeld
import Derived.Deep.AppendLies
set_option maxRecDepth 100000
set_option maxHeartbeats 16000000
namespace Go.Proofs.YtoimgcjbcbhclaaGreatDoor
open Go.RowKit
section
variable {c : Ctx} {w : World} {i d : Nat} (h : Rdr c w i d)
include c w i d h
theorem Rdr.drew : Rdr c w.drew i d := h.later (Below.refl _ _).drew
theorem Rdr.alloc (o : Obj) : Rdr c (w.alloc o) i d := h.later ((Below.refl _ _).alloc (Nat.le_refl _) _)
end
abbrev O160 : Obj := .cells #[.string ⟨#[]⟩, .int .i64 0, .int .i64 0, .int .i64 0] 189
theorem set4 {w : World} {b : Nat} {a0 a1 a2 a3 : Value} {t : TypeId} {fr : Nat × Nat} (h : w.heap[b]? = some (.cells #[a0, a1, a2, a3] t fr)) (v0 v1 v2 v3 : Value) :
  ((((w.setCell ⟨b, 0, none⟩ v0).setCell ⟨b, 1, none⟩ v1).setCell ⟨b, 2, none⟩ v2).setCell ⟨b, 3, none⟩ v3).heap[b]? = some (.cells #[v0, v1, v2, v3] t fr) := by
 rw [heap_set (heap_set (heap_set (heap_set h v0) v1) v2) v3]
 rfl
def C160 (b : Nat) (w1 : World) (v0 v1 v2 v3 : Value) : Prop :=
 w1.cell? ⟨b, 0, none⟩ = some v0 ∧ w1.cell? ⟨b, 1, none⟩ = some v1 ∧ w1.cell? ⟨b, 2, none⟩ = some v2 ∧ w1.cell? ⟨b, 3, none⟩ = some v3 ∧ (∀ o, w1.frozen? ⟨b, o, none⟩ = false) ∧ b < w1.heap.size
theorem c160 {b : Nat} {w1 : World} {v0 v1 v2 v3 : Value} (p0 : w1.heap[b]? = some (.cells #[v0, v1, v2, v3] 189)) : C160 b w1 v0 v1 v2 v3 :=
 ⟨by rw [cell_of p0]; rfl, by rw [cell_of p0]; rfl, by rw [cell_of p0]; rfl, by rw [cell_of p0]; rfl, frozen_of p0, lt_of_heap p0⟩
section
variable {c : Ctx} {w w1 : World} {i d : Nat} (h : Rdr c w i d)
include c w w1 i d h
theorem sf_one (hb : Below (w.alloc O160).drew.heap.size (w.alloc O160).drew w1) :
  Rdr c w1 i d ∧ Below w.heap.size w w1 ∧ w1.heap[w.heap.size]? = some O160 :=
 ⟨(h.alloc O160).drew.later hb, (((Below.refl _ _).alloc (Nat.le_refl _) O160).drew).trans (hb.mono (by simp)), (hb.block _ (by simp)).trans (heap_new w O160)⟩
theorem sf_two (hb : Below ((w.alloc O160).alloc O160).drew.heap.size ((w.alloc O160).alloc O160).drew w1) :
  Rdr c w1 i d ∧ Below w.heap.size w w1 ∧ w1.heap[w.heap.size]? = some O160 ∧ w1.heap[w.heap.size + 1]? = some O160 := by
 refine ⟨((h.alloc O160).alloc O160).drew.later hb, ((((Below.refl _ _).alloc (Nat.le_refl _) O160).alloc (by simp) O160).drew).trans (hb.mono (by simp; omega)), (hb.block _ (by simp; omega)).trans ((Below.heap_alloc (w.alloc O160) O160 w.heap.size (by simp)).trans (heap_new w O160)), ?_⟩
 have := heap_new (w.alloc O160) O160
 simp only [World.size_alloc] at this
 exact (hb.block _ (by simp)).trans this
end
section
variable {c : Ctx} {w w1 W2 : World} {i d : Nat} {v0 v1 v2 v3 : Value} (h : Rdr c w1 i d)
include c w w1 W2 i d v0 v1 v2 v3 h
theorem w2_any (hlo : c.lo ≤ w.heap.size) (p0 : w1.heap[w.heap.size]? = some O160) (p1 : w1.heap[w.heap.size + 1]? = some O160) (hb : Below w.heap.size w w1) (hW : W2 = (((w1.setCell ⟨w.heap.size + 1, 0, none⟩ v0).setCell ⟨w.heap.size + 1, 1, none⟩ v1).setCell ⟨w.heap.size + 1, 2, none⟩ v2).setCell ⟨w.heap.size + 1, 3, none⟩ v3) :
  Rdr c W2 i d ∧ Below w.heap.size w W2 ∧ C160 w.heap.size W2 (.string ⟨#[]⟩) (.int .i64 0) (.int .i64 0) (.int .i64 0) ∧ C160 (w.heap.size + 1) W2 v0 v1 v2 v3 := by
 have hB : Below (w.heap.size + 1) w1 W2 := by
  rw [hW]
  exact ((((Below.refl _ w1).setCell (p := ⟨w.heap.size + 1, 0, none⟩) (Nat.le_refl _) v0).setCell (p := ⟨w.heap.size + 1, 1, none⟩) (Nat.le_refl _) v1).setCell (p := ⟨w.heap.size + 1, 2, none⟩) (Nat.le_refl _) v2).setCell (p := ⟨w.heap.size + 1, 3, none⟩) (Nat.le_refl _) v3
 refine ⟨h.ap hB (by omega), hb.trans (hB.mono (by omega)), c160 ((hB.block _ (by omega)).trans p0), c160 ?_⟩
 rw [hW]
 exact set4 p1 v0 v1 v2 v3
theorem w1_any (p0 : w1.heap[w.heap.size]? = some O160) (hb : Below w.heap.size w w1) (hW : W2 = w1.alloc (.cells #[v0, v1, v2, v3] 189)) :
  Rdr c W2 i d ∧ Below w.heap.size w W2 ∧ C160 w.heap.size W2 (.string ⟨#[]⟩) (.int .i64 0) (.int .i64 0) (.int .i64 0) ∧ C160 w1.heap.size W2 v0 v1 v2 v3 := by
 subst hW
 exact ⟨h.alloc _, hb.alloc hb.size _, c160 ((Below.heap_alloc _ _ _ (lt_of_heap p0)).trans p0), c160 (heap_new _ _)⟩
end
theorem below4 {w W2 : World} {b : Nat} (hb : Below w.heap.size w W2) (h : w.heap.size ≤ b) (v0 v1 v2 v3 : Value) :
  Below w.heap.size w ((((W2.setCell ⟨b, 0, none⟩ v0).setCell ⟨b, 1, none⟩ v1).setCell ⟨b, 2, none⟩ v2).setCell ⟨b, 3, none⟩ v3) :=
 (((hb.setCell (p := ⟨b, 0, none⟩) h _).setCell (p := ⟨b, 1, none⟩) h _).setCell (p := ⟨b, 2, none⟩) h _).setCell (p := ⟨b, 3, none⟩) h _
theorem sign_none (c : Ctx) (k : Int) (s : ByteArray) (w : World) (i d : Nat) (h : Rdr c w i d) (hs : s = fx c.l i) (ho : sgOf s = none) :
  Calls Tryz.prog 293 #[rPtr c, .int .i64 k] w fun e w' => e = .returned (.tuple #[noSg, .bool false]) ∧ Below w.heap.size w w' := by
 have HR0 := hide h
 have HR := hide ((h.alloc O160).drew)
 have HR' := hide (((h.alloc O160).alloc O160).drew)
 have HL : Hid (∀ W : World, Rdr c W i d → (Instr.lookup 199 (.map (some c.mS)) (.string s) true).run Tryz.prog W = .ok (.tuple #[.agg #[.string ⟨#[]⟩, .int .i64 0, .int .i64 0, .int .i64 0], .bool false]) W) := fun W hW => by
  have := look_signs c s W hW.base.signs; rw [ho] at this; exact this
 have hlt := h.rlt
 have HT : Hid (∀ (w : World), Rdr c w i d → Calls Tryz.prog 240 #[rPtr c] w fun e w' => e = .returned (.string s) ∧ Below w.heap.size w w') := fun w h => by rw [hs]; exact fixed_any c w i d h
 clear h hs ho
 go_enter Tryz.func293, Tryz.ntmps293
 go_wp2_with fail
 refine wp_region_held (S := fun W => Rdr c W i d) (by kernel_rfl) ?_
 change wpAnyH _ _ _ _ _ _ _ _ (World.drew _)
 refine wh 0 (rPtr c) HR.out ?_
 refine wh 1 (rPtr c) HR.out ?_
 refine wh 2 (.pointer (some ⟨c.R, 3, none⟩)) HR.out ?_
 refine wg 3 (.map (some c.mS)) rfl (Or.inl ⟨by kernel_rfl, fun W hW => by have hh := Rdr.c3 hW; go_simp⟩) HR.out ?_
 refine wh 4 (rPtr c) HR.out ?_
 refine wpAnyH_ready (rs := [5, 10]) (by kernel_rfl) (by simp) (AllReadyH.cons rfl (fun K hK => ?_) (AllReadyH.cons rfl (fun K hK => ?_) AllReadyH.nil))
 ·
  go_simp; refine cm (HT.out _ HR.out) ?_; rintro e w1 ⟨rfl, hb⟩; obtain ⟨hr1, hbw, p0⟩ := sf_one HR0.out hb; have HR1 := hide hr1; have HW := hide hbw; have P0 := hide p0; clear hb hr1 hbw p0
  refine hK.out _ _ HR1.out (fun _ => ?_); clear hK K
  refine wg 6 (.tuple #[.agg #[.string ⟨#[]⟩, .int .i64 0, .int .i64 0, .int .i64 0], .bool false]) rfl (Or.inl ⟨by kernel_rfl, fun W hW => by have hh := HL.out W hW; go_simp⟩) HR1.out ?_
  refine wh 7 (.tuple #[.agg #[.string ⟨#[]⟩, .int .i64 0, .int .i64 0, .int .i64 0], .bool false]) HR1.out ?_; refine wh 8 (.agg #[.string ⟨#[]⟩, .int .i64 0, .int .i64 0, .int .i64 0]) HR1.out ?_
  refine wh 9 (.bool false) HR1.out ?_; refine wq1 10 fun K hK => ?_; go_simp; refine hK.out _ _ (HR1.out.alloc O160) (fun _ => ?_); clear hK K; refine wq1 11 fun K hK => ?_; go_simp
  obtain ⟨W2, hW2⟩ : ∃ W2, W2 = w1.alloc (.cells #[.string ⟨#[]⟩, .int .i64 0, .int .i64 0, .int .i64 0] 189) := ⟨_, rfl⟩
  obtain ⟨hr2, hb2, ⟨q0, q1, q2, q3, qf, qlt⟩, ⟨s0, s1, s2, s3, sf, slt⟩⟩ := w1_any (v0 := .string ⟨#[]⟩) (v1 := .int .i64 0) (v2 := .int .i64 0) (v3 := .int .i64 0) HR1.out P0.out HW.out hW2; exact zcbu
 ·
  go_simp; refine hK.out _ _ (unhide HR') (fun _ => ?_); clear hK K; refine wq1 5 fun K hK => ?_; go_simp; refine cm (HT.out _ (unhide HR')) ?_; rintro e w1 ⟨rfl, hb⟩; obtain ⟨hr1, hbw, p0, p1⟩ := sf_two HR0.out hb
  obtain ⟨r0, r1, r2, r3, rf, rlt⟩ := c160 p1; have HR1 := hide hr1; have HW := hide hbw; have P0 := hide p0; have P1 := hide p1; clear hb hr1 hbw p0 p1; refine hK.out _ _ HR1.out (fun _ => ?_); clear hK K
  refine wg 6 (.tuple #[.agg #[.string ⟨#[]⟩, .int .i64 0, .int .i64 0, .int .i64 0], .bool false]) rfl (Or.inl ⟨by kernel_rfl, fun W hW => by have hh := HL.out W hW; go_simp⟩) HR1.out ?_
  refine wh 7 (.tuple #[.agg #[.string ⟨#[]⟩, .int .i64 0, .int .i64 0, .int .i64 0], .bool false]) HR1.out ?_; refine wh 8 (.agg #[.string ⟨#[]⟩, .int .i64 0, .int .i64 0, .int .i64 0]) HR1.out ?_
  refine wh 9 (.bool false) HR1.out ?_; refine wq1 11 fun K hK => ?_; go_simp; clear r0 r1 r2 r3 rf rlt
  obtain ⟨W2, hW2⟩ : ∃ W2, W2 = (((w1.setCell ⟨w.heap.size + 1, 0, none⟩ (.string ⟨#[]⟩)).setCell ⟨w.heap.size + 1, 1, none⟩ (.int .i64 0)).setCell ⟨w.heap.size + 1, 2, none⟩ (.int .i64 0)).setCell ⟨w.heap.size + 1, 3, none⟩ (.int .i64 0) := ⟨_, rfl⟩
  obtain ⟨hr2, hb2, ⟨q0, q1, q2, q3, qf, qlt⟩, ⟨s0, s1, s2, s3, sf, slt⟩⟩ := w2_any (v0 := .string ⟨#[]⟩) (v1 := .int .i64 0) (v2 := .int .i64 0) (v3 := .int .i64 0) HR1.out HR0.out.base.size P0.out P1.out HW.out hW2
  exact zcbu
section
variable (c : Ctx) (k : Int) (s : ByteArray) (x : Sg) (w : World) (i d : Nat) (h : Rdr c w i d) (hs : s = fx c.l i) (ho : sgOf s = some x)
include c k s x w i d h hs ho
theorem sign_other (hk : (x.parts == k) = false) :
  Calls Tryz.prog 293 #[rPtr c, .int .i64 k] w fun e w' => e = .returned (.tuple #[noSg, .bool false]) ∧ Below w.heap.size w w' := by
 have HR0 := hide h
 have HR := hide ((h.alloc O160).drew)
 have HR' := hide (((h.alloc O160).alloc O160).drew)
 have HL : Hid (∀ W : World, Rdr c W i d → (Instr.lookup 199 (.map (some c.mS)) (.string s) true).run Tryz.prog W = .ok (.tuple #[.agg #[.string x.tx, .int .i64 x.kd, .int .i64 x.parts, .int .i64 x.str], .bool true]) W) := fun W hW => by
  have := look_signs c s W hW.base.signs; rw [ho] at this; exact this
 have hlt := h.rlt
 have HT : Hid (∀ (w : World), Rdr c w i d → Calls Tryz.prog 240 #[rPtr c] w fun e w' => e = .returned (.string s) ∧ Below w.heap.size w w') := fun w h => by rw [hs]; exact fixed_any c w i d h
 clear h hs ho
 go_enter Tryz.func293, Tryz.ntmps293
 go_wp2_with fail
 refine wp_region_held (S := fun W => Rdr c W i d) (by kernel_rfl) ?_
 change wpAnyH _ _ _ _ _ _ _ _ (World.drew _)
 refine wh 0 (rPtr c) HR.out ?_
 refine wh 1 (rPtr c) HR.out ?_
 refine wh 2 (.pointer (some ⟨c.R, 3, none⟩)) HR.out ?_
 refine wg 3 (.map (some c.mS)) rfl (Or.inl ⟨by kernel_rfl, fun W hW => by have hh := Rdr.c3 hW; go_simp⟩) HR.out ?_
 refine wh 4 (rPtr c) HR.out ?_
 refine wpAnyH_ready (rs := [5, 10]) (by kernel_rfl) (by simp) (AllReadyH.cons rfl (fun K hK => ?_) (AllReadyH.cons rfl (fun K hK => ?_) AllReadyH.nil))
 ·
  go_simp; refine cm (HT.out _ HR.out) ?_; rintro e w1 ⟨rfl, hb⟩; obtain ⟨hr1, hbw, p0⟩ := sf_one HR0.out hb; have HR1 := hide hr1; have HW := hide hbw; have P0 := hide p0; clear hb hr1 hbw p0
  refine hK.out _ _ HR1.out (fun _ => ?_); clear hK K
  refine wg 6 (.tuple #[.agg #[.string x.tx, .int .i64 x.kd, .int .i64 x.parts, .int .i64 x.str], .bool true]) rfl (Or.inl ⟨by kernel_rfl, fun W hW => by have hh := HL.out W hW; go_simp⟩) HR1.out ?_
  refine wh 7 (.tuple #[.agg #[.string x.tx, .int .i64 x.kd, .int .i64 x.parts, .int .i64 x.str], .bool true]) HR1.out ?_; refine wh 8 (.agg #[.string x.tx, .int .i64 x.kd, .int .i64 x.parts, .int .i64 x.str]) HR1.out ?_
  refine wh 9 (.bool true) HR1.out ?_; refine wq1 10 fun K hK => ?_; go_simp; refine hK.out _ _ (HR1.out.alloc O160) (fun _ => ?_); clear hK K; refine wq1 11 fun K hK => ?_; go_simp
  obtain ⟨W2, hW2⟩ : ∃ W2, W2 = w1.alloc (.cells #[.string x.tx, .int .i64 x.kd, .int .i64 x.parts, .int .i64 x.str] 189) := ⟨_, rfl⟩
  obtain ⟨hr2, hb2, ⟨q0, q1, q2, q3, qf, qlt⟩, ⟨s0, s1, s2, s3, sf, slt⟩⟩ := w1_any (v0 := .string x.tx) (v1 := .int .i64 x.kd) (v2 := .int .i64 x.parts) (v3 := .int .i64 x.str) HR1.out P0.out HW.out hW2; exact zcbv
 ·
  go_simp; refine hK.out _ _ (unhide HR') (fun _ => ?_); clear hK K; refine wq1 5 fun K hK => ?_; go_simp; refine cm (HT.out _ (unhide HR')) ?_; rintro e w1 ⟨rfl, hb⟩; obtain ⟨hr1, hbw, p0, p1⟩ := sf_two HR0.out hb
  obtain ⟨r0, r1, r2, r3, rf, rlt⟩ := c160 p1; have HR1 := hide hr1; have HW := hide hbw; have P0 := hide p0; have P1 := hide p1; clear hb hr1 hbw p0 p1; refine hK.out _ _ HR1.out (fun _ => ?_); clear hK K
  refine wg 6 (.tuple #[.agg #[.string x.tx, .int .i64 x.kd, .int .i64 x.parts, .int .i64 x.str], .bool true]) rfl (Or.inl ⟨by kernel_rfl, fun W hW => by have hh := HL.out W hW; go_simp⟩) HR1.out ?_
  refine wh 7 (.tuple #[.agg #[.string x.tx, .int .i64 x.kd, .int .i64 x.parts, .int .i64 x.str], .bool true]) HR1.out ?_; refine wh 8 (.agg #[.string x.tx, .int .i64 x.kd, .int .i64 x.parts, .int .i64 x.str]) HR1.out ?_
  refine wh 9 (.bool true) HR1.out ?_; refine wq1 11 fun K hK => ?_; go_simp; clear r0 r1 r2 r3 rf rlt
  obtain ⟨W2, hW2⟩ : ∃ W2, W2 = (((w1.setCell ⟨w.heap.size + 1, 0, none⟩ (.string x.tx)).setCell ⟨w.heap.size + 1, 1, none⟩ (.int .i64 x.kd)).setCell ⟨w.heap.size + 1, 2, none⟩ (.int .i64 x.parts)).setCell ⟨w.heap.size + 1, 3, none⟩ (.int .i64 x.str) := ⟨_, rfl⟩
  obtain ⟨hr2, hb2, ⟨q0, q1, q2, q3, qf, qlt⟩, ⟨s0, s1, s2, s3, sf, slt⟩⟩ := w2_any (v0 := .string x.tx) (v1 := .int .i64 x.kd) (v2 := .int .i64 x.parts) (v3 := .int .i64 x.str) HR1.out HR0.out.base.size P0.out P1.out HW.out hW2
  exact zcbv
theorem sign_some (hk : (x.parts == k) = true) :
  Calls Tryz.prog 293 #[rPtr c, .int .i64 k] w fun e w' => e = .returned (.tuple #[sgV x, .bool true]) ∧ Below w.heap.size w w' := by
 have HR0 := hide h
 have HR := hide ((h.alloc O160).drew)
 have HR' := hide (((h.alloc O160).alloc O160).drew)
 have HL : Hid (∀ W : World, Rdr c W i d → (Instr.lookup 199 (.map (some c.mS)) (.string s) true).run Tryz.prog W = .ok (.tuple #[.agg #[.string x.tx, .int .i64 x.kd, .int .i64 x.parts, .int .i64 x.str], .bool true]) W) := fun W hW => by
  have := look_signs c s W hW.base.signs; rw [ho] at this; exact this
 have hlt := h.rlt
 have HT : Hid (∀ (w : World), Rdr c w i d → Calls Tryz.prog 240 #[rPtr c] w fun e w' => e = .returned (.string s) ∧ Below w.heap.size w w') := fun w h => by rw [hs]; exact fixed_any c w i d h
 clear h hs ho
 go_enter Tryz.func293, Tryz.ntmps293
 go_wp2_with fail
 refine wp_region_held (S := fun W => Rdr c W i d) (by kernel_rfl) ?_
 change wpAnyH _ _ _ _ _ _ _ _ (World.drew _)
 refine wh 0 (rPtr c) HR.out ?_
 refine wh 1 (rPtr c) HR.out ?_
 refine wh 2 (.pointer (some ⟨c.R, 3, none⟩)) HR.out ?_
 refine wg 3 (.map (some c.mS)) rfl (Or.inl ⟨by kernel_rfl, fun W hW => by have hh := Rdr.c3 hW; go_simp⟩) HR.out ?_
 refine wh 4 (rPtr c) HR.out ?_
 refine wpAnyH_ready (rs := [5, 10]) (by kernel_rfl) (by simp) (AllReadyH.cons rfl (fun K hK => ?_) (AllReadyH.cons rfl (fun K hK => ?_) AllReadyH.nil))
 ·
  go_simp; refine cm (HT.out _ HR.out) ?_; rintro e w1 ⟨rfl, hb⟩; obtain ⟨hr1, hbw, p0⟩ := sf_one HR0.out hb; have HR1 := hide hr1; have HW := hide hbw; have P0 := hide p0; clear hb hr1 hbw p0
  refine hK.out _ _ HR1.out (fun _ => ?_); clear hK K
  refine wg 6 (.tuple #[.agg #[.string x.tx, .int .i64 x.kd, .int .i64 x.parts, .int .i64 x.str], .bool true]) rfl (Or.inl ⟨by kernel_rfl, fun W hW => by have hh := HL.out W hW; go_simp⟩) HR1.out ?_
  refine wh 7 (.tuple #[.agg #[.string x.tx, .int .i64 x.kd, .int .i64 x.parts, .int .i64 x.str], .bool true]) HR1.out ?_; refine wh 8 (.agg #[.string x.tx, .int .i64 x.kd, .int .i64 x.parts, .int .i64 x.str]) HR1.out ?_
  refine wh 9 (.bool true) HR1.out ?_; refine wq1 10 fun K hK => ?_; go_simp; refine hK.out _ _ (HR1.out.alloc O160) (fun _ => ?_); clear hK K; refine wq1 11 fun K hK => ?_; go_simp
  obtain ⟨W2, hW2⟩ : ∃ W2, W2 = w1.alloc (.cells #[.string x.tx, .int .i64 x.kd, .int .i64 x.parts, .int .i64 x.str] 189) := ⟨_, rfl⟩
  obtain ⟨hr2, hb2, ⟨q0, q1, q2, q3, qf, qlt⟩, ⟨s0, s1, s2, s3, sf, slt⟩⟩ := w1_any (v0 := .string x.tx) (v1 := .int .i64 x.kd) (v2 := .int .i64 x.parts) (v3 := .int .i64 x.str) HR1.out P0.out HW.out hW2; exact zbcu
 ·
  go_simp; refine hK.out _ _ (unhide HR') (fun _ => ?_); clear hK K; refine wq1 5 fun K hK => ?_; go_simp; refine cm (HT.out _ (unhide HR')) ?_; rintro e w1 ⟨rfl, hb⟩; obtain ⟨hr1, hbw, p0, p1⟩ := sf_two HR0.out hb
  obtain ⟨r0, r1, r2, r3, rf, rlt⟩ := c160 p1; have HR1 := hide hr1; have HW := hide hbw; have P0 := hide p0; have P1 := hide p1; clear hb hr1 hbw p0 p1; refine hK.out _ _ HR1.out (fun _ => ?_); clear hK K
  refine wg 6 (.tuple #[.agg #[.string x.tx, .int .i64 x.kd, .int .i64 x.parts, .int .i64 x.str], .bool true]) rfl (Or.inl ⟨by kernel_rfl, fun W hW => by have hh := HL.out W hW; go_simp⟩) HR1.out ?_
  refine wh 7 (.tuple #[.agg #[.string x.tx, .int .i64 x.kd, .int .i64 x.parts, .int .i64 x.str], .bool true]) HR1.out ?_; refine wh 8 (.agg #[.string x.tx, .int .i64 x.kd, .int .i64 x.parts, .int .i64 x.str]) HR1.out ?_
  refine wh 9 (.bool true) HR1.out ?_; refine wq1 11 fun K hK => ?_; go_simp; clear r0 r1 r2 r3 rf rlt
  obtain ⟨W2, hW2⟩ : ∃ W2, W2 = (((w1.setCell ⟨w.heap.size + 1, 0, none⟩ (.string x.tx)).setCell ⟨w.heap.size + 1, 1, none⟩ (.int .i64 x.kd)).setCell ⟨w.heap.size + 1, 2, none⟩ (.int .i64 x.parts)).setCell ⟨w.heap.size + 1, 3, none⟩ (.int .i64 x.str) := ⟨_, rfl⟩
  obtain ⟨hr2, hb2, ⟨q0, q1, q2, q3, qf, qlt⟩, ⟨s0, s1, s2, s3, sf, slt⟩⟩ := w2_any (v0 := .string x.tx) (v1 := .int .i64 x.kd) (v2 := .int .i64 x.parts) (v3 := .int .i64 x.str) HR1.out HR0.out.base.size P0.out P1.out HW.out hW2
  exact zbcu
end
theorem sign_any (c : Ctx) (k : Int) (w : World) (i d : Nat) (h : Rdr c w i d) :
  Calls Tryz.prog 293 #[rPtr c, .int .i64 k] w fun e w' => e = .returned (.tuple #[sgVO (sgP k (fx c.l i)), .bool (sgP k (fx c.l i)).isSome]) ∧ Below w.heap.size w w' := by
 cases ho : sgOf (fx c.l i) with
 | none =>
  have : sgP k (fx c.l i) = none := by simp [sgP, ho]
  rw [this]; exact sign_none c k _ w i d h rfl ho
 | some x =>
  cases hk : x.parts == k with
  | false =>
   have : sgP k (fx c.l i) = none := by simp [sgP, ho, Option.filter, hk]
   rw [this]; exact sign_other c k _ x w i d h rfl ho hk
  | true =>
   have : sgP k (fx c.l i) = some x := by simp [sgP, ho, Option.filter, hk]
   rw [this]; exact sign_some c k _ x w i d h rfl ho hk
structure FC (c : Ctx) (F : Fns) : Prop where
 st : Does c 176 NV F.st
 vl : Does c 243 NV F.vl
 pr : ∀ b : Int, 2 ≤ b → b ≤ 8 → ∀ w d i r, F.pr b d i = r → r ≠ .out → Rdr c w i d → Calls Tryz.prog 281 #[rPtr c, .int .i64 b] w (PPost c w d (NV w.heap.size) r)
 sg : Does c 292 NV F.sg
theorem en140 : ∀ args W, (callFunc 176 args).run Tryz.prog W = .ok (.enter 176 args) W := fun _ _ => by kernel_rfl
theorem en179 : ∀ args W, (callFunc 243 args).run Tryz.prog W = .ok (.enter 243 args) W := fun _ _ => by kernel_rfl
theorem en232 : ∀ args W, (callFunc 292 args).run Tryz.prog W = .ok (.enter 292 args) W := fun _ _ => by kernel_rfl
section
variable {c : Ctx} {F : Fns} (hF : FC c F) (w : World) (d i : Nat) (h : Rdr c w i d)
include c F hF w d i h
theorem deepV (ho : deepP c.l F.vl d i ≠ .out) : Calls Tryz.prog 175 #[rPtr c, boundV c.R 243] w (PPost c w d (NV w.heap.size) (deepP c.l F.vl d i)) :=
 deeper_any c 243 F.vl hF.vl en179 w d i _ rfl ho h
theorem deepS (ho : deepP c.l F.st d i ≠ .out) : Calls Tryz.prog 175 #[rPtr c, boundV c.R 176] w (PPost c w d (NV w.heap.size) (deepP c.l F.st d i)) :=
 deeper_any c 176 F.st hF.st en140 w d i _ rfl ho h
theorem deepG (ho : deepP c.l F.sg d i ≠ .out) : Calls Tryz.prog 175 #[rPtr c, boundV c.R 292] w (PPost c w d (NV w.heap.size) (deepP c.l F.sg d i)) :=
 deeper_any c 292 F.sg hF.sg en232 w d i _ rfl ho h
end
theorem bind_ok {α β : Type} (x : α) (i : Nat) (f : α → Nat → PR β) : (PR.ok x i).bind f = f x i := rfl
theorem bind_bad {α β : Type} (er : Int) (p : Nat) (f : α → Nat → PR β) : (PR.bad er p : PR α).bind f = .bad er p := rfl
theorem bind_out {α β : Type} (f : α → Nat → PR β) : (PR.out : PR α).bind f = .out := rfl
abbrev From (B : Nat) : Nat → Prop := fun b => B ≤ b
theorem nat_later {c : Ctx} {B : Nat} {w w' : World} {t : Tr} {p : Nat} (h : NAt (From B) w t p) (ha : Ap c.R w.heap.size w w') (hB : c.R < B) : NAt (From B) w' t p :=
 NAt.later (Stay.of_ap ha hB fun _ h => h) _ _ h
theorem nat_mono {B B' : Nat} {w : World} {t : Tr} {p : Nat} (h : NAt (From B) w t p) (hB : B' ≤ B) : NAt (From B') w t p := NAt.mono (fun _ h _ => Nat.le_trans hB h) _ _ h
theorem nats_pair {c : Ctx} {B : Nat} {w w' : World} {t u : Tr} {p q : Nat} (h : NAt (From B) w t p) (ha : Ap c.R w.heap.size w w') (hR : c.R < B) (hB : B ≤ w.heap.size) (h2 : NAt (From w.heap.size) w' u q) : NAts (From B) w' [t, u] [p, q] :=
 NAts.pair (M := w.heap.size) (NAt.later (I := fun b => From B b ∧ b < w.heap.size) (Stay.of_ap ha hR fun _ h => h.1) _ _ (NAt.mono (fun _ hb hl => ⟨hb, hl⟩) _ _ h)) (NAt.mono (fun _ hb _ => ⟨Nat.le_trans hB hb, hb⟩) _ _ h2)
section
variable {c : Ctx} {w W : World} {j d : Nat} {ts : List Tr}
include c w W j d ts
theorem made {ps : List Nat} (hR : Rdr c W j d) (hA : Ap c.R w.heap.size w W) (hn : NAts (From w.heap.size) W ts ps) (hl : ps.length ≤ maxLen) (cs : Array Value) (hc : cs.toList = ps.map nPtr) (n : Nat) (hlen : ps.length = n) (kd : Int) (tx : ByteArray) (q : Nat) (hq : q = W.heap.size + 1) :
  EV w.heap.size ((W.alloc (.cells cs 22)).alloc (nodeObj kd tx 0 (.slice (some ⟨W.heap.size, 0, none⟩) n n))) (.mk kd tx 0 ts) (nPtr q) ∧
  Rdr c ((W.alloc (.cells cs 22)).alloc (nodeObj kd tx 0 (.slice (some ⟨W.heap.size, 0, none⟩) n n))) j d ∧
  Ap c.R w.heap.size w ((W.alloc (.cells cs 22)).alloc (nodeObj kd tx 0 (.slice (some ⟨W.heap.size, 0, none⟩) n n))) := by
 subst hlen
 have hs : q = (W.alloc (.cells cs 22)).heap.size := by rw [hq]; simp
 rw [hs]
 exact ⟨EV.new (KV.row hn hA.size hl cs hc) (by simp; have := hA.size; omega) kd tx 0, (hR.alloc _).alloc _, (hA.alloc hA.size _).alloc (by simp; have := hA.size; omega) _⟩
theorem made0 {v : Value} (hR : Rdr c W j d) (hA : Ap c.R w.heap.size w W) (hn : KV w.heap.size W ts v) (kd : Int) (tx : ByteArray) (q : Nat) (hq : q = W.heap.size) :
  EV w.heap.size (W.alloc (nodeObj kd tx 0 v)) (.mk kd tx 0 ts) (nPtr q) ∧ Rdr c (W.alloc (nodeObj kd tx 0 v)) j d ∧ Ap c.R w.heap.size w (W.alloc (nodeObj kd tx 0 v)) := by
 subst hq
 exact ⟨EV.new hn hA.size kd tx 0, hR.alloc _, hA.alloc hA.size _⟩
end
theorem inPar_any {c : Ctx} {F : Fns} (hF : FC c F) : Does c 171 NV (inParP c.l F) := by
 have hmf := mf_bound c.R 243
 intro w d i r hs ho h
 have HR0 := hide h
 have HA0 := hide (Ap.refl c.R w.heap.size w)
 have HLT := hide h.rlt
 unfold inParP at hs
 have HS := hide hs
 have HO := hide ho
 clear h hs ho
 go_enter Tryz.func171, Tryz.ntmps171
 cases hr : mustP c.l tOpen i with
 | out =>
  exact zbak
 | bad er p =>
  have HC := hide (must_any c tOpen w i d HR0.out (by decide)); exact zbas
 | ok x1 j1 =>
  have HC := hide (must_any c tOpen w i d HR0.out (by decide)); rw [hr] at HC HS; simp only [bind_ok] at HS; clear hr; go_wp2_with fail; refine cm HC.out ?_; intro e w1 hp; obtain ⟨⟨v1, rfl, rfl⟩, hrd, ha⟩ := hp; clear HC
  have HA1 := hide (HA0.out.next ha); have HR1 := hide hrd; clear hrd ha HA0 HR0
  cases hr : deepP c.l F.vl d j1 with
  | out =>
   exact zbak
  | bad er p =>
   have HC := hide (deepV hF w1 d j1 HR1.out (by rw [hr]; nofun))
   exact zbbz
  | ok x2 j2 =>
   have HC := hide (deepV hF w1 d j1 HR1.out (by rw [hr]; nofun))
   rw [hr] at HC HS; simp only [bind_ok] at HS; clear hr; go_wp2_with fail; refine cm HC.out ?_; intro e w2 hp; obtain ⟨⟨v2, rfl, p2, rfl, hn2⟩, hrd, ha⟩ := hp; clear HC; have HA2 := hide (HA1.out.next ha)
   have HR2 := hide hrd; have HN2 := hide (nat_mono hn2 HA1.out.size); clear hn2; clear hrd ha HA1 HR1
   cases hr : mustP c.l tShut j2 with
   | out =>
    exact zbak
   | bad er p =>
    have HC := hide (must_any c tShut w2 j2 d HR2.out (by decide)); exact zbby
   | ok x3 j3 =>
    have HC := hide (must_any c tShut w2 j2 d HR2.out (by decide)); rw [hr] at HC HS; simp only [bind_ok] at HS; clear hr; go_wp2_with fail; refine cm HC.out ?_; intro e w3 hp; obtain ⟨⟨v3, rfl, rfl⟩, hrd, ha⟩ := hp
    clear HC; have HA3 := hide (HA2.out.next ha); have HR3 := hide hrd; replace HN2 := hide (nat_later HN2.out ha HLT.out); clear hrd ha HA2 HR2; go_wp2_with fail; go_ret
    exact ppOk HS.out.symm ⟨p2, rfl, HN2.out⟩ HR3.out HA3.out
theorem info22 : (Tryz.prog.info? 22).map (fun i => (i.zero, i.size, i.bytes)) = some (some (.pointer none), 1, 8) := by kernel_rfl
section
variable {B : Nat} {w : World} {ts : List Tr} {v : Value} (h : KV B w ts v)
include B w ts v h
theorem KV.shape : ∃ a cap, v = .slice a ts.length cap := by
 obtain ⟨ps, hr, hk⟩ := h
 rw [← NAts.length _ _ hk]
 exact row_shut hr
theorem KV.own (g : Nat) (hg : v.ownBlock = some g) : g < w.heap.size ∧ B ≤ g := by
 obtain ⟨ps, hr, _⟩ := h
 exact own_lt hr g hg
end
theorem KV.mono {B B' : Nat} {w : World} {ts : List Tr} {v : Value} (h : KV B w ts v) (hB : B' ≤ B) : KV B' w ts v := by
 obtain ⟨ps, hr, hk⟩ := h
 refine ⟨ps, ⟨hr.1, ?_⟩, NAts.mono (fun b h _ => ⟨by omega, h.2⟩) _ _ hk⟩
 exact zbfw
theorem kv_push {B : Nat} {w1 w3 : World} {ts us : List Tr} {v : Value} {ps qs : List Nat} {g cap n : Nat} {o : Obj} (hk : NAts (fun b => B ≤ b ∧ v.ownBlock ≠ some b) w1 (ts ++ us) (ps ++ qs))
  (hown : w3.ownsRow B 22 1 (.slice (some ⟨g, 0, none⟩) n cap) n ((ps ++ qs).map nPtr)) (hn : n = (ps ++ qs).length) (hgr : (w1.alloc o).grownBy w3 v.ownBlock)
  (hg : v.ownBlock = some g ∨ g = w1.heap.size + 1) : KV B w3 (ts ++ us) (.slice (some ⟨g, 0, none⟩) n cap) := by
 subst hn
 refine ⟨ps ++ qs, hown, ?_⟩
 have hs : Stay (fun b => B ≤ b ∧ b ≠ g ∧ v.ownBlock ≠ some b) w1 w3 := by
  intro b hb hl; have h1 : Below w1.heap.size w1 (w1.alloc o) := (Below.refl _ _).alloc (Nat.le_refl _) _; rw [← h1.block b hl]; exact hgr.block b (by simp; omega) (fun e => hb.2.2 e.symm)
 have h0 := NAts.mono (J := fun b => B ≤ b ∧ b ≠ g ∧ v.ownBlock ≠ some b) (fun b hb hl => ⟨hb.1, fun e => by (rcases hg with hg | hg); (exact hb.2 (by rw [hg, e])); omega, hb.2⟩) _ _ hk
 exact NAts.mono (fun b hb _ => ⟨hb.1, fun e => by simp only [Value.ownBlock, Option.some.injEq] at e; exact hb.2.1 e.symm⟩) _ _ (NAts.later hs _ _ h0)
def nxt (c : Ctx) (w : World) : Nat := match w.cell? ⟨c.R, 1, none⟩ with | some (.int _ v) => v.toNat | _ => 0
theorem nxt_eq {c : Ctx} {w : World} {i d : Nat} (h : Rdr c w i d) : nxt c w = i := by unfold nxt; rw [h.c1]; rfl
theorem one_cells (w : World) (p H : Nat) (h : w.heap.size = H) : ∀ j u, [nPtr p][j]? = some u → (w.alloc (.cells #[nPtr p] 22)).cell? ((⟨H, 0, none⟩ : Addr).add j) = some u := by
 intro j u hj
 match j, hj with
 | 0, hj =>
  simp only [List.getElem?_cons_zero, Option.some.injEq] at hj; subst hj; subst h; rw [show (⟨w.heap.size, 0, none⟩ : Addr).add 0 = ⟨w.heap.size, 0, none⟩ from rfl, cell_of (heap_new _ _)]; rfl
 | j + 1, hj => simp at hj
theorem one_one (p : Nat) : ∀ u ∈ [nPtr p], u.oneCell' = true := by
 intro u hu
 simp only [List.mem_singleton] at hu
 subst hu; rfl
theorem apart_own {c : Ctx} {B : Nat} {w w1 : World} {ts : List Tr} {v : Value} {t : Tr} {p : Nat} (hk : KV B w ts v) (hB : B ≤ w.heap.size) (ha : Ap c.R w.heap.size w w1) (hR : c.R < B) (hn : NAt (From w.heap.size) w1 t p) :
  ∃ ps, w1.ownsRow B 22 1 v ps.length (ps.map nPtr) ∧ NAts (fun b => B ≤ b ∧ v.ownBlock ≠ some b) w1 ts ps ∧ NAts (fun b => B ≤ b ∧ v.ownBlock ≠ some b) w1 (ts ++ [t]) (ps ++ [p]) := by
 have hown := hk.own
 obtain ⟨ps, hr, hs⟩ := hk
 have h1 := NAts.later (I := fun b => (B ≤ b ∧ v.ownBlock ≠ some b) ∧ b < w.heap.size) (Stay.of_ap ha hR fun _ h => h.1.1) _ _ (NAts.mono (fun _ hb hl => ⟨hb, hl⟩) _ _ hs)
 exact zbdc
theorem block_any {c : Ctx} {F : Fns} (hF : FC c F) (hN : ∃ k, FNx c.l k F) : Does c 165 EV (blockP c.l F) := by
 have hmf := mf_bound c.R 176
 intro w d i r hs ho h
 have HR0 := hide h
 have HE := hide h.base.ends
 have HL := hide h.base.len
 have HLO := hide h.base.size
 obtain ⟨i0, hi0, hz0, hz1, hz2⟩ := info_parts info22
 have HA0 := hide (Ap.refl c.R w.heap.size w)
 have HLT := hide h.rlt
 have HFC := hide hF
 have HNX := hide hN
 unfold blockP at hs
 have HS := hide hs
 have HO := hide ho
 clear h hs ho hF hN
 go_enter Tryz.func165, Tryz.ntmps165
 cases hr : mustP c.l tLBrace i with
 | out =>
  exact zbak
 | bad er p =>
  have HC := hide (must_any c tLBrace w i d HR0.out (by decide)); exact zbas
 | ok x1 j1 =>
  have HC := hide (must_any c tLBrace w i d HR0.out (by decide)); rw [hr] at HC HS; simp only [bind_ok] at HS; clear hr; go_wp2_with fail; refine cm HC.out ?_; intro e w1 hp; obtain ⟨⟨v1, rfl, rfl⟩, hrd, ha⟩ := hp
  have HA1 := hide (HA0.out.next ha); have HR1 := hide hrd; clear hrd ha HC HA0 HR0; go_wp2_with fail
  go_loopw [3] (fun v wr => ∃ k acc j, (blockLoop c.l F d k acc j).bind (fun ts i2 => PR.ok (.mk 6 noText 0 ts) i2) = r ∧ Rdr c wr j d ∧ Ap c.R w.heap.size w wr ∧ KV w.heap.size wr acc v ∧ acc.length ≤ j) (fun _ wr => c.l.length - nxt c wr)
  case atStart => exact ⟨F.fuel, [], j1, HS.out, HR1.out, HA1.out, KV.nil _ _, Nat.zero_le _⟩
  case round =>
   obtain ⟨k, acc, j, hq, hrd, hap, hkv, hle⟩ := hrel
   cases k with
   | zero => exact absurd hq.symm HO.out
   | succ k =>
    have hL := unhide HL; have hjl := hrd.lt; have HR2 := hide hrd; have HRM := hide hrd; have HA2 := hide hap; have HK2 := hide hkv; have HLE := hide hle
    by_cases hx : fx c.l j = tRBrace
    ·
     have HQ : Hid (PR.ok (.mk 6 noText 0 acc) (j + 1) = r) := by
      unfold blockLoop at hq; rw [if_pos hx, bind_ok] at hq; exact hq
     have HC := hide (take_yes c tRBrace wr j d hrd hx (by decide)); obtain ⟨va, vc, rfl⟩ := hkv.shape; clear hq hrd hap hkv hle hx; go_wp2_with fail; refine cm HC.out ?_; rintro e w3 ⟨rfl, hr3, ha3⟩
     have HA3 := hide (HA2.out.next ha3); have HR3 := hide hr3; have HK3 := hide (KV.later HK2.out ha3 HLT.out); clear hr3 ha3 HC HA2 HR2 HK2; have HC := hide (node_any 6 noText (.slice va acc.length vc) w3 ⟨_, _, _, rfl⟩)
     go_wp2_with fail; refine cm HC.out ?_; rintro e wn ⟨rfl, rfl⟩; clear HC; go_wp2_with fail; go_ret; obtain ⟨m1, m2, m3⟩ := made0 HR3.out HA3.out HK3.out 6 noText _ rfl; exact ppOk HQ.out.symm m1 m2 m3
    ·
     have HQ : Hid ((deepP c.l F.st d j).bind (fun t i1 => (blockLoop c.l F d k (acc ++ [t]) i1).bind fun ts i2 => PR.ok (.mk 6 noText 0 ts) i2) = r) := by
      unfold blockLoop at hq; rw [if_neg hx] at hq; rw [← hq]
      cases deepP c.l F.st d j <;> rfl
     have HC := hide (take_not c tRBrace wr j d hrd hx); clear hq hrd hap hkv hle hx
     cases hr : deepP c.l F.st d j with
     | out =>
      exact zbfk
     | bad er p =>
      have HRR := hide hr; rw [hr] at HQ; simp only [bind_bad] at HQ; clear hr; go_wp2_with fail; refine cm HC.out ?_; rintro e w3 ⟨rfl, hb3⟩; have HA3 := hide (HA2.out.next (Ap.of hb3))
      have HR3 := hide (HR2.out.later hb3); clear hb3 HC HA2 HR2; have HC := hide (deepS HFC.out w3 d j HR3.out (by rw [HRR.out]; nofun))
      exact zbfd
     | ok t j2 =>
      have HRR := hide hr; rw [hr] at HQ; simp only [bind_ok] at HQ; clear hr; go_wp2_with fail; refine cm HC.out ?_; rintro e w3 ⟨rfl, hb3⟩; have HA3 := hide (HA2.out.next (Ap.of hb3))
      have HR3 := hide (HR2.out.later hb3); have HK3 := hide (KV.later HK2.out (Ap.of hb3) HLT.out); clear hb3 HC HA2 HR2 HK2; have HC := hide (deepS HFC.out w3 d j HR3.out (by rw [HRR.out]; nofun))
      rw [HRR.out] at HC; go_wp2_with fail; refine cm HC.out ?_; intro e w4 hp; obtain ⟨⟨v4, rfl, p4, rfl, hn4⟩, hrd, ha⟩ := hp; have HA4 := hide (HA3.out.next ha); have HR4 := hide hrd
      have HN4 := hide (apart_own HK3.out HA3.out.size ha HLT.out hn4); have HK4 := hide (KV.later HK3.out ha HLT.out); have hlt2 := hrd.lt; have hgt : j < j2 := by
       obtain ⟨kk, hkk⟩ := unhide HNX; exact ((deepP_nx (l := c.l) (d := d) (hkk.st (d + 1) j hjl)).2 t j2 HRR.out).1
      clear hrd ha hn4 HC HA3 HR3 HK3; obtain ⟨ps, hown, hk4, hkt⟩ := unhide HN4; have hlen := NAts.length _ _ hk4; have hOB := own_lt hown; rw [hlen] at hown; have HOWN := hide hown; have HLEN := hide hlen
      have HKK := hide hkt; have hsz := HA4.out.size; have hle := unhide HLE; have HOB := hide hOB; clear hown hk4 hkt HK4 HN4 hOB hlen
      go_wp2_with (at_builtin; refine wpList_append_lies _ rfl _ _ 46 rfl w.heap.size 22 i0 (.pointer none) 1 8 Tryz.underlying46 hi0 hz0 hz1 hz2 rfl (by decide) _ _ _ rfl (HOWN.out.alloc _) ⟨w4.heap.size, 0, none⟩ 1 1 [nPtr p4] rfl rfl (one_cells w4 p4 _ rfl) (one_one p4) (by decide) (by unfold maxLen; omega) (by omega) (by simp; omega) (w4.heap.size + 1) (by simp) ?_)
      intro g cap w5 hown' hgrow hg _
      have HK5 : Hid (KV w.heap.size w5 (acc ++ [t]) (.slice (some ⟨g, 0, none⟩) (acc.length + 1) cap)) := kv_push HKK.out (by rw [List.map_append]; exact hown') (by simp [HLEN.out]) hgrow hg
      have HA5 := hide ((HA4.out.alloc hsz (.cells #[nPtr p4] 22)).grown hgrow (by simp; omega) (fun k hk => (unhide HOB k hk).2))
      have HR5 := hide (HR4.out.ap (((Below.refl w.heap.size w4).alloc hsz (.cells #[nPtr p4] 22)).grown hgrow (by simp; omega) (fun k hk => (unhide HOB k hk).2)) HLO.out)
      clear hown' hgrow hg HKK HOWN; go_wp2_with fail
      go_roundw
      case rel => exact ⟨k, acc ++ [t], j2, HQ.out, HR5.out, HA5.out, HK5.out, by simp; omega⟩
      case measure => rw [nxt_eq HR5.out, nxt_eq HRM.out]; omega
def Asks (c : Ctx) (f : Nat) (b : Nat → Bool) : Prop :=
 ∀ w d i, Rdr c w i d → Calls Tryz.prog f #[rPtr c] w fun e w' => e = .returned (.bool (b i)) ∧ Below w.heap.size w w'
def LV (B : Nat) (w : World) (ts : List Tr) (v : Value) : Prop := KV B w ts v ∧ (ts = [] → v = .slice none 0 0) ∧ ts.length ≤ 3001
theorem list_any {c : Ctx} (fb fp : Nat) (begins : Nat → Bool) (sp : Nat → Nat → PR Tr) (opn shut : ByteArray) (hb : Asks c fb begins) (hp : Does c fp NV sp)
  (enb : ∀ args W, (callFunc fb args).run Tryz.prog W = .ok (.enter fb args) W) (enp : ∀ args W, (callFunc fp args).run Tryz.prog W = .ok (.enter fp args) W)
  (hno : opn ≠ noText) (hns : shut ≠ noText) (hgo : ∀ d i t j, i < c.l.length → sp d i = .ok t j → i < j)
  (k : Nat) (w : World) (d i : Nat) (r : PR (List Tr)) (hs : listP c.l opn shut begins (sp d) k i = r) (ho : r ≠ .out) (h : Rdr c w i d) :
  Calls Tryz.prog 246 #[rPtr c, .string opn, .string shut, boundV c.R fb, boundV c.R fp] w (PPost c w d (LV w.heap.size) r) := by
 have HR0 := hide h
 have HL := hide h.base.len
 have HLO := hide h.base.size
 obtain ⟨i0, hi0, hz0, hz1, hz2⟩ := info_parts info22
 have HA0 := hide (Ap.refl c.R w.heap.size w)
 have HLT := hide h.rlt
 have HB := hide hb
 have HP := hide hp
 have HNO := hide hno
 have HNS := hide hns
 have HGO := hide hgo
 unfold listP at hs
 have HS := hide hs
 have HO := hide ho
 clear h hs ho hb hp hno hns hgo
 unfold boundV
 go_enter Tryz.func246, Tryz.ntmps246
 cases hr : mustP c.l opn i with
 | out =>
  exact zbak
 | bad er p =>
  have HC := hide (must_any c opn w i d HR0.out HNO.out); exact zbas
 | ok x1 j1 =>
  have HC := hide (must_any c opn w i d HR0.out HNO.out); rw [hr] at HC HS; simp only [bind_ok] at HS; clear hr; go_wp2_with fail; refine cm HC.out ?_; intro e w1 hp; obtain ⟨⟨v1, rfl, rfl⟩, hrd, ha⟩ := hp
  have HA1 := hide (HA0.out.next ha); have HR1 := hide hrd; clear hrd ha HC HA0 HR0
  by_cases hx : fx c.l j1 = shut
  ·
   have HC := hide (take_yes c shut w1 j1 d HR1.out hx HNS.out); rw [if_pos hx] at HS; clear hx; go_wp2_with fail; refine cm HC.out ?_; rintro e w2 ⟨rfl, hr2, ha2⟩; have HA2 := hide (HA1.out.next ha2); have HR2 := hide hr2
   clear hr2 ha2; go_wp2_with fail; go_ret; exact ppOk HS.out.symm ⟨KV.nil _ _, fun _ => rfl, by simp⟩ HR2.out HA2.out
  ·
   have HC := hide (take_not c shut w1 j1 d HR1.out hx); rw [if_neg hx] at HS; clear hx; go_wp2_with fail; refine cm HC.out ?_; rintro e w2 ⟨rfl, hb2⟩; have HA2 := hide (HA1.out.next (Ap.of hb2))
   have HR2 := hide (HR1.out.later hb2); clear hb2 HC HA1 HR1; go_wp2_with fail
   go_loopw [11] (fun v wr => ∃ k acc j, listLoop c.l shut begins (sp d) k acc j = r ∧ Rdr c wr j d ∧ Ap c.R w.heap.size w wr ∧ KV w.heap.size wr acc v ∧ acc.length ≤ j) (fun _ wr => c.l.length - nxt c wr)
   case atStart => exact ⟨k, [], j1, HS.out, HR2.out, HA2.out, KV.nil _ _, Nat.zero_le _⟩
   case round =>
    obtain ⟨k, acc, j, hq, hrd, hap, hkv, hle⟩ := hrel; clear HS HR2 HA2
    cases k with
    | zero => exact absurd hq.symm HO.out
    | succ k =>
     have hL := unhide HL; have hjl := hrd.lt; have HR2 := hide hrd; have HRM := hide hrd; have HA2 := hide hap; have HK2 := hide hkv; have HLE := hide hle; unfold listLoop at hq; have HQ := hide hq; clear hq hrd hap hle
     obtain ⟨va, vc, rfl⟩ := hkv.shape; clear hkv
     by_cases h8 : acc.length = 8
     ·
      cases hbg : begins j with
      | true =>
       rw [if_pos ⟨h8, hbg⟩] at HQ; have HC : Hid _ := unhide HB wr d j HR2.out; rw [hbg] at HC; clear hbg; have h8i : ((acc.length : Int) == 8) = true := beq_iff_eq.2 (by omega); have H8 := hide h8; clear h8
       go_wp2_with fail; refine cm HC.out ?_; rintro e w3 ⟨rfl, hb3⟩; have HA3 := hide (HA2.out.next (Ap.of hb3)); have HC := hide (fault_any c 4 w3 j d (HR2.out.later hb3)); clear hb3; go_wp2_with fail
       refine cm HC.out ?_; rintro e w4 ⟨rfl, hb4⟩; exact ⟨rfl, ppBad HQ.out.symm (HA3.out.next (Ap.of hb4))⟩
      | false =>
       rw [if_neg (by rw [hbg]; rintro ⟨_, hh⟩; cases hh)] at HQ
       have HC : Hid _ := unhide HB wr d j HR2.out; rw [hbg] at HC; clear hbg; have h8i : ((acc.length : Int) == 8) = true := beq_iff_eq.2 (by omega); have H8 := hide h8; clear h8; go_wp2_with fail; refine cm HC.out ?_
       rintro e w3 ⟨rfl, hb3⟩; have HA3 := hide (HA2.out.next (Ap.of hb3)); have HR3 := hide (HR2.out.later hb3); have HK3 := hide (KV.later HK2.out (Ap.of hb3) HLT.out); clear hb3 HC HA2 HR2 HK2 h8i
       have HQ2 : Hid ((sp d j).bind (fun t i1 => if fx c.l i1 = shut then PR.ok (acc ++ [t]) (i1 + 1) else (mustP c.l tComma i1).bind fun _ i2 => listLoop c.l shut begins (sp d) k (acc ++ [t]) i2) = r) := unhide HQ
       clear HQ
       cases hr : sp d j with
       | out =>
        exact zcca
       | bad er p =>
        have HC : Hid _ := unhide HP w3 d j _ rfl (by rw [hr]; nofun) HR3.out
        rw [hr] at HC HQ2; simp only [bind_bad] at HQ2; clear hr; go_wp2_with fail; refine cm HC.out ?_; intro e w' hp; obtain ⟨rfl, ha⟩ := hp; exact ⟨rfl, ppBad HQ2.out.symm (HA3.out.next ha)⟩
       | ok t j2 =>
        have HC : Hid _ := unhide HP w3 d j _ rfl (by rw [hr]; nofun) HR3.out
        have hgt : j < j2 := unhide HGO d j t j2 hjl hr; rw [hr] at HC HQ2; simp only [bind_ok] at HQ2; clear hr; go_wp2_with fail; refine cm HC.out ?_; intro e w4 hp; obtain ⟨⟨v4, rfl, p4, rfl, hn4⟩, hrd, ha⟩ := hp
        have HA4 := hide (HA3.out.next ha); have HR4 := hide hrd; have HN4 := hide (apart_own HK3.out HA3.out.size ha HLT.out hn4); have HK4 := hide (KV.later HK3.out ha HLT.out); exact zbap
     ·
      rw [if_neg (fun hh => h8 hh.1)] at HQ; have h8i : ((acc.length : Int) == 8) = false := beq_eq_false_iff_ne.2 (by omega); clear h8
      have HQ2 : Hid ((sp d j).bind (fun t i1 => if fx c.l i1 = shut then PR.ok (acc ++ [t]) (i1 + 1) else (mustP c.l tComma i1).bind fun _ i2 => listLoop c.l shut begins (sp d) k (acc ++ [t]) i2) = r) := unhide HQ
      clear HQ
      cases hr : sp d j with
      | out =>
       exact zcca
      | bad er p =>
       have HC : Hid _ := unhide HP wr d j _ rfl (by rw [hr]; nofun) HR2.out
       rw [hr] at HC HQ2; simp only [bind_bad] at HQ2; clear hr; go_wp2_with fail; refine cm HC.out ?_; intro e w' hp; obtain ⟨rfl, ha⟩ := hp; exact ⟨rfl, ppBad HQ2.out.symm (HA2.out.next ha)⟩
      | ok t j2 =>
       have HC : Hid _ := unhide HP wr d j _ rfl (by rw [hr]; nofun) HR2.out
       have hgt : j < j2 := unhide HGO d j t j2 hjl hr; rw [hr] at HC HQ2; simp only [bind_ok] at HQ2; clear hr; go_wp2_with fail; refine cm HC.out ?_; intro e w4 hp; obtain ⟨⟨v4, rfl, p4, rfl, hn4⟩, hrd, ha⟩ := hp
       have HA4 := hide (HA2.out.next ha); have HR4 := hide hrd; have HN4 := hide (apart_own HK2.out HA2.out.size ha HLT.out hn4); have HK4 := hide (KV.later HK2.out ha HLT.out); exact zbap
end Go.Proofs.YtoimgcjbcbhclaaGreatDoor
