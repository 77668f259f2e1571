/-
  The signs that make a value of so many parts.
-/
import Derived.Test.YtodmgaikhbmlnaaGreatDoorTk5
import Derived.Deep.RegionHeld
set_option maxRecDepth 100000
set_option maxHeartbeats 16000000
namespace Go.Proofs.YtodmgaikhbmlnaaGreatDoor
open Go.RowKit

theorem Rdr.drew {c : Ctx} {w : World} {i d : Nat} (h : Rdr c w i d) : Rdr c w.drew i d := h.later (Below.refl _ _).drew
theorem Rdr.alloc {c : Ctx} {w : World} {i d : Nat} (h : Rdr c w i d) (o : Obj) : Rdr c (w.alloc o) i d := h.later ((Below.refl _ _).alloc (Nat.le_refl _) _)

abbrev O160 : Obj := .cells #[.string ⟨#[]⟩, .int .i64 0, .int .i64 0, .int .i64 0] 175

theorem set4 {w : World} {b : Nat} {a0 a1 a2 a3 : Value} {t : TypeId} {fr : Nat × Nat} (h : w.heap[b]? = some (.cells #[a0, a1, a2, a3] t fr)) (v0 v1 v2 v3 : Value) :
    ((((w.setCell ⟨b, 0, none⟩ v0).setCell ⟨b, 1, none⟩ v1).setCell ⟨b, 2, none⟩ v2).setCell ⟨b, 3, none⟩ v3).heap[b]? = some (.cells #[v0, v1, v2, v3] t fr) := by
  rw [heap_set (heap_set (heap_set (heap_set h v0) v1) v2) v3]
  rfl
def C160 (b : Nat) (w1 : World) (v0 v1 v2 v3 : Value) : Prop :=
  w1.cell? ⟨b, 0, none⟩ = some v0 ∧ w1.cell? ⟨b, 1, none⟩ = some v1 ∧ w1.cell? ⟨b, 2, none⟩ = some v2 ∧ w1.cell? ⟨b, 3, none⟩ = some v3 ∧ (∀ o, w1.frozen? ⟨b, o, none⟩ = false) ∧ b < w1.heap.size
theorem c160 {b : Nat} {w1 : World} {v0 v1 v2 v3 : Value} (p0 : w1.heap[b]? = some (.cells #[v0, v1, v2, v3] 175)) : C160 b w1 v0 v1 v2 v3 :=
  ⟨by rw [cell_of p0]; rfl, by rw [cell_of p0]; rfl, by rw [cell_of p0]; rfl, by rw [cell_of p0]; rfl, frozen_of p0, lt_of_heap p0⟩

theorem sf_one {c : Ctx} {w w1 : World} {i d : Nat} (h : Rdr c w i d) (hb : Below (w.alloc O160).drew.heap.size (w.alloc O160).drew w1) :
    Rdr c w1 i d ∧ Below w.heap.size w w1 ∧ w1.heap[w.heap.size]? = some O160 :=
  ⟨(h.alloc O160).drew.later hb, (((Below.refl _ _).alloc (Nat.le_refl _) O160).drew).trans (hb.mono (by simp)), (hb.block _ (by simp)).trans (heap_new w O160)⟩
theorem sf_two {c : Ctx} {w w1 : World} {i d : Nat} (h : Rdr c w i d) (hb : Below ((w.alloc O160).alloc O160).drew.heap.size ((w.alloc O160).alloc O160).drew w1) :
    Rdr c w1 i d ∧ Below w.heap.size w w1 ∧ w1.heap[w.heap.size]? = some O160 ∧ w1.heap[w.heap.size + 1]? = some O160 := by
  refine ⟨((h.alloc O160).alloc O160).drew.later hb, ((((Below.refl _ _).alloc (Nat.le_refl _) O160).alloc (by simp) O160).drew).trans (hb.mono (by simp; omega)), (hb.block _ (by simp; omega)).trans ((Below.heap_alloc (w.alloc O160) O160 w.heap.size (by simp)).trans (heap_new w O160)), ?_⟩
  have := heap_new (w.alloc O160) O160
  simp only [World.size_alloc] at this
  exact (hb.block _ (by simp)).trans this
/-- Behind the store into the new variable. -/
theorem w2_any {c : Ctx} {w w1 W2 : World} {i d : Nat} {v0 v1 v2 v3 : Value} (h : Rdr c w1 i d) (hlo : c.lo ≤ w.heap.size) (p0 : w1.heap[w.heap.size]? = some O160) (p1 : w1.heap[w.heap.size + 1]? = some O160) (hb : Below w.heap.size w w1)
    (hW : W2 = (((w1.setCell ⟨w.heap.size + 1, 0, none⟩ v0).setCell ⟨w.heap.size + 1, 1, none⟩ v1).setCell ⟨w.heap.size + 1, 2, none⟩ v2).setCell ⟨w.heap.size + 1, 3, none⟩ v3) :
    Rdr c W2 i d ∧ Below w.heap.size w W2 ∧ C160 w.heap.size W2 (.string ⟨#[]⟩) (.int .i64 0) (.int .i64 0) (.int .i64 0) ∧ C160 (w.heap.size + 1) W2 v0 v1 v2 v3 := by
  have hB : Below (w.heap.size + 1) w1 W2 := by
    rw [hW]
    exact ((((Below.refl _ w1).setCell (p := ⟨w.heap.size + 1, 0, none⟩) (Nat.le_refl _) v0).setCell (p := ⟨w.heap.size + 1, 1, none⟩) (Nat.le_refl _) v1).setCell (p := ⟨w.heap.size + 1, 2, none⟩) (Nat.le_refl _) v2).setCell (p := ⟨w.heap.size + 1, 3, none⟩) (Nat.le_refl _) v3
  refine ⟨h.ap hB (by omega), hb.trans (hB.mono (by omega)), c160 ((hB.block _ (by omega)).trans p0), c160 ?_⟩
  rw [hW]
  exact set4 p1 v0 v1 v2 v3
theorem w1_any {c : Ctx} {w w1 W2 : World} {i d : Nat} {v0 v1 v2 v3 : Value} (h : Rdr c w1 i d) (p0 : w1.heap[w.heap.size]? = some O160) (hb : Below w.heap.size w w1) (hW : W2 = w1.alloc (.cells #[v0, v1, v2, v3] 175)) :
    Rdr c W2 i d ∧ Below w.heap.size w W2 ∧ C160 w.heap.size W2 (.string ⟨#[]⟩) (.int .i64 0) (.int .i64 0) (.int .i64 0) ∧ C160 w1.heap.size W2 v0 v1 v2 v3 := by
  subst hW
  exact ⟨h.alloc _, hb.alloc hb.size _, c160 ((Below.heap_alloc _ _ _ (lt_of_heap p0)).trans p0), c160 (heap_new _ _)⟩
theorem below4 {w W2 : World} {b : Nat} (hb : Below w.heap.size w W2) (h : w.heap.size ≤ b) (v0 v1 v2 v3 : Value) :
    Below w.heap.size w ((((W2.setCell ⟨b, 0, none⟩ v0).setCell ⟨b, 1, none⟩ v1).setCell ⟨b, 2, none⟩ v2).setCell ⟨b, 3, none⟩ v3) :=
  (((hb.setCell (p := ⟨b, 0, none⟩) h _).setCell (p := ⟨b, 1, none⟩) h _).setCell (p := ⟨b, 2, none⟩) h _).setCell (p := ⟨b, 3, none⟩) h _

theorem sign_none (c : Ctx) (k : Int) (s : ByteArray) (w : World) (i d : Nat) (h : Rdr c w i d) (hs : s = fx c.l i) (ho : sgOf s = none) :
    Calls Tryz.prog 274 #[rPtr c, .int .i64 k] w fun e w' => e = .returned (.tuple #[noSg, .bool false]) ∧ Below w.heap.size w w' := by
  have HR0 := hide h
  have HR := hide ((h.alloc O160).drew)
  have HR' := hide (((h.alloc O160).alloc O160).drew)
  have HL : Hid (∀ W : World, Rdr c W i d → (Instr.lookup 166 (.map (some c.mS)) (.string s) true).run Tryz.prog W = .ok (.tuple #[.agg #[.string ⟨#[]⟩, .int .i64 0, .int .i64 0, .int .i64 0], .bool false]) W) := fun W hW => by
    have := look_signs c s W hW.base.signs
    rw [ho] at this
    exact this
  have hlt := h.rlt
  have HT : Hid (∀ (w : World), Rdr c w i d → Calls Tryz.prog 219 #[rPtr c] w fun e w' => e = .returned (.string s) ∧ Below w.heap.size w w') := fun w h => by rw [hs]; exact fixed_any c w i d h
  clear h hs ho
  go_enter Tryz.func274, Tryz.ntmps274
  go_wp2_with fail
  refine wp_region_held (S := fun W => Rdr c W i d) (by kernel_rfl) ?_
  change wpAnyH _ _ _ _ _ _ _ _ (World.drew _)
  refine wpAnyH_take (i := 0) (v := rPtr c) rfl (by kernel_rfl) (by kernel_rfl) (by kernel_rfl) (fun _ _ _ h => h) (Or.inl ⟨by kernel_rfl, fun W _ => by go_simp⟩) (unhide HR) ?_
  refine wpAnyH_take (i := 1) (v := rPtr c) rfl (by kernel_rfl) (by kernel_rfl) (by kernel_rfl) (fun _ _ _ h => h) (Or.inl ⟨by kernel_rfl, fun W _ => by go_simp⟩) (unhide HR) ?_
  refine wpAnyH_take (i := 2) (v := .pointer (some ⟨c.R, 3, none⟩)) rfl (by kernel_rfl) (by kernel_rfl) (by kernel_rfl) (fun _ _ _ h => h) (Or.inl ⟨by kernel_rfl, fun W _ => by go_simp⟩) (unhide HR) ?_
  refine wpAnyH_take (i := 3) (v := .map (some c.mS)) rfl (by kernel_rfl) (by kernel_rfl) (by kernel_rfl) (fun _ _ _ h => h) (Or.inl ⟨by kernel_rfl, fun W hW => by have hh := Rdr.c3 hW; go_simp⟩) (unhide HR) ?_
  refine wpAnyH_take (i := 4) (v := rPtr c) rfl (by kernel_rfl) (by kernel_rfl) (by kernel_rfl) (fun _ _ _ h => h) (Or.inl ⟨by kernel_rfl, fun W _ => by go_simp⟩) (unhide HR) ?_
  refine wpAnyH_ready (rs := [5, 10]) (by kernel_rfl) (by simp) (AllReadyH.cons rfl (fun K hK => ?_) (AllReadyH.cons rfl (fun K hK => ?_) AllReadyH.nil))
  · go_simp
    refine Calls.mono (HT.out _ (unhide HR)) ?_
    rintro e w1 ⟨rfl, hb⟩
    obtain ⟨hr1, hbw, p0⟩ := sf_one (unhide HR0) hb
    have HR1 := hide hr1
    have HW := hide hbw
    have P0 := hide p0
    clear hb hr1 hbw p0
    refine hK.out _ _ (unhide HR1) (fun _ => ?_)
    clear hK K
    refine wpAnyH_take (i := 6) (v := .tuple #[.agg #[.string ⟨#[]⟩, .int .i64 0, .int .i64 0, .int .i64 0], .bool false]) rfl (by kernel_rfl) (by kernel_rfl) (by kernel_rfl) (fun _ _ _ h => h) (Or.inl ⟨by kernel_rfl, fun W hW => by have hh := (unhide HL) W hW; go_simp⟩) (unhide HR1) ?_
    refine wpAnyH_take (i := 7) (v := .tuple #[.agg #[.string ⟨#[]⟩, .int .i64 0, .int .i64 0, .int .i64 0], .bool false]) rfl (by kernel_rfl) (by kernel_rfl) (by kernel_rfl) (fun _ _ _ h => h) (Or.inl ⟨by kernel_rfl, fun W _ => by go_simp⟩) (unhide HR1) ?_
    refine wpAnyH_take (i := 8) (v := .agg #[.string ⟨#[]⟩, .int .i64 0, .int .i64 0, .int .i64 0]) rfl (by kernel_rfl) (by kernel_rfl) (by kernel_rfl) (fun _ _ _ h => h) (Or.inl ⟨by kernel_rfl, fun W _ => by go_simp⟩) (unhide HR1) ?_
    refine wpAnyH_take (i := 9) (v := .bool false) rfl (by kernel_rfl) (by kernel_rfl) (by kernel_rfl) (fun _ _ _ h => h) (Or.inl ⟨by kernel_rfl, fun W _ => by go_simp⟩) (unhide HR1) ?_
    refine wpAnyH_ready (rs := [10]) (by kernel_rfl) (by simp) (AllReadyH.cons rfl (fun K hK => ?_) AllReadyH.nil)
    go_simp
    refine hK.out _ _ ((unhide HR1).alloc O160) (fun _ => ?_)
    clear hK K
    refine wpAnyH_ready (rs := [11]) (by kernel_rfl) (by simp) (AllReadyH.cons rfl (fun K hK => ?_) AllReadyH.nil)
    go_simp
    obtain ⟨W2, hW2⟩ : ∃ W2, W2 = w1.alloc (.cells #[.string ⟨#[]⟩, .int .i64 0, .int .i64 0, .int .i64 0] 175) := ⟨_, rfl⟩
    obtain ⟨hr2, hb2, ⟨q0, q1, q2, q3, qf, qlt⟩, ⟨s0, s1, s2, s3, sf, slt⟩⟩ := w1_any (v0 := .string ⟨#[]⟩) (v1 := .int .i64 0) (v2 := .int .i64 0) (v3 := .int .i64 0) (unhide HR1) (unhide P0) (unhide HW) hW2
    have HR2 := hide hr2
    have HW2 := hide hb2
    rw [← hW2]
    clear hW2 hr2 hb2
    refine hK.out _ _ (unhide HR2) (fun _ => ?_)
    clear hK K
    refine wpAnyH_take (i := 12) (v := .bool false) rfl (by kernel_rfl) (by kernel_rfl) (by kernel_rfl) (fun _ _ _ h => h) (Or.inl ⟨by kernel_rfl, fun W _ => by go_simp⟩) (unhide HR2) ?_
    refine wpAnyH_done (by kernel_rfl) ?_ _
    go_simp
    go_wp2_with fail
    exact bodyPost_ret (v := .tuple #[.agg #[.string ⟨#[]⟩, .int .i64 0, .int .i64 0, .int .i64 0], .bool false]) (by simp [results, Tryz.results274, go_sem, q0, q1, q2, q3]) rfl ⟨rfl, below4 (unhide HW2) (Nat.le_refl _) _ _ _ _⟩
  · go_simp
    refine hK.out _ _ (unhide HR') (fun _ => ?_)
    clear hK K
    refine wpAnyH_ready (rs := [5]) (by kernel_rfl) (by simp) (AllReadyH.cons rfl (fun K hK => ?_) AllReadyH.nil)
    go_simp
    refine Calls.mono (HT.out _ (unhide HR')) ?_
    rintro e w1 ⟨rfl, hb⟩
    obtain ⟨hr1, hbw, p0, p1⟩ := sf_two (unhide HR0) hb
    obtain ⟨r0, r1, r2, r3, rf, rlt⟩ := c160 p1
    have HR1 := hide hr1
    have HW := hide hbw
    have P0 := hide p0
    have P1 := hide p1
    clear hb hr1 hbw p0 p1
    refine hK.out _ _ (unhide HR1) (fun _ => ?_)
    clear hK K
    refine wpAnyH_take (i := 6) (v := .tuple #[.agg #[.string ⟨#[]⟩, .int .i64 0, .int .i64 0, .int .i64 0], .bool false]) rfl (by kernel_rfl) (by kernel_rfl) (by kernel_rfl) (fun _ _ _ h => h) (Or.inl ⟨by kernel_rfl, fun W hW => by have hh := (unhide HL) W hW; go_simp⟩) (unhide HR1) ?_
    refine wpAnyH_take (i := 7) (v := .tuple #[.agg #[.string ⟨#[]⟩, .int .i64 0, .int .i64 0, .int .i64 0], .bool false]) rfl (by kernel_rfl) (by kernel_rfl) (by kernel_rfl) (fun _ _ _ h => h) (Or.inl ⟨by kernel_rfl, fun W _ => by go_simp⟩) (unhide HR1) ?_
    refine wpAnyH_take (i := 8) (v := .agg #[.string ⟨#[]⟩, .int .i64 0, .int .i64 0, .int .i64 0]) rfl (by kernel_rfl) (by kernel_rfl) (by kernel_rfl) (fun _ _ _ h => h) (Or.inl ⟨by kernel_rfl, fun W _ => by go_simp⟩) (unhide HR1) ?_
    refine wpAnyH_take (i := 9) (v := .bool false) rfl (by kernel_rfl) (by kernel_rfl) (by kernel_rfl) (fun _ _ _ h => h) (Or.inl ⟨by kernel_rfl, fun W _ => by go_simp⟩) (unhide HR1) ?_
    refine wpAnyH_ready (rs := [11]) (by kernel_rfl) (by simp) (AllReadyH.cons rfl (fun K hK => ?_) AllReadyH.nil)
    go_simp
    clear r0 r1 r2 r3 rf rlt
    obtain ⟨W2, hW2⟩ : ∃ W2, W2 = (((w1.setCell ⟨w.heap.size + 1, 0, none⟩ (.string ⟨#[]⟩)).setCell ⟨w.heap.size + 1, 1, none⟩ (.int .i64 0)).setCell ⟨w.heap.size + 1, 2, none⟩ (.int .i64 0)).setCell ⟨w.heap.size + 1, 3, none⟩ (.int .i64 0) := ⟨_, rfl⟩
    obtain ⟨hr2, hb2, ⟨q0, q1, q2, q3, qf, qlt⟩, ⟨s0, s1, s2, s3, sf, slt⟩⟩ := w2_any (v0 := .string ⟨#[]⟩) (v1 := .int .i64 0) (v2 := .int .i64 0) (v3 := .int .i64 0) (unhide HR1) (unhide HR0).base.size (unhide P0) (unhide P1) (unhide HW) hW2
    have HR2 := hide hr2
    have HW2 := hide hb2
    rw [← hW2]
    clear hW2 hr2 hb2
    refine hK.out _ _ (unhide HR2) (fun _ => ?_)
    clear hK K
    refine wpAnyH_take (i := 12) (v := .bool false) rfl (by kernel_rfl) (by kernel_rfl) (by kernel_rfl) (fun _ _ _ h => h) (Or.inl ⟨by kernel_rfl, fun W _ => by go_simp⟩) (unhide HR2) ?_
    refine wpAnyH_done (by kernel_rfl) ?_ _
    go_simp
    go_wp2_with fail
    exact bodyPost_ret (v := .tuple #[.agg #[.string ⟨#[]⟩, .int .i64 0, .int .i64 0, .int .i64 0], .bool false]) (by simp [results, Tryz.results274, go_sem, q0, q1, q2, q3]) rfl ⟨rfl, below4 (unhide HW2) (Nat.le_refl _) _ _ _ _⟩

theorem sign_other (c : Ctx) (k : Int) (s : ByteArray) (x : Sg) (w : World) (i d : Nat) (h : Rdr c w i d) (hs : s = fx c.l i) (ho : sgOf s = some x) (hk : (x.parts == k) = false) :
    Calls Tryz.prog 274 #[rPtr c, .int .i64 k] w fun e w' => e = .returned (.tuple #[noSg, .bool false]) ∧ Below w.heap.size w w' := by
  have HR0 := hide h
  have HR := hide ((h.alloc O160).drew)
  have HR' := hide (((h.alloc O160).alloc O160).drew)
  have HL : Hid (∀ W : World, Rdr c W i d → (Instr.lookup 166 (.map (some c.mS)) (.string s) true).run Tryz.prog W = .ok (.tuple #[.agg #[.string x.tx, .int .i64 x.kd, .int .i64 x.parts, .int .i64 x.str], .bool true]) W) := fun W hW => by
    have := look_signs c s W hW.base.signs
    rw [ho] at this
    exact this
  have hlt := h.rlt
  have HT : Hid (∀ (w : World), Rdr c w i d → Calls Tryz.prog 219 #[rPtr c] w fun e w' => e = .returned (.string s) ∧ Below w.heap.size w w') := fun w h => by rw [hs]; exact fixed_any c w i d h
  clear h hs ho
  go_enter Tryz.func274, Tryz.ntmps274
  go_wp2_with fail
  refine wp_region_held (S := fun W => Rdr c W i d) (by kernel_rfl) ?_
  change wpAnyH _ _ _ _ _ _ _ _ (World.drew _)
  refine wpAnyH_take (i := 0) (v := rPtr c) rfl (by kernel_rfl) (by kernel_rfl) (by kernel_rfl) (fun _ _ _ h => h) (Or.inl ⟨by kernel_rfl, fun W _ => by go_simp⟩) (unhide HR) ?_
  refine wpAnyH_take (i := 1) (v := rPtr c) rfl (by kernel_rfl) (by kernel_rfl) (by kernel_rfl) (fun _ _ _ h => h) (Or.inl ⟨by kernel_rfl, fun W _ => by go_simp⟩) (unhide HR) ?_
  refine wpAnyH_take (i := 2) (v := .pointer (some ⟨c.R, 3, none⟩)) rfl (by kernel_rfl) (by kernel_rfl) (by kernel_rfl) (fun _ _ _ h => h) (Or.inl ⟨by kernel_rfl, fun W _ => by go_simp⟩) (unhide HR) ?_
  refine wpAnyH_take (i := 3) (v := .map (some c.mS)) rfl (by kernel_rfl) (by kernel_rfl) (by kernel_rfl) (fun _ _ _ h => h) (Or.inl ⟨by kernel_rfl, fun W hW => by have hh := Rdr.c3 hW; go_simp⟩) (unhide HR) ?_
  refine wpAnyH_take (i := 4) (v := rPtr c) rfl (by kernel_rfl) (by kernel_rfl) (by kernel_rfl) (fun _ _ _ h => h) (Or.inl ⟨by kernel_rfl, fun W _ => by go_simp⟩) (unhide HR) ?_
  refine wpAnyH_ready (rs := [5, 10]) (by kernel_rfl) (by simp) (AllReadyH.cons rfl (fun K hK => ?_) (AllReadyH.cons rfl (fun K hK => ?_) AllReadyH.nil))
  · go_simp
    refine Calls.mono (HT.out _ (unhide HR)) ?_
    rintro e w1 ⟨rfl, hb⟩
    obtain ⟨hr1, hbw, p0⟩ := sf_one (unhide HR0) hb
    have HR1 := hide hr1
    have HW := hide hbw
    have P0 := hide p0
    clear hb hr1 hbw p0
    refine hK.out _ _ (unhide HR1) (fun _ => ?_)
    clear hK K
    refine wpAnyH_take (i := 6) (v := .tuple #[.agg #[.string x.tx, .int .i64 x.kd, .int .i64 x.parts, .int .i64 x.str], .bool true]) rfl (by kernel_rfl) (by kernel_rfl) (by kernel_rfl) (fun _ _ _ h => h) (Or.inl ⟨by kernel_rfl, fun W hW => by have hh := (unhide HL) W hW; go_simp⟩) (unhide HR1) ?_
    refine wpAnyH_take (i := 7) (v := .tuple #[.agg #[.string x.tx, .int .i64 x.kd, .int .i64 x.parts, .int .i64 x.str], .bool true]) rfl (by kernel_rfl) (by kernel_rfl) (by kernel_rfl) (fun _ _ _ h => h) (Or.inl ⟨by kernel_rfl, fun W _ => by go_simp⟩) (unhide HR1) ?_
    refine wpAnyH_take (i := 8) (v := .agg #[.string x.tx, .int .i64 x.kd, .int .i64 x.parts, .int .i64 x.str]) rfl (by kernel_rfl) (by kernel_rfl) (by kernel_rfl) (fun _ _ _ h => h) (Or.inl ⟨by kernel_rfl, fun W _ => by go_simp⟩) (unhide HR1) ?_
    refine wpAnyH_take (i := 9) (v := .bool true) rfl (by kernel_rfl) (by kernel_rfl) (by kernel_rfl) (fun _ _ _ h => h) (Or.inl ⟨by kernel_rfl, fun W _ => by go_simp⟩) (unhide HR1) ?_
    refine wpAnyH_ready (rs := [10]) (by kernel_rfl) (by simp) (AllReadyH.cons rfl (fun K hK => ?_) AllReadyH.nil)
    go_simp
    refine hK.out _ _ ((unhide HR1).alloc O160) (fun _ => ?_)
    clear hK K
    refine wpAnyH_ready (rs := [11]) (by kernel_rfl) (by simp) (AllReadyH.cons rfl (fun K hK => ?_) AllReadyH.nil)
    go_simp
    obtain ⟨W2, hW2⟩ : ∃ W2, W2 = w1.alloc (.cells #[.string x.tx, .int .i64 x.kd, .int .i64 x.parts, .int .i64 x.str] 175) := ⟨_, rfl⟩
    obtain ⟨hr2, hb2, ⟨q0, q1, q2, q3, qf, qlt⟩, ⟨s0, s1, s2, s3, sf, slt⟩⟩ := w1_any (v0 := .string x.tx) (v1 := .int .i64 x.kd) (v2 := .int .i64 x.parts) (v3 := .int .i64 x.str) (unhide HR1) (unhide P0) (unhide HW) hW2
    have HR2 := hide hr2
    have HW2 := hide hb2
    rw [← hW2]
    clear hW2 hr2 hb2
    refine hK.out _ _ (unhide HR2) (fun _ => ?_)
    clear hK K
    refine wpAnyH_take (i := 12) (v := .bool true) rfl (by kernel_rfl) (by kernel_rfl) (by kernel_rfl) (fun _ _ _ h => h) (Or.inl ⟨by kernel_rfl, fun W _ => by go_simp⟩) (unhide HR2) ?_
    refine wpAnyH_done (by kernel_rfl) ?_ _
    go_simp
    go_wp2_with fail
    exact bodyPost_ret (v := .tuple #[.agg #[.string ⟨#[]⟩, .int .i64 0, .int .i64 0, .int .i64 0], .bool false]) (by simp [results, Tryz.results274, go_sem, q0, q1, q2, q3]) rfl ⟨rfl, below4 (unhide HW2) (Nat.le_refl _) _ _ _ _⟩
  · go_simp
    refine hK.out _ _ (unhide HR') (fun _ => ?_)
    clear hK K
    refine wpAnyH_ready (rs := [5]) (by kernel_rfl) (by simp) (AllReadyH.cons rfl (fun K hK => ?_) AllReadyH.nil)
    go_simp
    refine Calls.mono (HT.out _ (unhide HR')) ?_
    rintro e w1 ⟨rfl, hb⟩
    obtain ⟨hr1, hbw, p0, p1⟩ := sf_two (unhide HR0) hb
    obtain ⟨r0, r1, r2, r3, rf, rlt⟩ := c160 p1
    have HR1 := hide hr1
    have HW := hide hbw
    have P0 := hide p0
    have P1 := hide p1
    clear hb hr1 hbw p0 p1
    refine hK.out _ _ (unhide HR1) (fun _ => ?_)
    clear hK K
    refine wpAnyH_take (i := 6) (v := .tuple #[.agg #[.string x.tx, .int .i64 x.kd, .int .i64 x.parts, .int .i64 x.str], .bool true]) rfl (by kernel_rfl) (by kernel_rfl) (by kernel_rfl) (fun _ _ _ h => h) (Or.inl ⟨by kernel_rfl, fun W hW => by have hh := (unhide HL) W hW; go_simp⟩) (unhide HR1) ?_
    refine wpAnyH_take (i := 7) (v := .tuple #[.agg #[.string x.tx, .int .i64 x.kd, .int .i64 x.parts, .int .i64 x.str], .bool true]) rfl (by kernel_rfl) (by kernel_rfl) (by kernel_rfl) (fun _ _ _ h => h) (Or.inl ⟨by kernel_rfl, fun W _ => by go_simp⟩) (unhide HR1) ?_
    refine wpAnyH_take (i := 8) (v := .agg #[.string x.tx, .int .i64 x.kd, .int .i64 x.parts, .int .i64 x.str]) rfl (by kernel_rfl) (by kernel_rfl) (by kernel_rfl) (fun _ _ _ h => h) (Or.inl ⟨by kernel_rfl, fun W _ => by go_simp⟩) (unhide HR1) ?_
    refine wpAnyH_take (i := 9) (v := .bool true) rfl (by kernel_rfl) (by kernel_rfl) (by kernel_rfl) (fun _ _ _ h => h) (Or.inl ⟨by kernel_rfl, fun W _ => by go_simp⟩) (unhide HR1) ?_
    refine wpAnyH_ready (rs := [11]) (by kernel_rfl) (by simp) (AllReadyH.cons rfl (fun K hK => ?_) AllReadyH.nil)
    go_simp
    clear r0 r1 r2 r3 rf rlt
    obtain ⟨W2, hW2⟩ : ∃ W2, W2 = (((w1.setCell ⟨w.heap.size + 1, 0, none⟩ (.string x.tx)).setCell ⟨w.heap.size + 1, 1, none⟩ (.int .i64 x.kd)).setCell ⟨w.heap.size + 1, 2, none⟩ (.int .i64 x.parts)).setCell ⟨w.heap.size + 1, 3, none⟩ (.int .i64 x.str) := ⟨_, rfl⟩
    obtain ⟨hr2, hb2, ⟨q0, q1, q2, q3, qf, qlt⟩, ⟨s0, s1, s2, s3, sf, slt⟩⟩ := w2_any (v0 := .string x.tx) (v1 := .int .i64 x.kd) (v2 := .int .i64 x.parts) (v3 := .int .i64 x.str) (unhide HR1) (unhide HR0).base.size (unhide P0) (unhide P1) (unhide HW) hW2
    have HR2 := hide hr2
    have HW2 := hide hb2
    rw [← hW2]
    clear hW2 hr2 hb2
    refine hK.out _ _ (unhide HR2) (fun _ => ?_)
    clear hK K
    refine wpAnyH_take (i := 12) (v := .bool true) rfl (by kernel_rfl) (by kernel_rfl) (by kernel_rfl) (fun _ _ _ h => h) (Or.inl ⟨by kernel_rfl, fun W _ => by go_simp⟩) (unhide HR2) ?_
    refine wpAnyH_done (by kernel_rfl) ?_ _
    go_simp
    go_wp2_with fail
    exact bodyPost_ret (v := .tuple #[.agg #[.string ⟨#[]⟩, .int .i64 0, .int .i64 0, .int .i64 0], .bool false]) (by simp [results, Tryz.results274, go_sem, q0, q1, q2, q3]) rfl ⟨rfl, below4 (unhide HW2) (Nat.le_refl _) _ _ _ _⟩

theorem sign_some (c : Ctx) (k : Int) (s : ByteArray) (x : Sg) (w : World) (i d : Nat) (h : Rdr c w i d) (hs : s = fx c.l i) (ho : sgOf s = some x) (hk : (x.parts == k) = true) :
    Calls Tryz.prog 274 #[rPtr c, .int .i64 k] w fun e w' => e = .returned (.tuple #[sgV x, .bool true]) ∧ Below w.heap.size w w' := by
  have HR0 := hide h
  have HR := hide ((h.alloc O160).drew)
  have HR' := hide (((h.alloc O160).alloc O160).drew)
  have HL : Hid (∀ W : World, Rdr c W i d → (Instr.lookup 166 (.map (some c.mS)) (.string s) true).run Tryz.prog W = .ok (.tuple #[.agg #[.string x.tx, .int .i64 x.kd, .int .i64 x.parts, .int .i64 x.str], .bool true]) W) := fun W hW => by
    have := look_signs c s W hW.base.signs
    rw [ho] at this
    exact this
  have hlt := h.rlt
  have HT : Hid (∀ (w : World), Rdr c w i d → Calls Tryz.prog 219 #[rPtr c] w fun e w' => e = .returned (.string s) ∧ Below w.heap.size w w') := fun w h => by rw [hs]; exact fixed_any c w i d h
  clear h hs ho
  go_enter Tryz.func274, Tryz.ntmps274
  go_wp2_with fail
  refine wp_region_held (S := fun W => Rdr c W i d) (by kernel_rfl) ?_
  change wpAnyH _ _ _ _ _ _ _ _ (World.drew _)
  refine wpAnyH_take (i := 0) (v := rPtr c) rfl (by kernel_rfl) (by kernel_rfl) (by kernel_rfl) (fun _ _ _ h => h) (Or.inl ⟨by kernel_rfl, fun W _ => by go_simp⟩) (unhide HR) ?_
  refine wpAnyH_take (i := 1) (v := rPtr c) rfl (by kernel_rfl) (by kernel_rfl) (by kernel_rfl) (fun _ _ _ h => h) (Or.inl ⟨by kernel_rfl, fun W _ => by go_simp⟩) (unhide HR) ?_
  refine wpAnyH_take (i := 2) (v := .pointer (some ⟨c.R, 3, none⟩)) rfl (by kernel_rfl) (by kernel_rfl) (by kernel_rfl) (fun _ _ _ h => h) (Or.inl ⟨by kernel_rfl, fun W _ => by go_simp⟩) (unhide HR) ?_
  refine wpAnyH_take (i := 3) (v := .map (some c.mS)) rfl (by kernel_rfl) (by kernel_rfl) (by kernel_rfl) (fun _ _ _ h => h) (Or.inl ⟨by kernel_rfl, fun W hW => by have hh := Rdr.c3 hW; go_simp⟩) (unhide HR) ?_
  refine wpAnyH_take (i := 4) (v := rPtr c) rfl (by kernel_rfl) (by kernel_rfl) (by kernel_rfl) (fun _ _ _ h => h) (Or.inl ⟨by kernel_rfl, fun W _ => by go_simp⟩) (unhide HR) ?_
  refine wpAnyH_ready (rs := [5, 10]) (by kernel_rfl) (by simp) (AllReadyH.cons rfl (fun K hK => ?_) (AllReadyH.cons rfl (fun K hK => ?_) AllReadyH.nil))
  · go_simp
    refine Calls.mono (HT.out _ (unhide HR)) ?_
    rintro e w1 ⟨rfl, hb⟩
    obtain ⟨hr1, hbw, p0⟩ := sf_one (unhide HR0) hb
    have HR1 := hide hr1
    have HW := hide hbw
    have P0 := hide p0
    clear hb hr1 hbw p0
    refine hK.out _ _ (unhide HR1) (fun _ => ?_)
    clear hK K
    refine wpAnyH_take (i := 6) (v := .tuple #[.agg #[.string x.tx, .int .i64 x.kd, .int .i64 x.parts, .int .i64 x.str], .bool true]) rfl (by kernel_rfl) (by kernel_rfl) (by kernel_rfl) (fun _ _ _ h => h) (Or.inl ⟨by kernel_rfl, fun W hW => by have hh := (unhide HL) W hW; go_simp⟩) (unhide HR1) ?_
    refine wpAnyH_take (i := 7) (v := .tuple #[.agg #[.string x.tx, .int .i64 x.kd, .int .i64 x.parts, .int .i64 x.str], .bool true]) rfl (by kernel_rfl) (by kernel_rfl) (by kernel_rfl) (fun _ _ _ h => h) (Or.inl ⟨by kernel_rfl, fun W _ => by go_simp⟩) (unhide HR1) ?_
    refine wpAnyH_take (i := 8) (v := .agg #[.string x.tx, .int .i64 x.kd, .int .i64 x.parts, .int .i64 x.str]) rfl (by kernel_rfl) (by kernel_rfl) (by kernel_rfl) (fun _ _ _ h => h) (Or.inl ⟨by kernel_rfl, fun W _ => by go_simp⟩) (unhide HR1) ?_
    refine wpAnyH_take (i := 9) (v := .bool true) rfl (by kernel_rfl) (by kernel_rfl) (by kernel_rfl) (fun _ _ _ h => h) (Or.inl ⟨by kernel_rfl, fun W _ => by go_simp⟩) (unhide HR1) ?_
    refine wpAnyH_ready (rs := [10]) (by kernel_rfl) (by simp) (AllReadyH.cons rfl (fun K hK => ?_) AllReadyH.nil)
    go_simp
    refine hK.out _ _ ((unhide HR1).alloc O160) (fun _ => ?_)
    clear hK K
    refine wpAnyH_ready (rs := [11]) (by kernel_rfl) (by simp) (AllReadyH.cons rfl (fun K hK => ?_) AllReadyH.nil)
    go_simp
    obtain ⟨W2, hW2⟩ : ∃ W2, W2 = w1.alloc (.cells #[.string x.tx, .int .i64 x.kd, .int .i64 x.parts, .int .i64 x.str] 175) := ⟨_, rfl⟩
    obtain ⟨hr2, hb2, ⟨q0, q1, q2, q3, qf, qlt⟩, ⟨s0, s1, s2, s3, sf, slt⟩⟩ := w1_any (v0 := .string x.tx) (v1 := .int .i64 x.kd) (v2 := .int .i64 x.parts) (v3 := .int .i64 x.str) (unhide HR1) (unhide P0) (unhide HW) hW2
    have HR2 := hide hr2
    have HW2 := hide hb2
    rw [← hW2]
    clear hW2 hr2 hb2
    refine hK.out _ _ (unhide HR2) (fun _ => ?_)
    clear hK K
    refine wpAnyH_take (i := 12) (v := .bool true) rfl (by kernel_rfl) (by kernel_rfl) (by kernel_rfl) (fun _ _ _ h => h) (Or.inl ⟨by kernel_rfl, fun W _ => by go_simp⟩) (unhide HR2) ?_
    refine wpAnyH_done (by kernel_rfl) ?_ _
    go_simp
    go_wp2_with fail
    exact bodyPost_ret (v := .tuple #[.agg #[.string x.tx, .int .i64 x.kd, .int .i64 x.parts, .int .i64 x.str], .bool true]) (by simp [results, Tryz.results274, go_sem, q0, q1, q2, q3]) rfl ⟨rfl, below4 (unhide HW2) (Nat.le_refl _) _ _ _ _⟩
  · go_simp
    refine hK.out _ _ (unhide HR') (fun _ => ?_)
    clear hK K
    refine wpAnyH_ready (rs := [5]) (by kernel_rfl) (by simp) (AllReadyH.cons rfl (fun K hK => ?_) AllReadyH.nil)
    go_simp
    refine Calls.mono (HT.out _ (unhide HR')) ?_
    rintro e w1 ⟨rfl, hb⟩
    obtain ⟨hr1, hbw, p0, p1⟩ := sf_two (unhide HR0) hb
    obtain ⟨r0, r1, r2, r3, rf, rlt⟩ := c160 p1
    have HR1 := hide hr1
    have HW := hide hbw
    have P0 := hide p0
    have P1 := hide p1
    clear hb hr1 hbw p0 p1
    refine hK.out _ _ (unhide HR1) (fun _ => ?_)
    clear hK K
    refine wpAnyH_take (i := 6) (v := .tuple #[.agg #[.string x.tx, .int .i64 x.kd, .int .i64 x.parts, .int .i64 x.str], .bool true]) rfl (by kernel_rfl) (by kernel_rfl) (by kernel_rfl) (fun _ _ _ h => h) (Or.inl ⟨by kernel_rfl, fun W hW => by have hh := (unhide HL) W hW; go_simp⟩) (unhide HR1) ?_
    refine wpAnyH_take (i := 7) (v := .tuple #[.agg #[.string x.tx, .int .i64 x.kd, .int .i64 x.parts, .int .i64 x.str], .bool true]) rfl (by kernel_rfl) (by kernel_rfl) (by kernel_rfl) (fun _ _ _ h => h) (Or.inl ⟨by kernel_rfl, fun W _ => by go_simp⟩) (unhide HR1) ?_
    refine wpAnyH_take (i := 8) (v := .agg #[.string x.tx, .int .i64 x.kd, .int .i64 x.parts, .int .i64 x.str]) rfl (by kernel_rfl) (by kernel_rfl) (by kernel_rfl) (fun _ _ _ h => h) (Or.inl ⟨by kernel_rfl, fun W _ => by go_simp⟩) (unhide HR1) ?_
    refine wpAnyH_take (i := 9) (v := .bool true) rfl (by kernel_rfl) (by kernel_rfl) (by kernel_rfl) (fun _ _ _ h => h) (Or.inl ⟨by kernel_rfl, fun W _ => by go_simp⟩) (unhide HR1) ?_
    refine wpAnyH_ready (rs := [11]) (by kernel_rfl) (by simp) (AllReadyH.cons rfl (fun K hK => ?_) AllReadyH.nil)
    go_simp
    clear r0 r1 r2 r3 rf rlt
    obtain ⟨W2, hW2⟩ : ∃ W2, W2 = (((w1.setCell ⟨w.heap.size + 1, 0, none⟩ (.string x.tx)).setCell ⟨w.heap.size + 1, 1, none⟩ (.int .i64 x.kd)).setCell ⟨w.heap.size + 1, 2, none⟩ (.int .i64 x.parts)).setCell ⟨w.heap.size + 1, 3, none⟩ (.int .i64 x.str) := ⟨_, rfl⟩
    obtain ⟨hr2, hb2, ⟨q0, q1, q2, q3, qf, qlt⟩, ⟨s0, s1, s2, s3, sf, slt⟩⟩ := w2_any (v0 := .string x.tx) (v1 := .int .i64 x.kd) (v2 := .int .i64 x.parts) (v3 := .int .i64 x.str) (unhide HR1) (unhide HR0).base.size (unhide P0) (unhide P1) (unhide HW) hW2
    have HR2 := hide hr2
    have HW2 := hide hb2
    rw [← hW2]
    clear hW2 hr2 hb2
    refine hK.out _ _ (unhide HR2) (fun _ => ?_)
    clear hK K
    refine wpAnyH_take (i := 12) (v := .bool true) rfl (by kernel_rfl) (by kernel_rfl) (by kernel_rfl) (fun _ _ _ h => h) (Or.inl ⟨by kernel_rfl, fun W _ => by go_simp⟩) (unhide HR2) ?_
    refine wpAnyH_done (by kernel_rfl) ?_ _
    go_simp
    go_wp2_with fail
    exact bodyPost_ret (v := .tuple #[.agg #[.string x.tx, .int .i64 x.kd, .int .i64 x.parts, .int .i64 x.str], .bool true]) (by simp [results, Tryz.results274, go_sem, q0, q1, q2, q3]) rfl ⟨rfl, below4 (unhide HW2) (Nat.le_refl _) _ _ _ _⟩

theorem sign_any (c : Ctx) (k : Int) (w : World) (i d : Nat) (h : Rdr c w i d) :
    Calls Tryz.prog 274 #[rPtr c, .int .i64 k] w fun e w' => e = .returned (.tuple #[sgVO (sgP k (fx c.l i)), .bool (sgP k (fx c.l i)).isSome]) ∧ Below w.heap.size w w' := by
  cases ho : sgOf (fx c.l i) with
  | none =>
    have : sgP k (fx c.l i) = none := by simp [sgP, ho]
    rw [this]
    exact sign_none c k _ w i d h rfl ho
  | some x =>
    cases hk : x.parts == k with
    | false =>
      have : sgP k (fx c.l i) = none := by simp [sgP, ho, Option.filter, hk]
      rw [this]
      exact sign_other c k _ x w i d h rfl ho hk
    | true =>
      have : sgP k (fx c.l i) = some x := by simp [sgP, ho, Option.filter, hk]
      rw [this]
      exact sign_some c k _ x w i d h rfl ho hk

/-- The parts at a bound do what the grammar says. -/
structure FC (c : Ctx) (F : Fns) : Prop where
  st : Does c 170 NV F.st
  vl : Does c 222 NV F.vl
  pr : ∀ b : Int, 2 ≤ b → b ≤ 8 → ∀ w d i r, F.pr b d i = r → r ≠ .out → Rdr c w i d → Calls Tryz.prog 261 #[rPtr c, .int .i64 b] w (PPost c w d (NV w.heap.size) r)
  sg : Does c 273 NV F.sg

theorem en140 : ∀ args W, (callFunc 170 args).run Tryz.prog W = .ok (.enter 170 args) W := fun _ _ => by kernel_rfl
theorem en179 : ∀ args W, (callFunc 222 args).run Tryz.prog W = .ok (.enter 222 args) W := fun _ _ => by kernel_rfl
theorem en232 : ∀ args W, (callFunc 273 args).run Tryz.prog W = .ok (.enter 273 args) W := fun _ _ => by kernel_rfl

theorem deepV {c : Ctx} {F : Fns} (hF : FC c F) (w : World) (d i : Nat) (h : Rdr c w i d) (ho : deepP c.l F.vl d i ≠ .out) : Calls Tryz.prog 169 #[rPtr c, boundV c.R 222] w (PPost c w d (NV w.heap.size) (deepP c.l F.vl d i)) :=
  deeper_any c 222 F.vl hF.vl en179 w d i _ rfl ho h
theorem deepS {c : Ctx} {F : Fns} (hF : FC c F) (w : World) (d i : Nat) (h : Rdr c w i d) (ho : deepP c.l F.st d i ≠ .out) : Calls Tryz.prog 169 #[rPtr c, boundV c.R 170] w (PPost c w d (NV w.heap.size) (deepP c.l F.st d i)) :=
  deeper_any c 170 F.st hF.st en140 w d i _ rfl ho h
theorem deepG {c : Ctx} {F : Fns} (hF : FC c F) (w : World) (d i : Nat) (h : Rdr c w i d) (ho : deepP c.l F.sg d i ≠ .out) : Calls Tryz.prog 169 #[rPtr c, boundV c.R 273] w (PPost c w d (NV w.heap.size) (deepP c.l F.sg d i)) :=
  deeper_any c 273 F.sg hF.sg en232 w d i _ rfl ho h

theorem bind_ok {α β : Type} (x : α) (i : Nat) (f : α → Nat → PR β) : (PR.ok x i).bind f = f x i := rfl
theorem bind_bad {α β : Type} (er : Int) (p : Nat) (f : α → Nat → PR β) : (PR.bad er p : PR α).bind f = .bad er p := rfl
theorem bind_out {α β : Type} (f : α → Nat → PR β) : (PR.out : PR α).bind f = .out := rfl

abbrev From (B : Nat) : Nat → Prop := fun b => B ≤ b
theorem nat_later {c : Ctx} {B : Nat} {w w' : World} {t : Tr} {p : Nat} (h : NAt (From B) w t p) (ha : Ap c.R w.heap.size w w') (hB : c.R < B) : NAt (From B) w' t p :=
  NAt.later (Stay.of_ap ha hB fun _ h => h) _ _ h
theorem nat_mono {B B' : Nat} {w : World} {t : Tr} {p : Nat} (h : NAt (From B) w t p) (hB : B' ≤ B) : NAt (From B') w t p := NAt.mono (fun _ h _ => Nat.le_trans hB h) _ _ h
theorem nats_later {c : Ctx} {B : Nat} {w w' : World} {t : List Tr} {p : List Nat} (h : NAts (From B) w t p) (ha : Ap c.R w.heap.size w w') (hB : c.R < B) : NAts (From B) w' t p :=
  NAts.later (Stay.of_ap ha hB fun _ h => h) _ _ h

/-- A new row and a new node of parts that are there. -/
theorem made {c : Ctx} {w W : World} {j d : Nat} {ts : List Tr} {ps : List Nat} (hR : Rdr c W j d) (hA : Ap c.R w.heap.size w W) (hn : NAts (From w.heap.size) W ts ps) (hl : ps.length ≤ maxLen) (cs : Array Value) (hc : cs.toList = ps.map nPtr) (n : Nat) (hlen : ps.length = n) (kd : Int) (tx : ByteArray) (q : Nat) (hq : q = W.heap.size + 1) :
    EV w.heap.size ((W.alloc (.cells cs 22)).alloc (nodeObj kd tx 0 (.slice (some ⟨W.heap.size, 0, none⟩) n n))) (.mk kd tx 0 ts) (nPtr q) ∧
    Rdr c ((W.alloc (.cells cs 22)).alloc (nodeObj kd tx 0 (.slice (some ⟨W.heap.size, 0, none⟩) n n))) j d ∧
    Ap c.R w.heap.size w ((W.alloc (.cells cs 22)).alloc (nodeObj kd tx 0 (.slice (some ⟨W.heap.size, 0, none⟩) n n))) := by
  subst hlen
  have hs : q = (W.alloc (.cells cs 22)).heap.size := by rw [hq]; simp
  rw [hs]
  exact ⟨EV.new (KV.row hn hA.size hl cs hc) (by simp; have := hA.size; omega) kd tx 0, (hR.alloc _).alloc _, (hA.alloc hA.size _).alloc (by simp; have := hA.size; omega) _⟩
/-- A new node without parts, or of a row that is there. -/
theorem made0 {c : Ctx} {w W : World} {j d : Nat} {ts : List Tr} {v : Value} (hR : Rdr c W j d) (hA : Ap c.R w.heap.size w W) (hn : KV w.heap.size W ts v) (kd : Int) (tx : ByteArray) (q : Nat) (hq : q = W.heap.size) :
    EV w.heap.size (W.alloc (nodeObj kd tx 0 v)) (.mk kd tx 0 ts) (nPtr q) ∧ Rdr c (W.alloc (nodeObj kd tx 0 v)) j d ∧ Ap c.R w.heap.size w (W.alloc (nodeObj kd tx 0 v)) := by
  subst hq
  exact ⟨EV.new hn hA.size kd tx 0, hR.alloc _, hA.alloc hA.size _⟩

theorem inPar_any {c : Ctx} {F : Fns} (hF : FC c F) : Does c 165 NV (inParP c.l F) := by
  have hmf := mf_bound c.R 222
  intro w d i r hs ho h
  have HR0 := hide h
  have HA0 := hide (Ap.refl c.R w.heap.size w)
  have HLT := hide h.rlt
  unfold inParP at hs
  have HS := hide hs
  have HO := hide ho
  clear h hs ho
  go_enter Tryz.func165, Tryz.ntmps165
  cases hr : mustP c.l tOpen i with
  | out =>
    rw [hr] at HS
    simp only [bind_out] at HS
    exact absurd (unhide HS).symm (unhide HO)
  | bad er p =>
    have HC := hide (must_any c tOpen w i d (unhide HR0) (by decide))
    rw [hr] at HC HS
    simp only [bind_bad] at HS
    clear hr
    go_wp2_with fail
    refine Calls.mono HC.out ?_
    intro e w' hp
    obtain ⟨rfl, ha⟩ := hp
    exact ⟨rfl, ppBad (unhide HS).symm ((unhide HA0).next ha)⟩
  | ok x1 j1 =>
    have HC := hide (must_any c tOpen w i d (unhide HR0) (by decide))
    rw [hr] at HC HS
    simp only [bind_ok] at HS
    clear hr
    go_wp2_with fail
    refine Calls.mono HC.out ?_
    intro e w1 hp
    obtain ⟨⟨v1, rfl, rfl⟩, hrd, ha⟩ := hp
    clear HC
    have HA1 := hide ((unhide HA0).next ha)
    have HR1 := hide hrd
    clear hrd ha HA0 HR0
    cases hr : deepP c.l F.vl d j1 with
    | out =>
      rw [hr] at HS
      simp only [bind_out] at HS
      exact absurd (unhide HS).symm (unhide HO)
    | bad er p =>
      have HC := hide (deepV hF w1 d j1 (unhide HR1) (by rw [hr]; nofun))
      rw [hr] at HC HS
      simp only [bind_bad] at HS
      clear hr
      go_wp2_with fail
      refine Calls.mono HC.out ?_
      intro e w' hp
      obtain ⟨rfl, ha⟩ := hp
      exact ⟨rfl, ppBad (unhide HS).symm ((unhide HA1).next ha)⟩
    | ok x2 j2 =>
      have HC := hide (deepV hF w1 d j1 (unhide HR1) (by rw [hr]; nofun))
      rw [hr] at HC HS
      simp only [bind_ok] at HS
      clear hr
      go_wp2_with fail
      refine Calls.mono HC.out ?_
      intro e w2 hp
      obtain ⟨⟨v2, rfl, p2, rfl, hn2⟩, hrd, ha⟩ := hp
      clear HC
      have HA2 := hide ((unhide HA1).next ha)
      have HR2 := hide hrd
      have HN2 := hide (nat_mono hn2 (unhide HA1).size)
      clear hn2
      clear hrd ha HA1 HR1
      cases hr : mustP c.l tShut j2 with
      | out =>
        rw [hr] at HS
        simp only [bind_out] at HS
        exact absurd (unhide HS).symm (unhide HO)
      | bad er p =>
        have HC := hide (must_any c tShut w2 j2 d (unhide HR2) (by decide))
        rw [hr] at HC HS
        simp only [bind_bad] at HS
        clear hr
        go_wp2_with fail
        refine Calls.mono HC.out ?_
        intro e w' hp
        obtain ⟨rfl, ha⟩ := hp
        exact ⟨rfl, ppBad (unhide HS).symm ((unhide HA2).next ha)⟩
      | ok x3 j3 =>
        have HC := hide (must_any c tShut w2 j2 d (unhide HR2) (by decide))
        rw [hr] at HC HS
        simp only [bind_ok] at HS
        clear hr
        go_wp2_with fail
        refine Calls.mono HC.out ?_
        intro e w3 hp
        obtain ⟨⟨v3, rfl, rfl⟩, hrd, ha⟩ := hp
        clear HC
        have HA3 := hide ((unhide HA2).next ha)
        have HR3 := hide hrd
        replace HN2 := hide (nat_later (unhide HN2) ha (unhide HLT))
        clear hrd ha HA2 HR2
        go_wp2_with fail
        go_ret
        exact ppOk (unhide HS).symm ⟨p2, rfl, unhide HN2⟩ (unhide HR3) (unhide HA3)

end Go.Proofs.YtodmgaikhbmlnaaGreatDoor
