/-
  Whether a value begins.
-/
import Derived.Test.YtodmgaikhbmlnaaGreatDoorTk8
import Derived.Test.YtodmgaikhbmlnaaGreatDoorTk7
set_option maxRecDepth 100000
set_option maxHeartbeats 16000000
namespace Go.Proofs.YtodmgaikhbmlnaaGreatDoor
open Go.RowKit

theorem w3_any {c : Ctx} {b : Nat} {w1 W2 : World} {i d : Nat} {v0 v1 v2 v3 : Value} (h : Rdr c w1 i d) (hlo : c.lo ≤ b) (p1 : w1.heap[b]? = some O160)
    (hW : W2 = (((w1.setCell ⟨b, 0, none⟩ v0).setCell ⟨b, 1, none⟩ v1).setCell ⟨b, 2, none⟩ v2).setCell ⟨b, 3, none⟩ v3) :
    Rdr c W2 i d ∧ Below b w1 W2 ∧ C160 b W2 v0 v1 v2 v3 := by
  have hB : Below b w1 W2 := by
    rw [hW]
    exact ((((Below.refl _ w1).setCell (p := ⟨b, 0, none⟩) (Nat.le_refl _) v0).setCell (p := ⟨b, 1, none⟩) (Nat.le_refl _) v1).setCell (p := ⟨b, 2, none⟩) (Nat.le_refl _) v2).setCell (p := ⟨b, 3, none⟩) (Nat.le_refl _) v3
  refine ⟨h.ap hB hlo, hB, c160 ?_⟩
  rw [hW]
  exact set4 p1 v0 v1 v2 v3

theorem av_name {c : Ctx} (w : World) (d i : Nat) (hk : (tkA c.l i).kd = 1) (h : Rdr c w i d) : Calls Tryz.prog 279 #[rPtr c] w fun e w' => e = .returned (.bool true) ∧ Below w.heap.size w w' := by
  have HR0 := hide h
  have HB0 := hide (Below.refl w.heap.size w)
  have b1 : ((tkA c.l i).kd == 1) = true := by rw [hk]; decide
  have b3 : ((tkA c.l i).kd == 3) = false := by rw [hk]; decide
  have b4 : ((tkA c.l i).kd == 4) = false := by rw [hk]; decide
  clear h hk
  go_enter Tryz.func279, Tryz.ntmps279
  have HC := hide (token_any c w i d (unhide HR0))
  unfold tkV at HC
  have hfl := fldKind (tkA c.l i)
  go_wp2_with fail
  refine Calls.mono HC.out ?_
  rintro e wt ⟨rfl, hbt⟩
  clear HC
  have HRt := hide ((unhide HR0).later hbt)
  have HBt := hide hbt
  clear hbt
  go_wp2_with fail
  go_ret
  exact ⟨rfl, unhide HBt⟩

theorem av_num {c : Ctx} (w : World) (d i : Nat) (hk : (tkA c.l i).kd = 3) (h : Rdr c w i d) : Calls Tryz.prog 279 #[rPtr c] w fun e w' => e = .returned (.bool true) ∧ Below w.heap.size w w' := by
  have HR0 := hide h
  have HB0 := hide (Below.refl w.heap.size w)
  have b1 : ((tkA c.l i).kd == 1) = false := by rw [hk]; decide
  have b3 : ((tkA c.l i).kd == 3) = true := by rw [hk]; decide
  have b4 : ((tkA c.l i).kd == 4) = false := by rw [hk]; decide
  clear h hk
  go_enter Tryz.func279, Tryz.ntmps279
  have HC := hide (token_any c w i d (unhide HR0))
  unfold tkV at HC
  have hfl := fldKind (tkA c.l i)
  go_wp2_with fail
  refine Calls.mono HC.out ?_
  rintro e wt ⟨rfl, hbt⟩
  clear HC
  have HRt := hide ((unhide HR0).later hbt)
  have HBt := hide hbt
  clear hbt
  go_wp2_with fail
  go_ret
  exact ⟨rfl, unhide HBt⟩

theorem av_str {c : Ctx} (w : World) (d i : Nat) (hk : (tkA c.l i).kd = 4) (h : Rdr c w i d) : Calls Tryz.prog 279 #[rPtr c] w fun e w' => e = .returned (.bool true) ∧ Below w.heap.size w w' := by
  have HR0 := hide h
  have HB0 := hide (Below.refl w.heap.size w)
  have b1 : ((tkA c.l i).kd == 1) = false := by rw [hk]; decide
  have b3 : ((tkA c.l i).kd == 3) = false := by rw [hk]; decide
  have b4 : ((tkA c.l i).kd == 4) = true := by rw [hk]; decide
  clear h hk
  go_enter Tryz.func279, Tryz.ntmps279
  have HC := hide (token_any c w i d (unhide HR0))
  unfold tkV at HC
  have hfl := fldKind (tkA c.l i)
  go_wp2_with fail
  refine Calls.mono HC.out ?_
  rintro e wt ⟨rfl, hbt⟩
  clear HC
  have HRt := hide ((unhide HR0).later hbt)
  have HBt := hide hbt
  clear hbt
  go_wp2_with fail
  go_ret
  exact ⟨rfl, unhide HBt⟩

theorem av_map {c : Ctx} (w : World) (d i : Nat) (h1 : (tkA c.l i).kd ≠ 1) (h3 : (tkA c.l i).kd ≠ 3) (h4 : (tkA c.l i).kd ≠ 4) (q : Nat) (hq : look2 vlKeys (fx c.l i) = some q) (h : Rdr c w i d) : Calls Tryz.prog 279 #[rPtr c] w fun e w' => e = .returned (.bool true) ∧ Below w.heap.size w w' := by
  have HR0 := hide h
  have HB0 := hide (Below.refl w.heap.size w)
  have b1 : ((tkA c.l i).kd == 1) = false := beq_eq_false_iff_ne.2 h1
  have b3 : ((tkA c.l i).kd == 3) = false := beq_eq_false_iff_ne.2 h3
  have b4 : ((tkA c.l i).kd == 4) = false := beq_eq_false_iff_ne.2 h4
  have HL : Hid (∀ W : World, Rdr c W i d → (Instr.lookup 168 (.map (some c.mV)) (.string (fx c.l i)) true).run Tryz.prog W = .ok (.tuple #[.func (.func (vlFn q)) #[.pointer (some ⟨c.R, 0, none⟩)] #[], .bool true]) W) := fun W hW => by
    have := look_vals c (fx c.l i) W hW.base.vals
    rw [hq] at this
    exact this
  clear h h1 h3 h4 hq
  go_enter Tryz.func279, Tryz.ntmps279
  have HC := hide (token_any c w i d (unhide HR0))
  unfold tkV at HC
  have hfl := fldKind (tkA c.l i)
  go_wp2_with fail
  refine Calls.mono HC.out ?_
  rintro e wt ⟨rfl, hbt⟩
  clear HC
  have HRt := hide ((unhide HR0).later hbt)
  have HBt := hide hbt
  clear hbt
  go_wp2_with fail
  refine wp_region_held (S := fun W => Rdr c W i d) (by kernel_rfl) ?_
  change wpAnyH _ _ _ _ _ _ _ _ (World.drew _)
  refine wpAnyH_take (i := 0) (v := rPtr c) rfl (by kernel_rfl) (by kernel_rfl) (by kernel_rfl) (fun _ _ _ h => h) (Or.inl ⟨by kernel_rfl, fun W _ => by go_simp⟩) (unhide HRt).drew ?_
  refine wpAnyH_take (i := 1) (v := rPtr c) rfl (by kernel_rfl) (by kernel_rfl) (by kernel_rfl) (fun _ _ _ h => h) (Or.inl ⟨by kernel_rfl, fun W _ => by go_simp⟩) (unhide HRt).drew ?_
  refine wpAnyH_take (i := 2) (v := .pointer (some ⟨c.R, 5, none⟩)) rfl (by kernel_rfl) (by kernel_rfl) (by kernel_rfl) (fun _ _ _ h => h) (Or.inl ⟨by kernel_rfl, fun W _ => by go_simp⟩) (unhide HRt).drew ?_
  refine wpAnyH_take (i := 3) (v := .map (some c.mV)) rfl (by kernel_rfl) (by kernel_rfl) (by kernel_rfl) (fun _ _ _ h => h) (Or.inl ⟨by kernel_rfl, fun W hW => by have hh := Rdr.c5 hW; go_simp⟩) (unhide HRt).drew ?_
  refine wpAnyH_take (i := 4) (v := rPtr c) rfl (by kernel_rfl) (by kernel_rfl) (by kernel_rfl) (fun _ _ _ h => h) (Or.inl ⟨by kernel_rfl, fun W _ => by go_simp⟩) (unhide HRt).drew ?_
  refine wpAnyH_ready (rs := [5]) (by kernel_rfl) (by simp) (AllReadyH.cons rfl (fun K hK => ?_) AllReadyH.nil)
  go_simp
  refine Calls.mono (fixed_any c _ i d (unhide HRt).drew) ?_
  rintro e wq ⟨rfl, hbq⟩
  have HRq := hide ((unhide HRt).drew.later hbq)
  have HBq := hide ((unhide HBt).trans (((Below.refl _ _).drew.trans hbq).mono (unhide HBt).size))
  clear hbq
  refine hK.out _ _ (unhide HRq) (fun _ => ?_)
  clear hK K
  refine wpAnyH_take (i := 6) (v := .tuple #[.func (.func (vlFn q)) #[.pointer (some ⟨c.R, 0, none⟩)] #[], .bool true]) rfl (by kernel_rfl) (by kernel_rfl) (by kernel_rfl) (fun _ _ _ h => h) (Or.inl ⟨by kernel_rfl, fun W hW => by have hh := (unhide HL) W hW; go_simp⟩) (unhide HRq) ?_
  refine wpAnyH_take (i := 7) (v := .tuple #[.func (.func (vlFn q)) #[.pointer (some ⟨c.R, 0, none⟩)] #[], .bool true]) rfl (by kernel_rfl) (by kernel_rfl) (by kernel_rfl) (fun _ _ _ h => h) (Or.inl ⟨by kernel_rfl, fun W _ => by go_simp⟩) (unhide HRq) ?_
  refine wpAnyH_take (i := 8) (v := .func (.func (vlFn q)) #[.pointer (some ⟨c.R, 0, none⟩)] #[]) rfl (by kernel_rfl) (by kernel_rfl) (by kernel_rfl) (fun _ _ _ h => h) (Or.inl ⟨by kernel_rfl, fun W _ => by go_simp⟩) (unhide HRq) ?_
  refine wpAnyH_take (i := 9) (v := .bool true) rfl (by kernel_rfl) (by kernel_rfl) (by kernel_rfl) (fun _ _ _ h => h) (Or.inl ⟨by kernel_rfl, fun W _ => by go_simp⟩) (unhide HRq) ?_
  refine wpAnyH_take (i := 10) (v := .func (.func (vlFn q)) #[.pointer (some ⟨c.R, 0, none⟩)] #[]) rfl (by kernel_rfl) (by kernel_rfl) (by kernel_rfl) (fun _ _ _ h => h) (Or.inl ⟨by kernel_rfl, fun W _ => by go_simp⟩) (unhide HRq) ?_
  refine wpAnyH_take (i := 11) (v := .bool true) rfl (by kernel_rfl) (by kernel_rfl) (by kernel_rfl) (fun _ _ _ h => h) (Or.inl ⟨by kernel_rfl, fun W _ => by go_simp⟩) (unhide HRq) ?_
  refine wpAnyH_done (by kernel_rfl) ?_ _
  go_simp
  go_wp2_with fail
  go_ret
  exact ⟨rfl, unhide HBq⟩

theorem av_none {c : Ctx} (w : World) (d i : Nat) (h1 : (tkA c.l i).kd ≠ 1) (h3 : (tkA c.l i).kd ≠ 3) (h4 : (tkA c.l i).kd ≠ 4) (hq : look2 vlKeys (fx c.l i) = none) (hsg : sgOf (fx c.l i) = none) (h : Rdr c w i d) : Calls Tryz.prog 279 #[rPtr c] w fun e w' => e = .returned (.bool false) ∧ Below w.heap.size w w' := by
  have HR0 := hide h
  have HB0 := hide (Below.refl w.heap.size w)
  have b1 : ((tkA c.l i).kd == 1) = false := beq_eq_false_iff_ne.2 h1
  have b3 : ((tkA c.l i).kd == 3) = false := beq_eq_false_iff_ne.2 h3
  have b4 : ((tkA c.l i).kd == 4) = false := beq_eq_false_iff_ne.2 h4
  have HL : Hid (∀ W : World, Rdr c W i d → (Instr.lookup 168 (.map (some c.mV)) (.string (fx c.l i)) true).run Tryz.prog W = .ok (.tuple #[.nilFunc, .bool false]) W) := fun W hW => by
    have := look_vals c (fx c.l i) W hW.base.vals
    rw [hq] at this
    exact this
  have HL2 : Hid (∀ W : World, Rdr c W i d → (Instr.lookup 166 (.map (some c.mS)) (.string (fx c.l i)) true).run Tryz.prog W = .ok (.tuple #[.agg #[.string ⟨#[]⟩, .int .i64 0, .int .i64 0, .int .i64 0], .bool false]) W) := fun W hW => by
    have := look_signs c (fx c.l i) W hW.base.signs
    rw [hsg] at this
    exact this
  clear h h1 h3 h4 hq hsg
  go_enter Tryz.func279, Tryz.ntmps279
  have HC := hide (token_any c w i d (unhide HR0))
  unfold tkV at HC
  have hfl := fldKind (tkA c.l i)
  go_wp2_with fail
  refine Calls.mono HC.out ?_
  rintro e wt ⟨rfl, hbt⟩
  clear HC
  have HRt := hide ((unhide HR0).later hbt)
  have HBt := hide hbt
  clear hbt
  go_wp2_with fail
  refine wp_region_held (S := fun W => Rdr c W i d) (by kernel_rfl) ?_
  change wpAnyH _ _ _ _ _ _ _ _ (World.drew _)
  refine wpAnyH_take (i := 0) (v := rPtr c) rfl (by kernel_rfl) (by kernel_rfl) (by kernel_rfl) (fun _ _ _ h => h) (Or.inl ⟨by kernel_rfl, fun W _ => by go_simp⟩) (unhide HRt).drew ?_
  refine wpAnyH_take (i := 1) (v := rPtr c) rfl (by kernel_rfl) (by kernel_rfl) (by kernel_rfl) (fun _ _ _ h => h) (Or.inl ⟨by kernel_rfl, fun W _ => by go_simp⟩) (unhide HRt).drew ?_
  refine wpAnyH_take (i := 2) (v := .pointer (some ⟨c.R, 5, none⟩)) rfl (by kernel_rfl) (by kernel_rfl) (by kernel_rfl) (fun _ _ _ h => h) (Or.inl ⟨by kernel_rfl, fun W _ => by go_simp⟩) (unhide HRt).drew ?_
  refine wpAnyH_take (i := 3) (v := .map (some c.mV)) rfl (by kernel_rfl) (by kernel_rfl) (by kernel_rfl) (fun _ _ _ h => h) (Or.inl ⟨by kernel_rfl, fun W hW => by have hh := Rdr.c5 hW; go_simp⟩) (unhide HRt).drew ?_
  refine wpAnyH_take (i := 4) (v := rPtr c) rfl (by kernel_rfl) (by kernel_rfl) (by kernel_rfl) (fun _ _ _ h => h) (Or.inl ⟨by kernel_rfl, fun W _ => by go_simp⟩) (unhide HRt).drew ?_
  refine wpAnyH_ready (rs := [5]) (by kernel_rfl) (by simp) (AllReadyH.cons rfl (fun K hK => ?_) AllReadyH.nil)
  go_simp
  refine Calls.mono (fixed_any c _ i d (unhide HRt).drew) ?_
  rintro e wq ⟨rfl, hbq⟩
  have HRq := hide ((unhide HRt).drew.later hbq)
  have HBq := hide ((unhide HBt).trans (((Below.refl _ _).drew.trans hbq).mono (unhide HBt).size))
  clear hbq
  refine hK.out _ _ (unhide HRq) (fun _ => ?_)
  clear hK K
  refine wpAnyH_take (i := 6) (v := .tuple #[.nilFunc, .bool false]) rfl (by kernel_rfl) (by kernel_rfl) (by kernel_rfl) (fun _ _ _ h => h) (Or.inl ⟨by kernel_rfl, fun W hW => by have hh := (unhide HL) W hW; go_simp⟩) (unhide HRq) ?_
  refine wpAnyH_take (i := 7) (v := .tuple #[.nilFunc, .bool false]) rfl (by kernel_rfl) (by kernel_rfl) (by kernel_rfl) (fun _ _ _ h => h) (Or.inl ⟨by kernel_rfl, fun W _ => by go_simp⟩) (unhide HRq) ?_
  refine wpAnyH_take (i := 8) (v := .nilFunc) rfl (by kernel_rfl) (by kernel_rfl) (by kernel_rfl) (fun _ _ _ h => h) (Or.inl ⟨by kernel_rfl, fun W _ => by go_simp⟩) (unhide HRq) ?_
  refine wpAnyH_take (i := 9) (v := .bool false) rfl (by kernel_rfl) (by kernel_rfl) (by kernel_rfl) (fun _ _ _ h => h) (Or.inl ⟨by kernel_rfl, fun W _ => by go_simp⟩) (unhide HRq) ?_
  refine wpAnyH_take (i := 10) (v := .nilFunc) rfl (by kernel_rfl) (by kernel_rfl) (by kernel_rfl) (fun _ _ _ h => h) (Or.inl ⟨by kernel_rfl, fun W _ => by go_simp⟩) (unhide HRq) ?_
  refine wpAnyH_take (i := 11) (v := .bool false) rfl (by kernel_rfl) (by kernel_rfl) (by kernel_rfl) (fun _ _ _ h => h) (Or.inl ⟨by kernel_rfl, fun W _ => by go_simp⟩) (unhide HRq) ?_
  refine wpAnyH_done (by kernel_rfl) ?_ _
  go_simp
  have HLO := hide (unhide HRq).base.size
  go_wp2_with fail
  refine wp_region_held (S := fun W => Rdr c W i d) (by kernel_rfl) ?_
  change wpAnyH _ _ _ _ _ _ _ _ (World.drew _)
  refine wpAnyH_take (i := 0) (v := rPtr c) rfl (by kernel_rfl) (by kernel_rfl) (by kernel_rfl) (fun _ _ _ h => h) (Or.inl ⟨by kernel_rfl, fun W _ => by go_simp⟩) (unhide HRq).drew ?_
  refine wpAnyH_take (i := 1) (v := rPtr c) rfl (by kernel_rfl) (by kernel_rfl) (by kernel_rfl) (fun _ _ _ h => h) (Or.inl ⟨by kernel_rfl, fun W _ => by go_simp⟩) (unhide HRq).drew ?_
  refine wpAnyH_take (i := 2) (v := .pointer (some ⟨c.R, 3, none⟩)) rfl (by kernel_rfl) (by kernel_rfl) (by kernel_rfl) (fun _ _ _ h => h) (Or.inl ⟨by kernel_rfl, fun W _ => by go_simp⟩) (unhide HRq).drew ?_
  refine wpAnyH_take (i := 3) (v := .map (some c.mS)) rfl (by kernel_rfl) (by kernel_rfl) (by kernel_rfl) (fun _ _ _ h => h) (Or.inl ⟨by kernel_rfl, fun W hW => by have hh := Rdr.c3 hW; go_simp⟩) (unhide HRq).drew ?_
  refine wpAnyH_take (i := 4) (v := rPtr c) rfl (by kernel_rfl) (by kernel_rfl) (by kernel_rfl) (fun _ _ _ h => h) (Or.inl ⟨by kernel_rfl, fun W _ => by go_simp⟩) (unhide HRq).drew ?_
  refine wpAnyH_ready (rs := [5, 10]) (by kernel_rfl) (by simp) (AllReadyH.cons rfl (fun K hK => ?_) (AllReadyH.cons rfl (fun K hK => ?_) AllReadyH.nil))
  · go_simp
    refine Calls.mono (fixed_any c _ i d (unhide HRq).drew) ?_
    rintro e w1 ⟨rfl, hb⟩
    have HR1 := hide ((unhide HRq).drew.later hb)
    have HB1 := hide ((unhide HBq).trans (((Below.refl _ _).drew.trans hb).mono (unhide HBq).size))
    clear hb
    refine hK.out _ _ (unhide HR1) (fun _ => ?_)
    clear hK K
    refine wpAnyH_take (i := 6) (v := .tuple #[.agg #[.string ⟨#[]⟩, .int .i64 0, .int .i64 0, .int .i64 0], .bool false]) rfl (by kernel_rfl) (by kernel_rfl) (by kernel_rfl) (fun _ _ _ h => h) (Or.inl ⟨by kernel_rfl, fun W hW => by have hh := (unhide HL2) W hW; go_simp⟩) (unhide HR1) ?_
    refine wpAnyH_take (i := 7) (v := .tuple #[.agg #[.string ⟨#[]⟩, .int .i64 0, .int .i64 0, .int .i64 0], .bool false]) rfl (by kernel_rfl) (by kernel_rfl) (by kernel_rfl) (fun _ _ _ h => h) (Or.inl ⟨by kernel_rfl, fun W _ => by go_simp⟩) (unhide HR1) ?_
    refine wpAnyH_take (i := 8) (v := .agg #[.string ⟨#[]⟩, .int .i64 0, .int .i64 0, .int .i64 0]) rfl (by kernel_rfl) (by kernel_rfl) (by kernel_rfl) (fun _ _ _ h => h) (Or.inl ⟨by kernel_rfl, fun W _ => by go_simp⟩) (unhide HR1) ?_
    refine wpAnyH_take (i := 9) (v := .bool false) rfl (by kernel_rfl) (by kernel_rfl) (by kernel_rfl) (fun _ _ _ h => h) (Or.inl ⟨by kernel_rfl, fun W _ => by go_simp⟩) (unhide HR1) ?_
    refine wpAnyH_ready (rs := [10]) (by kernel_rfl) (by simp) (AllReadyH.cons rfl (fun K hK => ?_) AllReadyH.nil)
    go_simp
    refine hK.out _ _ ((unhide HR1).alloc O160) (fun _ => ?_)
    clear hK K
    refine wpAnyH_ready (rs := [11]) (by kernel_rfl) (by simp) (AllReadyH.cons rfl (fun K hK => ?_) AllReadyH.nil)
    go_simp
    have HR2 := hide ((unhide HR1).alloc (.cells #[.string ⟨#[]⟩, .int .i64 0, .int .i64 0, .int .i64 0] 175))
    have HW2 := hide ((unhide HB1).alloc (unhide HB1).size (.cells #[.string ⟨#[]⟩, .int .i64 0, .int .i64 0, .int .i64 0] 175))
    refine hK.out _ _ (unhide HR2) (fun _ => ?_)
    clear hK K
    refine wpAnyH_take (i := 12) (v := .bool false) rfl (by kernel_rfl) (by kernel_rfl) (by kernel_rfl) (fun _ _ _ h => h) (Or.inl ⟨by kernel_rfl, fun W _ => by go_simp⟩) (unhide HR2) ?_
    refine wpAnyH_done (by kernel_rfl) ?_ _
    go_simp
    go_wp2_with fail
    go_ret
    exact ⟨rfl, unhide HW2⟩
  · go_simp
    have HR' := hide (((unhide HRq).alloc O160).drew)
    refine hK.out _ _ (unhide HR') (fun _ => ?_)
    clear hK K
    refine wpAnyH_ready (rs := [5]) (by kernel_rfl) (by simp) (AllReadyH.cons rfl (fun K hK => ?_) AllReadyH.nil)
    go_simp
    refine Calls.mono (fixed_any c _ i d (unhide HR')) ?_
    rintro e w1 ⟨rfl, hb⟩
    have HR1 := hide ((unhide HR').later hb)
    have HB1 := hide ((unhide HBq).trans ((((Below.refl wq.heap.size wq).alloc (Nat.le_refl _) O160).drew.trans (hb.mono (by simp))).mono (unhide HBq).size))
    have p1 : w1.heap[wq.heap.size]? = some O160 := (hb.block _ (by simp)).trans (heap_new wq O160)
    obtain ⟨r0, r1, r2, r3, rf, rlt⟩ := c160 p1
    have P1 := hide p1
    clear hb p1
    refine hK.out _ _ (unhide HR1) (fun _ => ?_)
    clear hK K
    refine wpAnyH_take (i := 6) (v := .tuple #[.agg #[.string ⟨#[]⟩, .int .i64 0, .int .i64 0, .int .i64 0], .bool false]) rfl (by kernel_rfl) (by kernel_rfl) (by kernel_rfl) (fun _ _ _ h => h) (Or.inl ⟨by kernel_rfl, fun W hW => by have hh := (unhide HL2) W hW; go_simp⟩) (unhide HR1) ?_
    refine wpAnyH_take (i := 7) (v := .tuple #[.agg #[.string ⟨#[]⟩, .int .i64 0, .int .i64 0, .int .i64 0], .bool false]) rfl (by kernel_rfl) (by kernel_rfl) (by kernel_rfl) (fun _ _ _ h => h) (Or.inl ⟨by kernel_rfl, fun W _ => by go_simp⟩) (unhide HR1) ?_
    refine wpAnyH_take (i := 8) (v := .agg #[.string ⟨#[]⟩, .int .i64 0, .int .i64 0, .int .i64 0]) rfl (by kernel_rfl) (by kernel_rfl) (by kernel_rfl) (fun _ _ _ h => h) (Or.inl ⟨by kernel_rfl, fun W _ => by go_simp⟩) (unhide HR1) ?_
    refine wpAnyH_take (i := 9) (v := .bool false) rfl (by kernel_rfl) (by kernel_rfl) (by kernel_rfl) (fun _ _ _ h => h) (Or.inl ⟨by kernel_rfl, fun W _ => by go_simp⟩) (unhide HR1) ?_
    refine wpAnyH_ready (rs := [11]) (by kernel_rfl) (by simp) (AllReadyH.cons rfl (fun K hK => ?_) AllReadyH.nil)
    go_simp
    clear r0 r1 r2 r3 rf rlt
    obtain ⟨W2, hW2⟩ : ∃ W2, W2 = (((w1.setCell ⟨wq.heap.size, 0, none⟩ (.string ⟨#[]⟩)).setCell ⟨wq.heap.size, 1, none⟩ (.int .i64 0)).setCell ⟨wq.heap.size, 2, none⟩ (.int .i64 0)).setCell ⟨wq.heap.size, 3, none⟩ (.int .i64 0) := ⟨_, rfl⟩
    obtain ⟨hr2, hb2, ⟨s0, s1, s2, s3, sf, slt⟩⟩ := w3_any (v0 := .string ⟨#[]⟩) (v1 := .int .i64 0) (v2 := .int .i64 0) (v3 := .int .i64 0) (unhide HR1) (unhide HLO) (unhide P1) hW2
    have HR2 := hide hr2
    have HW2 := hide ((unhide HB1).trans (hb2.mono (unhide HBq).size))
    rw [← hW2]
    clear hW2 hr2 hb2
    refine hK.out _ _ (unhide HR2) (fun _ => ?_)
    clear hK K
    refine wpAnyH_take (i := 12) (v := .bool false) rfl (by kernel_rfl) (by kernel_rfl) (by kernel_rfl) (fun _ _ _ h => h) (Or.inl ⟨by kernel_rfl, fun W _ => by go_simp⟩) (unhide HR2) ?_
    refine wpAnyH_done (by kernel_rfl) ?_ _
    go_simp
    go_wp2_with fail
    go_ret
    exact ⟨rfl, unhide HW2⟩

theorem av_some {c : Ctx} (w : World) (d i : Nat) (h1 : (tkA c.l i).kd ≠ 1) (h3 : (tkA c.l i).kd ≠ 3) (h4 : (tkA c.l i).kd ≠ 4) (x : Sg) (hq : look2 vlKeys (fx c.l i) = none) (hsg : sgOf (fx c.l i) = some x) (h : Rdr c w i d) : Calls Tryz.prog 279 #[rPtr c] w fun e w' => e = .returned (.bool (decide (x.parts < 2))) ∧ Below w.heap.size w w' := by
  have HR0 := hide h
  have HB0 := hide (Below.refl w.heap.size w)
  have b1 : ((tkA c.l i).kd == 1) = false := beq_eq_false_iff_ne.2 h1
  have b3 : ((tkA c.l i).kd == 3) = false := beq_eq_false_iff_ne.2 h3
  have b4 : ((tkA c.l i).kd == 4) = false := beq_eq_false_iff_ne.2 h4
  have HL : Hid (∀ W : World, Rdr c W i d → (Instr.lookup 168 (.map (some c.mV)) (.string (fx c.l i)) true).run Tryz.prog W = .ok (.tuple #[.nilFunc, .bool false]) W) := fun W hW => by
    have := look_vals c (fx c.l i) W hW.base.vals
    rw [hq] at this
    exact this
  have HL2 : Hid (∀ W : World, Rdr c W i d → (Instr.lookup 166 (.map (some c.mS)) (.string (fx c.l i)) true).run Tryz.prog W = .ok (.tuple #[.agg #[.string x.tx, .int .i64 x.kd, .int .i64 x.parts, .int .i64 x.str], .bool true]) W) := fun W hW => by
    have := look_signs c (fx c.l i) W hW.base.signs
    rw [hsg] at this
    exact this
  clear h h1 h3 h4 hq hsg
  go_enter Tryz.func279, Tryz.ntmps279
  have HC := hide (token_any c w i d (unhide HR0))
  unfold tkV at HC
  have hfl := fldKind (tkA c.l i)
  go_wp2_with fail
  refine Calls.mono HC.out ?_
  rintro e wt ⟨rfl, hbt⟩
  clear HC
  have HRt := hide ((unhide HR0).later hbt)
  have HBt := hide hbt
  clear hbt
  go_wp2_with fail
  refine wp_region_held (S := fun W => Rdr c W i d) (by kernel_rfl) ?_
  change wpAnyH _ _ _ _ _ _ _ _ (World.drew _)
  refine wpAnyH_take (i := 0) (v := rPtr c) rfl (by kernel_rfl) (by kernel_rfl) (by kernel_rfl) (fun _ _ _ h => h) (Or.inl ⟨by kernel_rfl, fun W _ => by go_simp⟩) (unhide HRt).drew ?_
  refine wpAnyH_take (i := 1) (v := rPtr c) rfl (by kernel_rfl) (by kernel_rfl) (by kernel_rfl) (fun _ _ _ h => h) (Or.inl ⟨by kernel_rfl, fun W _ => by go_simp⟩) (unhide HRt).drew ?_
  refine wpAnyH_take (i := 2) (v := .pointer (some ⟨c.R, 5, none⟩)) rfl (by kernel_rfl) (by kernel_rfl) (by kernel_rfl) (fun _ _ _ h => h) (Or.inl ⟨by kernel_rfl, fun W _ => by go_simp⟩) (unhide HRt).drew ?_
  refine wpAnyH_take (i := 3) (v := .map (some c.mV)) rfl (by kernel_rfl) (by kernel_rfl) (by kernel_rfl) (fun _ _ _ h => h) (Or.inl ⟨by kernel_rfl, fun W hW => by have hh := Rdr.c5 hW; go_simp⟩) (unhide HRt).drew ?_
  refine wpAnyH_take (i := 4) (v := rPtr c) rfl (by kernel_rfl) (by kernel_rfl) (by kernel_rfl) (fun _ _ _ h => h) (Or.inl ⟨by kernel_rfl, fun W _ => by go_simp⟩) (unhide HRt).drew ?_
  refine wpAnyH_ready (rs := [5]) (by kernel_rfl) (by simp) (AllReadyH.cons rfl (fun K hK => ?_) AllReadyH.nil)
  go_simp
  refine Calls.mono (fixed_any c _ i d (unhide HRt).drew) ?_
  rintro e wq ⟨rfl, hbq⟩
  have HRq := hide ((unhide HRt).drew.later hbq)
  have HBq := hide ((unhide HBt).trans (((Below.refl _ _).drew.trans hbq).mono (unhide HBt).size))
  clear hbq
  refine hK.out _ _ (unhide HRq) (fun _ => ?_)
  clear hK K
  refine wpAnyH_take (i := 6) (v := .tuple #[.nilFunc, .bool false]) rfl (by kernel_rfl) (by kernel_rfl) (by kernel_rfl) (fun _ _ _ h => h) (Or.inl ⟨by kernel_rfl, fun W hW => by have hh := (unhide HL) W hW; go_simp⟩) (unhide HRq) ?_
  refine wpAnyH_take (i := 7) (v := .tuple #[.nilFunc, .bool false]) rfl (by kernel_rfl) (by kernel_rfl) (by kernel_rfl) (fun _ _ _ h => h) (Or.inl ⟨by kernel_rfl, fun W _ => by go_simp⟩) (unhide HRq) ?_
  refine wpAnyH_take (i := 8) (v := .nilFunc) rfl (by kernel_rfl) (by kernel_rfl) (by kernel_rfl) (fun _ _ _ h => h) (Or.inl ⟨by kernel_rfl, fun W _ => by go_simp⟩) (unhide HRq) ?_
  refine wpAnyH_take (i := 9) (v := .bool false) rfl (by kernel_rfl) (by kernel_rfl) (by kernel_rfl) (fun _ _ _ h => h) (Or.inl ⟨by kernel_rfl, fun W _ => by go_simp⟩) (unhide HRq) ?_
  refine wpAnyH_take (i := 10) (v := .nilFunc) rfl (by kernel_rfl) (by kernel_rfl) (by kernel_rfl) (fun _ _ _ h => h) (Or.inl ⟨by kernel_rfl, fun W _ => by go_simp⟩) (unhide HRq) ?_
  refine wpAnyH_take (i := 11) (v := .bool false) rfl (by kernel_rfl) (by kernel_rfl) (by kernel_rfl) (fun _ _ _ h => h) (Or.inl ⟨by kernel_rfl, fun W _ => by go_simp⟩) (unhide HRq) ?_
  refine wpAnyH_done (by kernel_rfl) ?_ _
  go_simp
  have HLO := hide (unhide HRq).base.size
  go_wp2_with fail
  refine wp_region_held (S := fun W => Rdr c W i d) (by kernel_rfl) ?_
  change wpAnyH _ _ _ _ _ _ _ _ (World.drew _)
  refine wpAnyH_take (i := 0) (v := rPtr c) rfl (by kernel_rfl) (by kernel_rfl) (by kernel_rfl) (fun _ _ _ h => h) (Or.inl ⟨by kernel_rfl, fun W _ => by go_simp⟩) (unhide HRq).drew ?_
  refine wpAnyH_take (i := 1) (v := rPtr c) rfl (by kernel_rfl) (by kernel_rfl) (by kernel_rfl) (fun _ _ _ h => h) (Or.inl ⟨by kernel_rfl, fun W _ => by go_simp⟩) (unhide HRq).drew ?_
  refine wpAnyH_take (i := 2) (v := .pointer (some ⟨c.R, 3, none⟩)) rfl (by kernel_rfl) (by kernel_rfl) (by kernel_rfl) (fun _ _ _ h => h) (Or.inl ⟨by kernel_rfl, fun W _ => by go_simp⟩) (unhide HRq).drew ?_
  refine wpAnyH_take (i := 3) (v := .map (some c.mS)) rfl (by kernel_rfl) (by kernel_rfl) (by kernel_rfl) (fun _ _ _ h => h) (Or.inl ⟨by kernel_rfl, fun W hW => by have hh := Rdr.c3 hW; go_simp⟩) (unhide HRq).drew ?_
  refine wpAnyH_take (i := 4) (v := rPtr c) rfl (by kernel_rfl) (by kernel_rfl) (by kernel_rfl) (fun _ _ _ h => h) (Or.inl ⟨by kernel_rfl, fun W _ => by go_simp⟩) (unhide HRq).drew ?_
  refine wpAnyH_ready (rs := [5, 10]) (by kernel_rfl) (by simp) (AllReadyH.cons rfl (fun K hK => ?_) (AllReadyH.cons rfl (fun K hK => ?_) AllReadyH.nil))
  · go_simp
    refine Calls.mono (fixed_any c _ i d (unhide HRq).drew) ?_
    rintro e w1 ⟨rfl, hb⟩
    have HR1 := hide ((unhide HRq).drew.later hb)
    have HB1 := hide ((unhide HBq).trans (((Below.refl _ _).drew.trans hb).mono (unhide HBq).size))
    clear hb
    refine hK.out _ _ (unhide HR1) (fun _ => ?_)
    clear hK K
    refine wpAnyH_take (i := 6) (v := .tuple #[.agg #[.string x.tx, .int .i64 x.kd, .int .i64 x.parts, .int .i64 x.str], .bool true]) rfl (by kernel_rfl) (by kernel_rfl) (by kernel_rfl) (fun _ _ _ h => h) (Or.inl ⟨by kernel_rfl, fun W hW => by have hh := (unhide HL2) W hW; go_simp⟩) (unhide HR1) ?_
    refine wpAnyH_take (i := 7) (v := .tuple #[.agg #[.string x.tx, .int .i64 x.kd, .int .i64 x.parts, .int .i64 x.str], .bool true]) rfl (by kernel_rfl) (by kernel_rfl) (by kernel_rfl) (fun _ _ _ h => h) (Or.inl ⟨by kernel_rfl, fun W _ => by go_simp⟩) (unhide HR1) ?_
    refine wpAnyH_take (i := 8) (v := .agg #[.string x.tx, .int .i64 x.kd, .int .i64 x.parts, .int .i64 x.str]) rfl (by kernel_rfl) (by kernel_rfl) (by kernel_rfl) (fun _ _ _ h => h) (Or.inl ⟨by kernel_rfl, fun W _ => by go_simp⟩) (unhide HR1) ?_
    refine wpAnyH_take (i := 9) (v := .bool true) rfl (by kernel_rfl) (by kernel_rfl) (by kernel_rfl) (fun _ _ _ h => h) (Or.inl ⟨by kernel_rfl, fun W _ => by go_simp⟩) (unhide HR1) ?_
    refine wpAnyH_ready (rs := [10]) (by kernel_rfl) (by simp) (AllReadyH.cons rfl (fun K hK => ?_) AllReadyH.nil)
    go_simp
    refine hK.out _ _ ((unhide HR1).alloc O160) (fun _ => ?_)
    clear hK K
    refine wpAnyH_ready (rs := [11]) (by kernel_rfl) (by simp) (AllReadyH.cons rfl (fun K hK => ?_) AllReadyH.nil)
    go_simp
    have HR2 := hide ((unhide HR1).alloc (.cells #[.string x.tx, .int .i64 x.kd, .int .i64 x.parts, .int .i64 x.str] 175))
    have HW2 := hide ((unhide HB1).alloc (unhide HB1).size (.cells #[.string x.tx, .int .i64 x.kd, .int .i64 x.parts, .int .i64 x.str] 175))
    refine hK.out _ _ (unhide HR2) (fun _ => ?_)
    clear hK K
    refine wpAnyH_take (i := 12) (v := .bool true) rfl (by kernel_rfl) (by kernel_rfl) (by kernel_rfl) (fun _ _ _ h => h) (Or.inl ⟨by kernel_rfl, fun W _ => by go_simp⟩) (unhide HR2) ?_
    refine wpAnyH_done (by kernel_rfl) ?_ _
    go_simp
    go_wp2_with fail
    go_ret
    exact ⟨ret_bool (by simp), unhide HW2⟩
  · go_simp
    have HR' := hide (((unhide HRq).alloc O160).drew)
    refine hK.out _ _ (unhide HR') (fun _ => ?_)
    clear hK K
    refine wpAnyH_ready (rs := [5]) (by kernel_rfl) (by simp) (AllReadyH.cons rfl (fun K hK => ?_) AllReadyH.nil)
    go_simp
    refine Calls.mono (fixed_any c _ i d (unhide HR')) ?_
    rintro e w1 ⟨rfl, hb⟩
    have HR1 := hide ((unhide HR').later hb)
    have HB1 := hide ((unhide HBq).trans ((((Below.refl wq.heap.size wq).alloc (Nat.le_refl _) O160).drew.trans (hb.mono (by simp))).mono (unhide HBq).size))
    have p1 : w1.heap[wq.heap.size]? = some O160 := (hb.block _ (by simp)).trans (heap_new wq O160)
    obtain ⟨r0, r1, r2, r3, rf, rlt⟩ := c160 p1
    have P1 := hide p1
    clear hb p1
    refine hK.out _ _ (unhide HR1) (fun _ => ?_)
    clear hK K
    refine wpAnyH_take (i := 6) (v := .tuple #[.agg #[.string x.tx, .int .i64 x.kd, .int .i64 x.parts, .int .i64 x.str], .bool true]) rfl (by kernel_rfl) (by kernel_rfl) (by kernel_rfl) (fun _ _ _ h => h) (Or.inl ⟨by kernel_rfl, fun W hW => by have hh := (unhide HL2) W hW; go_simp⟩) (unhide HR1) ?_
    refine wpAnyH_take (i := 7) (v := .tuple #[.agg #[.string x.tx, .int .i64 x.kd, .int .i64 x.parts, .int .i64 x.str], .bool true]) rfl (by kernel_rfl) (by kernel_rfl) (by kernel_rfl) (fun _ _ _ h => h) (Or.inl ⟨by kernel_rfl, fun W _ => by go_simp⟩) (unhide HR1) ?_
    refine wpAnyH_take (i := 8) (v := .agg #[.string x.tx, .int .i64 x.kd, .int .i64 x.parts, .int .i64 x.str]) rfl (by kernel_rfl) (by kernel_rfl) (by kernel_rfl) (fun _ _ _ h => h) (Or.inl ⟨by kernel_rfl, fun W _ => by go_simp⟩) (unhide HR1) ?_
    refine wpAnyH_take (i := 9) (v := .bool true) rfl (by kernel_rfl) (by kernel_rfl) (by kernel_rfl) (fun _ _ _ h => h) (Or.inl ⟨by kernel_rfl, fun W _ => by go_simp⟩) (unhide HR1) ?_
    refine wpAnyH_ready (rs := [11]) (by kernel_rfl) (by simp) (AllReadyH.cons rfl (fun K hK => ?_) AllReadyH.nil)
    go_simp
    clear r0 r1 r2 r3 rf rlt
    obtain ⟨W2, hW2⟩ : ∃ W2, W2 = (((w1.setCell ⟨wq.heap.size, 0, none⟩ (.string x.tx)).setCell ⟨wq.heap.size, 1, none⟩ (.int .i64 x.kd)).setCell ⟨wq.heap.size, 2, none⟩ (.int .i64 x.parts)).setCell ⟨wq.heap.size, 3, none⟩ (.int .i64 x.str) := ⟨_, rfl⟩
    obtain ⟨hr2, hb2, ⟨s0, s1, s2, s3, sf, slt⟩⟩ := w3_any (v0 := .string x.tx) (v1 := .int .i64 x.kd) (v2 := .int .i64 x.parts) (v3 := .int .i64 x.str) (unhide HR1) (unhide HLO) (unhide P1) hW2
    have HR2 := hide hr2
    have HW2 := hide ((unhide HB1).trans (hb2.mono (unhide HBq).size))
    rw [← hW2]
    clear hW2 hr2 hb2
    refine hK.out _ _ (unhide HR2) (fun _ => ?_)
    clear hK K
    refine wpAnyH_take (i := 12) (v := .bool true) rfl (by kernel_rfl) (by kernel_rfl) (by kernel_rfl) (fun _ _ _ h => h) (Or.inl ⟨by kernel_rfl, fun W _ => by go_simp⟩) (unhide HR2) ?_
    refine wpAnyH_done (by kernel_rfl) ?_ _
    go_simp
    go_wp2_with fail
    go_ret
    exact ⟨ret_bool (by simp), unhide HW2⟩

theorem atValue_any (c : Ctx) : Asks c 279 (isVal c.l) := by
  intro w d i h
  unfold isVal
  by_cases h1 : (tkA c.l i).kd = 1
  · rw [h1]; exact av_name w d i h1 h
  · by_cases h3 : (tkA c.l i).kd = 3
    · rw [h3]; exact av_num w d i h3 h
    · by_cases h4 : (tkA c.l i).kd = 4
      · rw [h4]; exact av_str w d i h4 h
      · rw [beq_eq_false_iff_ne.2 h1, beq_eq_false_iff_ne.2 h3, beq_eq_false_iff_ne.2 h4]
        simp only [Bool.false_or]
        cases hq : look2 vlKeys (fx c.l i) with
        | some q => exact av_map w d i h1 h3 h4 q hq h
        | none =>
          cases hsg : sgOf (fx c.l i) with
          | none => exact av_none w d i h1 h3 h4 hq hsg h
          | some x =>
            have hx := av_some w d i h1 h3 h4 x hq hsg h
            cases hp : decide (x.parts < 2) with
            | true => rw [hp] at hx; simpa [Option.filter, hp] using hx
            | false => rw [hp] at hx; simpa [Option.filter, hp] using hx
end Go.Proofs.YtodmgaikhbmlnaaGreatDoor
