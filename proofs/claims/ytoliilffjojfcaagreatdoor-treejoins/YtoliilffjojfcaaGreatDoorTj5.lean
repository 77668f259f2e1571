/-
  Joined out of Rd17, Rd18, Rd19.
-/
import Derived.Test.YtoliilffjojfcaaGreatDoorTj4
/-
  Rd17: Whether a value begins.
-/
namespace Go.Proofs.YtoliilffjojfcaaGreatDoor
open Go.RowKit

theorem w3_any {c : Ctx} {b : Nat} {w1 W2 : World} {i d : Nat} {v0 v1 v2 v3 : Value} (h : Rdr c w1 i d) (hlo : c.lo ≤ b) (p1 : w1.heap[b]? = some O160)
    (hW : W2 = (((w1.setCell ⟨b, 0, none⟩ v0).setCell ⟨b, 1, none⟩ v1).setCell ⟨b, 2, none⟩ v2).setCell ⟨b, 3, none⟩ v3) :
    Rdr c W2 i d ∧ Below b w1 W2 ∧ C160 b W2 v0 v1 v2 v3 := by
  have hB : Below b w1 W2 := by
    rw [hW]
    exact ((((Below.refl _ w1).setCell (p := ⟨b, 0, none⟩) (Nat.le_refl _) v0).setCell (p := ⟨b, 1, none⟩) (Nat.le_refl _) v1).setCell (p := ⟨b, 2, none⟩) (Nat.le_refl _) v2).setCell (p := ⟨b, 3, none⟩) (Nat.le_refl _) v3
  refine ⟨h.ap hB hlo, hB, c160 ?_⟩
  rw [hW]
  exact set4 p1 v0 v1 v2 v3

set_option maxRecDepth 100000 in
set_option maxHeartbeats 1000000 in
theorem av_name {c : Ctx} (w : World) (d i : Nat) (hk : (tkA c.l i).kd = 1) (h : Rdr c w i d) : Calls Tryz.prog 239 #[rPtr c] w fun e w' => e = .returned (.bool true) ∧ Below w.heap.size w w' := by
  have HR0 := hide h
  have HB0 := hide (Below.refl w.heap.size w)
  have b1 : ((tkA c.l i).kd == 1) = true := by rw [hk]; decide
  have b3 : ((tkA c.l i).kd == 3) = false := by rw [hk]; decide
  have b4 : ((tkA c.l i).kd == 4) = false := by rw [hk]; decide
  clear h hk
  go_enter Tryz.func239, Tryz.ntmps239
  have HC := hide (token_any c w i d (unhide HR0))
  unfold tkV at HC
  have hfl := fldKind (tkA c.l i)
  go_wp2_with fail
  refine Calls.mono HC.out ?_
  rintro e wt ⟨rfl, hbt⟩
  clear HC
  have HRt := hide ((unhide HR0).later hbt)
  have HBt := hide hbt
  clear hbt
  go_wp2_with fail
  go_ret
  exact ⟨rfl, unhide HBt⟩

set_option maxRecDepth 100000 in
set_option maxHeartbeats 1000000 in
theorem av_num {c : Ctx} (w : World) (d i : Nat) (hk : (tkA c.l i).kd = 3) (h : Rdr c w i d) : Calls Tryz.prog 239 #[rPtr c] w fun e w' => e = .returned (.bool true) ∧ Below w.heap.size w w' := by
  have HR0 := hide h
  have HB0 := hide (Below.refl w.heap.size w)
  have b1 : ((tkA c.l i).kd == 1) = false := by rw [hk]; decide
  have b3 : ((tkA c.l i).kd == 3) = true := by rw [hk]; decide
  have b4 : ((tkA c.l i).kd == 4) = false := by rw [hk]; decide
  clear h hk
  go_enter Tryz.func239, Tryz.ntmps239
  have HC := hide (token_any c w i d (unhide HR0))
  unfold tkV at HC
  have hfl := fldKind (tkA c.l i)
  go_wp2_with fail
  refine Calls.mono HC.out ?_
  rintro e wt ⟨rfl, hbt⟩
  clear HC
  have HRt := hide ((unhide HR0).later hbt)
  have HBt := hide hbt
  clear hbt
  go_wp2_with fail
  go_ret
  exact ⟨rfl, unhide HBt⟩

set_option maxRecDepth 100000 in
set_option maxHeartbeats 1000000 in
theorem av_str {c : Ctx} (w : World) (d i : Nat) (hk : (tkA c.l i).kd = 4) (h : Rdr c w i d) : Calls Tryz.prog 239 #[rPtr c] w fun e w' => e = .returned (.bool true) ∧ Below w.heap.size w w' := by
  have HR0 := hide h
  have HB0 := hide (Below.refl w.heap.size w)
  have b1 : ((tkA c.l i).kd == 1) = false := by rw [hk]; decide
  have b3 : ((tkA c.l i).kd == 3) = false := by rw [hk]; decide
  have b4 : ((tkA c.l i).kd == 4) = true := by rw [hk]; decide
  clear h hk
  go_enter Tryz.func239, Tryz.ntmps239
  have HC := hide (token_any c w i d (unhide HR0))
  unfold tkV at HC
  have hfl := fldKind (tkA c.l i)
  go_wp2_with fail
  refine Calls.mono HC.out ?_
  rintro e wt ⟨rfl, hbt⟩
  clear HC
  have HRt := hide ((unhide HR0).later hbt)
  have HBt := hide hbt
  clear hbt
  go_wp2_with fail
  go_ret
  exact ⟨rfl, unhide HBt⟩

set_option maxRecDepth 100000 in
set_option maxHeartbeats 1000000 in
theorem av_map {c : Ctx} (w : World) (d i : Nat) (h1 : (tkA c.l i).kd ≠ 1) (h3 : (tkA c.l i).kd ≠ 3) (h4 : (tkA c.l i).kd ≠ 4) (q : Nat) (hq : look2 vlKeys (fx c.l i) = some q) (h : Rdr c w i d) : Calls Tryz.prog 239 #[rPtr c] w fun e w' => e = .returned (.bool true) ∧ Below w.heap.size w w' := by
  have HR0 := hide h
  have HB0 := hide (Below.refl w.heap.size w)
  have b1 : ((tkA c.l i).kd == 1) = false := beq_eq_false_iff_ne.2 h1
  have b3 : ((tkA c.l i).kd == 3) = false := beq_eq_false_iff_ne.2 h3
  have b4 : ((tkA c.l i).kd == 4) = false := beq_eq_false_iff_ne.2 h4
  have HL : Hid (∀ W : World, Rdr c W i d → (Instr.lookup 152 (.map (some c.mV)) (.string (fx c.l i)) true).run Tryz.prog W = .ok (.tuple #[.func (.func (vlFn q)) #[.pointer (some ⟨c.R, 0, none⟩)] #[], .bool true]) W) := fun W hW => by
    have := look_vals c (fx c.l i) W hW.base.vals
    rw [hq] at this
    exact this
  clear h h1 h3 h4 hq
  go_enter Tryz.func239, Tryz.ntmps239
  have HC := hide (token_any c w i d (unhide HR0))
  unfold tkV at HC
  have hfl := fldKind (tkA c.l i)
  go_wp2_with fail
  refine Calls.mono HC.out ?_
  rintro e wt ⟨rfl, hbt⟩
  clear HC
  have HRt := hide ((unhide HR0).later hbt)
  have HBt := hide hbt
  clear hbt
  go_wp2_with fail
  refine wp_region_held (S := fun W => Rdr c W i d) (by kernel_rfl) ?_
  change wpAnyH _ _ _ _ _ _ _ _ (World.drew _)
  refine wpAnyH_take (i := 0) (v := rPtr c) rfl (by kernel_rfl) (by kernel_rfl) (by kernel_rfl) (fun _ _ _ h => h) (Or.inl ⟨by kernel_rfl, fun W _ => by go_simp⟩) (unhide HRt).drew ?_
  refine wpAnyH_take (i := 1) (v := rPtr c) rfl (by kernel_rfl) (by kernel_rfl) (by kernel_rfl) (fun _ _ _ h => h) (Or.inl ⟨by kernel_rfl, fun W _ => by go_simp⟩) (unhide HRt).drew ?_
  refine wpAnyH_take (i := 2) (v := .pointer (some ⟨c.R, 5, none⟩)) rfl (by kernel_rfl) (by kernel_rfl) (by kernel_rfl) (fun _ _ _ h => h) (Or.inl ⟨by kernel_rfl, fun W _ => by go_simp⟩) (unhide HRt).drew ?_
  refine wpAnyH_take (i := 3) (v := .map (some c.mV)) rfl (by kernel_rfl) (by kernel_rfl) (by kernel_rfl) (fun _ _ _ h => h) (Or.inl ⟨by kernel_rfl, fun W hW => by have hh := Rdr.c5 hW; go_simp⟩) (unhide HRt).drew ?_
  refine wpAnyH_take (i := 4) (v := rPtr c) rfl (by kernel_rfl) (by kernel_rfl) (by kernel_rfl) (fun _ _ _ h => h) (Or.inl ⟨by kernel_rfl, fun W _ => by go_simp⟩) (unhide HRt).drew ?_
  refine wpAnyH_ready (rs := [5]) (by kernel_rfl) (by simp) (AllReadyH.cons rfl (fun K hK => ?_) AllReadyH.nil)
  go_simp
  refine Calls.mono (fixed_any c _ i d (unhide HRt).drew) ?_
  rintro e wq ⟨rfl, hbq⟩
  have HRq := hide ((unhide HRt).drew.later hbq)
  have HBq := hide ((unhide HBt).trans (((Below.refl _ _).drew.trans hbq).mono (unhide HBt).size))
  clear hbq
  refine hK.out _ _ (unhide HRq) (fun _ => ?_)
  clear hK K
  refine wpAnyH_take (i := 6) (v := .tuple #[.func (.func (vlFn q)) #[.pointer (some ⟨c.R, 0, none⟩)] #[], .bool true]) rfl (by kernel_rfl) (by kernel_rfl) (by kernel_rfl) (fun _ _ _ h => h) (Or.inl ⟨by kernel_rfl, fun W hW => by have hh := (unhide HL) W hW; go_simp⟩) (unhide HRq) ?_
  refine wpAnyH_take (i := 7) (v := .tuple #[.func (.func (vlFn q)) #[.pointer (some ⟨c.R, 0, none⟩)] #[], .bool true]) rfl (by kernel_rfl) (by kernel_rfl) (by kernel_rfl) (fun _ _ _ h => h) (Or.inl ⟨by kernel_rfl, fun W _ => by go_simp⟩) (unhide HRq) ?_
  refine wpAnyH_take (i := 8) (v := .func (.func (vlFn q)) #[.pointer (some ⟨c.R, 0, none⟩)] #[]) rfl (by kernel_rfl) (by kernel_rfl) (by kernel_rfl) (fun _ _ _ h => h) (Or.inl ⟨by kernel_rfl, fun W _ => by go_simp⟩) (unhide HRq) ?_
  refine wpAnyH_take (i := 9) (v := .bool true) rfl (by kernel_rfl) (by kernel_rfl) (by kernel_rfl) (fun _ _ _ h => h) (Or.inl ⟨by kernel_rfl, fun W _ => by go_simp⟩) (unhide HRq) ?_
  refine wpAnyH_take (i := 10) (v := .func (.func (vlFn q)) #[.pointer (some ⟨c.R, 0, none⟩)] #[]) rfl (by kernel_rfl) (by kernel_rfl) (by kernel_rfl) (fun _ _ _ h => h) (Or.inl ⟨by kernel_rfl, fun W _ => by go_simp⟩) (unhide HRq) ?_
  refine wpAnyH_take (i := 11) (v := .bool true) rfl (by kernel_rfl) (by kernel_rfl) (by kernel_rfl) (fun _ _ _ h => h) (Or.inl ⟨by kernel_rfl, fun W _ => by go_simp⟩) (unhide HRq) ?_
  refine wpAnyH_done (by kernel_rfl) ?_ _
  go_simp
  go_wp2_with fail
  go_ret
  exact ⟨rfl, unhide HBq⟩

set_option maxRecDepth 100000 in
set_option maxHeartbeats 1000000 in
theorem av_none {c : Ctx} (w : World) (d i : Nat) (h1 : (tkA c.l i).kd ≠ 1) (h3 : (tkA c.l i).kd ≠ 3) (h4 : (tkA c.l i).kd ≠ 4) (hq : look2 vlKeys (fx c.l i) = none) (hsg : sgOf (fx c.l i) = none) (h : Rdr c w i d) : Calls Tryz.prog 239 #[rPtr c] w fun e w' => e = .returned (.bool false) ∧ Below w.heap.size w w' := by
  have HR0 := hide h
  have HB0 := hide (Below.refl w.heap.size w)
  have b1 : ((tkA c.l i).kd == 1) = false := beq_eq_false_iff_ne.2 h1
  have b3 : ((tkA c.l i).kd == 3) = false := beq_eq_false_iff_ne.2 h3
  have b4 : ((tkA c.l i).kd == 4) = false := beq_eq_false_iff_ne.2 h4
  have HL : Hid (∀ W : World, Rdr c W i d → (Instr.lookup 152 (.map (some c.mV)) (.string (fx c.l i)) true).run Tryz.prog W = .ok (.tuple #[.nilFunc, .bool false]) W) := fun W hW => by
    have := look_vals c (fx c.l i) W hW.base.vals
    rw [hq] at this
    exact this
  have HL2 : Hid (∀ W : World, Rdr c W i d → (Instr.lookup 150 (.map (some c.mS)) (.string (fx c.l i)) true).run Tryz.prog W = .ok (.tuple #[.agg #[.string ⟨#[]⟩, .int .i64 0, .int .i64 0, .int .i64 0], .bool false]) W) := fun W hW => by
    have := look_signs c (fx c.l i) W hW.base.signs
    rw [hsg] at this
    exact this
  clear h h1 h3 h4 hq hsg
  go_enter Tryz.func239, Tryz.ntmps239
  have HC := hide (token_any c w i d (unhide HR0))
  unfold tkV at HC
  have hfl := fldKind (tkA c.l i)
  go_wp2_with fail
  refine Calls.mono HC.out ?_
  rintro e wt ⟨rfl, hbt⟩
  clear HC
  have HRt := hide ((unhide HR0).later hbt)
  have HBt := hide hbt
  clear hbt
  go_wp2_with fail
  refine wp_region_held (S := fun W => Rdr c W i d) (by kernel_rfl) ?_
  change wpAnyH _ _ _ _ _ _ _ _ (World.drew _)
  refine wpAnyH_take (i := 0) (v := rPtr c) rfl (by kernel_rfl) (by kernel_rfl) (by kernel_rfl) (fun _ _ _ h => h) (Or.inl ⟨by kernel_rfl, fun W _ => by go_simp⟩) (unhide HRt).drew ?_
  refine wpAnyH_take (i := 1) (v := rPtr c) rfl (by kernel_rfl) (by kernel_rfl) (by kernel_rfl) (fun _ _ _ h => h) (Or.inl ⟨by kernel_rfl, fun W _ => by go_simp⟩) (unhide HRt).drew ?_
  refine wpAnyH_take (i := 2) (v := .pointer (some ⟨c.R, 5, none⟩)) rfl (by kernel_rfl) (by kernel_rfl) (by kernel_rfl) (fun _ _ _ h => h) (Or.inl ⟨by kernel_rfl, fun W _ => by go_simp⟩) (unhide HRt).drew ?_
  refine wpAnyH_take (i := 3) (v := .map (some c.mV)) rfl (by kernel_rfl) (by kernel_rfl) (by kernel_rfl) (fun _ _ _ h => h) (Or.inl ⟨by kernel_rfl, fun W hW => by have hh := Rdr.c5 hW; go_simp⟩) (unhide HRt).drew ?_
  refine wpAnyH_take (i := 4) (v := rPtr c) rfl (by kernel_rfl) (by kernel_rfl) (by kernel_rfl) (fun _ _ _ h => h) (Or.inl ⟨by kernel_rfl, fun W _ => by go_simp⟩) (unhide HRt).drew ?_
  refine wpAnyH_ready (rs := [5]) (by kernel_rfl) (by simp) (AllReadyH.cons rfl (fun K hK => ?_) AllReadyH.nil)
  go_simp
  refine Calls.mono (fixed_any c _ i d (unhide HRt).drew) ?_
  rintro e wq ⟨rfl, hbq⟩
  have HRq := hide ((unhide HRt).drew.later hbq)
  have HBq := hide ((unhide HBt).trans (((Below.refl _ _).drew.trans hbq).mono (unhide HBt).size))
  clear hbq
  refine hK.out _ _ (unhide HRq) (fun _ => ?_)
  clear hK K
  refine wpAnyH_take (i := 6) (v := .tuple #[.nilFunc, .bool false]) rfl (by kernel_rfl) (by kernel_rfl) (by kernel_rfl) (fun _ _ _ h => h) (Or.inl ⟨by kernel_rfl, fun W hW => by have hh := (unhide HL) W hW; go_simp⟩) (unhide HRq) ?_
  refine wpAnyH_take (i := 7) (v := .tuple #[.nilFunc, .bool false]) rfl (by kernel_rfl) (by kernel_rfl) (by kernel_rfl) (fun _ _ _ h => h) (Or.inl ⟨by kernel_rfl, fun W _ => by go_simp⟩) (unhide HRq) ?_
  refine wpAnyH_take (i := 8) (v := .nilFunc) rfl (by kernel_rfl) (by kernel_rfl) (by kernel_rfl) (fun _ _ _ h => h) (Or.inl ⟨by kernel_rfl, fun W _ => by go_simp⟩) (unhide HRq) ?_
  refine wpAnyH_take (i := 9) (v := .bool false) rfl (by kernel_rfl) (by kernel_rfl) (by kernel_rfl) (fun _ _ _ h => h) (Or.inl ⟨by kernel_rfl, fun W _ => by go_simp⟩) (unhide HRq) ?_
  refine wpAnyH_take (i := 10) (v := .nilFunc) rfl (by kernel_rfl) (by kernel_rfl) (by kernel_rfl) (fun _ _ _ h => h) (Or.inl ⟨by kernel_rfl, fun W _ => by go_simp⟩) (unhide HRq) ?_
  refine wpAnyH_take (i := 11) (v := .bool false) rfl (by kernel_rfl) (by kernel_rfl) (by kernel_rfl) (fun _ _ _ h => h) (Or.inl ⟨by kernel_rfl, fun W _ => by go_simp⟩) (unhide HRq) ?_
  refine wpAnyH_done (by kernel_rfl) ?_ _
  go_simp
  have HLO := hide (unhide HRq).base.size
  go_wp2_with fail
  refine wp_region_held (S := fun W => Rdr c W i d) (by kernel_rfl) ?_
  change wpAnyH _ _ _ _ _ _ _ _ (World.drew _)
  refine wpAnyH_take (i := 0) (v := rPtr c) rfl (by kernel_rfl) (by kernel_rfl) (by kernel_rfl) (fun _ _ _ h => h) (Or.inl ⟨by kernel_rfl, fun W _ => by go_simp⟩) (unhide HRq).drew ?_
  refine wpAnyH_take (i := 1) (v := rPtr c) rfl (by kernel_rfl) (by kernel_rfl) (by kernel_rfl) (fun _ _ _ h => h) (Or.inl ⟨by kernel_rfl, fun W _ => by go_simp⟩) (unhide HRq).drew ?_
  refine wpAnyH_take (i := 2) (v := .pointer (some ⟨c.R, 3, none⟩)) rfl (by kernel_rfl) (by kernel_rfl) (by kernel_rfl) (fun _ _ _ h => h) (Or.inl ⟨by kernel_rfl, fun W _ => by go_simp⟩) (unhide HRq).drew ?_
  refine wpAnyH_take (i := 3) (v := .map (some c.mS)) rfl (by kernel_rfl) (by kernel_rfl) (by kernel_rfl) (fun _ _ _ h => h) (Or.inl ⟨by kernel_rfl, fun W hW => by have hh := Rdr.c3 hW; go_simp⟩) (unhide HRq).drew ?_
  refine wpAnyH_take (i := 4) (v := rPtr c) rfl (by kernel_rfl) (by kernel_rfl) (by kernel_rfl) (fun _ _ _ h => h) (Or.inl ⟨by kernel_rfl, fun W _ => by go_simp⟩) (unhide HRq).drew ?_
  refine wpAnyH_ready (rs := [5, 10]) (by kernel_rfl) (by simp) (AllReadyH.cons rfl (fun K hK => ?_) (AllReadyH.cons rfl (fun K hK => ?_) AllReadyH.nil))
  · go_simp
    refine Calls.mono (fixed_any c _ i d (unhide HRq).drew) ?_
    rintro e w1 ⟨rfl, hb⟩
    have HR1 := hide ((unhide HRq).drew.later hb)
    have HB1 := hide ((unhide HBq).trans (((Below.refl _ _).drew.trans hb).mono (unhide HBq).size))
    clear hb
    refine hK.out _ _ (unhide HR1) (fun _ => ?_)
    clear hK K
    refine wpAnyH_take (i := 6) (v := .tuple #[.agg #[.string ⟨#[]⟩, .int .i64 0, .int .i64 0, .int .i64 0], .bool false]) rfl (by kernel_rfl) (by kernel_rfl) (by kernel_rfl) (fun _ _ _ h => h) (Or.inl ⟨by kernel_rfl, fun W hW => by have hh := (unhide HL2) W hW; go_simp⟩) (unhide HR1) ?_
    refine wpAnyH_take (i := 7) (v := .tuple #[.agg #[.string ⟨#[]⟩, .int .i64 0, .int .i64 0, .int .i64 0], .bool false]) rfl (by kernel_rfl) (by kernel_rfl) (by kernel_rfl) (fun _ _ _ h => h) (Or.inl ⟨by kernel_rfl, fun W _ => by go_simp⟩) (unhide HR1) ?_
    refine wpAnyH_take (i := 8) (v := .agg #[.string ⟨#[]⟩, .int .i64 0, .int .i64 0, .int .i64 0]) rfl (by kernel_rfl) (by kernel_rfl) (by kernel_rfl) (fun _ _ _ h => h) (Or.inl ⟨by kernel_rfl, fun W _ => by go_simp⟩) (unhide HR1) ?_
    refine wpAnyH_take (i := 9) (v := .bool false) rfl (by kernel_rfl) (by kernel_rfl) (by kernel_rfl) (fun _ _ _ h => h) (Or.inl ⟨by kernel_rfl, fun W _ => by go_simp⟩) (unhide HR1) ?_
    refine wpAnyH_ready (rs := [10]) (by kernel_rfl) (by simp) (AllReadyH.cons rfl (fun K hK => ?_) AllReadyH.nil)
    go_simp
    refine hK.out _ _ ((unhide HR1).alloc O160) (fun _ => ?_)
    clear hK K
    refine wpAnyH_ready (rs := [11]) (by kernel_rfl) (by simp) (AllReadyH.cons rfl (fun K hK => ?_) AllReadyH.nil)
    go_simp
    have HR2 := hide ((unhide HR1).alloc (.cells #[.string ⟨#[]⟩, .int .i64 0, .int .i64 0, .int .i64 0] 160))
    have HW2 := hide ((unhide HB1).alloc (unhide HB1).size (.cells #[.string ⟨#[]⟩, .int .i64 0, .int .i64 0, .int .i64 0] 160))
    refine hK.out _ _ (unhide HR2) (fun _ => ?_)
    clear hK K
    refine wpAnyH_take (i := 12) (v := .bool false) rfl (by kernel_rfl) (by kernel_rfl) (by kernel_rfl) (fun _ _ _ h => h) (Or.inl ⟨by kernel_rfl, fun W _ => by go_simp⟩) (unhide HR2) ?_
    refine wpAnyH_done (by kernel_rfl) ?_ _
    go_simp
    go_wp2_with fail
    go_ret
    exact ⟨rfl, unhide HW2⟩
  · go_simp
    have HR' := hide (((unhide HRq).alloc O160).drew)
    refine hK.out _ _ (unhide HR') (fun _ => ?_)
    clear hK K
    refine wpAnyH_ready (rs := [5]) (by kernel_rfl) (by simp) (AllReadyH.cons rfl (fun K hK => ?_) AllReadyH.nil)
    go_simp
    refine Calls.mono (fixed_any c _ i d (unhide HR')) ?_
    rintro e w1 ⟨rfl, hb⟩
    have HR1 := hide ((unhide HR').later hb)
    have HB1 := hide ((unhide HBq).trans ((((Below.refl wq.heap.size wq).alloc (Nat.le_refl _) O160).drew.trans (hb.mono (by simp))).mono (unhide HBq).size))
    have p1 : w1.heap[wq.heap.size]? = some O160 := (hb.block _ (by simp)).trans (heap_new wq O160)
    obtain ⟨r0, r1, r2, r3, rf, rlt⟩ := c160 p1
    have P1 := hide p1
    clear hb p1
    refine hK.out _ _ (unhide HR1) (fun _ => ?_)
    clear hK K
    refine wpAnyH_take (i := 6) (v := .tuple #[.agg #[.string ⟨#[]⟩, .int .i64 0, .int .i64 0, .int .i64 0], .bool false]) rfl (by kernel_rfl) (by kernel_rfl) (by kernel_rfl) (fun _ _ _ h => h) (Or.inl ⟨by kernel_rfl, fun W hW => by have hh := (unhide HL2) W hW; go_simp⟩) (unhide HR1) ?_
    refine wpAnyH_take (i := 7) (v := .tuple #[.agg #[.string ⟨#[]⟩, .int .i64 0, .int .i64 0, .int .i64 0], .bool false]) rfl (by kernel_rfl) (by kernel_rfl) (by kernel_rfl) (fun _ _ _ h => h) (Or.inl ⟨by kernel_rfl, fun W _ => by go_simp⟩) (unhide HR1) ?_
    refine wpAnyH_take (i := 8) (v := .agg #[.string ⟨#[]⟩, .int .i64 0, .int .i64 0, .int .i64 0]) rfl (by kernel_rfl) (by kernel_rfl) (by kernel_rfl) (fun _ _ _ h => h) (Or.inl ⟨by kernel_rfl, fun W _ => by go_simp⟩) (unhide HR1) ?_
    refine wpAnyH_take (i := 9) (v := .bool false) rfl (by kernel_rfl) (by kernel_rfl) (by kernel_rfl) (fun _ _ _ h => h) (Or.inl ⟨by kernel_rfl, fun W _ => by go_simp⟩) (unhide HR1) ?_
    refine wpAnyH_ready (rs := [11]) (by kernel_rfl) (by simp) (AllReadyH.cons rfl (fun K hK => ?_) AllReadyH.nil)
    go_simp
    clear r0 r1 r2 r3 rf rlt
    obtain ⟨W2, hW2⟩ : ∃ W2, W2 = (((w1.setCell ⟨wq.heap.size, 0, none⟩ (.string ⟨#[]⟩)).setCell ⟨wq.heap.size, 1, none⟩ (.int .i64 0)).setCell ⟨wq.heap.size, 2, none⟩ (.int .i64 0)).setCell ⟨wq.heap.size, 3, none⟩ (.int .i64 0) := ⟨_, rfl⟩
    obtain ⟨hr2, hb2, ⟨s0, s1, s2, s3, sf, slt⟩⟩ := w3_any (v0 := .string ⟨#[]⟩) (v1 := .int .i64 0) (v2 := .int .i64 0) (v3 := .int .i64 0) (unhide HR1) (unhide HLO) (unhide P1) hW2
    have HR2 := hide hr2
    have HW2 := hide ((unhide HB1).trans (hb2.mono (unhide HBq).size))
    rw [← hW2]
    clear hW2 hr2 hb2
    refine hK.out _ _ (unhide HR2) (fun _ => ?_)
    clear hK K
    refine wpAnyH_take (i := 12) (v := .bool false) rfl (by kernel_rfl) (by kernel_rfl) (by kernel_rfl) (fun _ _ _ h => h) (Or.inl ⟨by kernel_rfl, fun W _ => by go_simp⟩) (unhide HR2) ?_
    refine wpAnyH_done (by kernel_rfl) ?_ _
    go_simp
    go_wp2_with fail
    go_ret
    exact ⟨rfl, unhide HW2⟩

set_option maxRecDepth 100000 in
set_option maxHeartbeats 1000000 in
theorem av_some {c : Ctx} (w : World) (d i : Nat) (h1 : (tkA c.l i).kd ≠ 1) (h3 : (tkA c.l i).kd ≠ 3) (h4 : (tkA c.l i).kd ≠ 4) (x : Sg) (hq : look2 vlKeys (fx c.l i) = none) (hsg : sgOf (fx c.l i) = some x) (h : Rdr c w i d) : Calls Tryz.prog 239 #[rPtr c] w fun e w' => e = .returned (.bool (decide (x.parts < 2))) ∧ Below w.heap.size w w' := by
  have HR0 := hide h
  have HB0 := hide (Below.refl w.heap.size w)
  have b1 : ((tkA c.l i).kd == 1) = false := beq_eq_false_iff_ne.2 h1
  have b3 : ((tkA c.l i).kd == 3) = false := beq_eq_false_iff_ne.2 h3
  have b4 : ((tkA c.l i).kd == 4) = false := beq_eq_false_iff_ne.2 h4
  have HL : Hid (∀ W : World, Rdr c W i d → (Instr.lookup 152 (.map (some c.mV)) (.string (fx c.l i)) true).run Tryz.prog W = .ok (.tuple #[.nilFunc, .bool false]) W) := fun W hW => by
    have := look_vals c (fx c.l i) W hW.base.vals
    rw [hq] at this
    exact this
  have HL2 : Hid (∀ W : World, Rdr c W i d → (Instr.lookup 150 (.map (some c.mS)) (.string (fx c.l i)) true).run Tryz.prog W = .ok (.tuple #[.agg #[.string x.tx, .int .i64 x.kd, .int .i64 x.parts, .int .i64 x.str], .bool true]) W) := fun W hW => by
    have := look_signs c (fx c.l i) W hW.base.signs
    rw [hsg] at this
    exact this
  clear h h1 h3 h4 hq hsg
  go_enter Tryz.func239, Tryz.ntmps239
  have HC := hide (token_any c w i d (unhide HR0))
  unfold tkV at HC
  have hfl := fldKind (tkA c.l i)
  go_wp2_with fail
  refine Calls.mono HC.out ?_
  rintro e wt ⟨rfl, hbt⟩
  clear HC
  have HRt := hide ((unhide HR0).later hbt)
  have HBt := hide hbt
  clear hbt
  go_wp2_with fail
  refine wp_region_held (S := fun W => Rdr c W i d) (by kernel_rfl) ?_
  change wpAnyH _ _ _ _ _ _ _ _ (World.drew _)
  refine wpAnyH_take (i := 0) (v := rPtr c) rfl (by kernel_rfl) (by kernel_rfl) (by kernel_rfl) (fun _ _ _ h => h) (Or.inl ⟨by kernel_rfl, fun W _ => by go_simp⟩) (unhide HRt).drew ?_
  refine wpAnyH_take (i := 1) (v := rPtr c) rfl (by kernel_rfl) (by kernel_rfl) (by kernel_rfl) (fun _ _ _ h => h) (Or.inl ⟨by kernel_rfl, fun W _ => by go_simp⟩) (unhide HRt).drew ?_
  refine wpAnyH_take (i := 2) (v := .pointer (some ⟨c.R, 5, none⟩)) rfl (by kernel_rfl) (by kernel_rfl) (by kernel_rfl) (fun _ _ _ h => h) (Or.inl ⟨by kernel_rfl, fun W _ => by go_simp⟩) (unhide HRt).drew ?_
  refine wpAnyH_take (i := 3) (v := .map (some c.mV)) rfl (by kernel_rfl) (by kernel_rfl) (by kernel_rfl) (fun _ _ _ h => h) (Or.inl ⟨by kernel_rfl, fun W hW => by have hh := Rdr.c5 hW; go_simp⟩) (unhide HRt).drew ?_
  refine wpAnyH_take (i := 4) (v := rPtr c) rfl (by kernel_rfl) (by kernel_rfl) (by kernel_rfl) (fun _ _ _ h => h) (Or.inl ⟨by kernel_rfl, fun W _ => by go_simp⟩) (unhide HRt).drew ?_
  refine wpAnyH_ready (rs := [5]) (by kernel_rfl) (by simp) (AllReadyH.cons rfl (fun K hK => ?_) AllReadyH.nil)
  go_simp
  refine Calls.mono (fixed_any c _ i d (unhide HRt).drew) ?_
  rintro e wq ⟨rfl, hbq⟩
  have HRq := hide ((unhide HRt).drew.later hbq)
  have HBq := hide ((unhide HBt).trans (((Below.refl _ _).drew.trans hbq).mono (unhide HBt).size))
  clear hbq
  refine hK.out _ _ (unhide HRq) (fun _ => ?_)
  clear hK K
  refine wpAnyH_take (i := 6) (v := .tuple #[.nilFunc, .bool false]) rfl (by kernel_rfl) (by kernel_rfl) (by kernel_rfl) (fun _ _ _ h => h) (Or.inl ⟨by kernel_rfl, fun W hW => by have hh := (unhide HL) W hW; go_simp⟩) (unhide HRq) ?_
  refine wpAnyH_take (i := 7) (v := .tuple #[.nilFunc, .bool false]) rfl (by kernel_rfl) (by kernel_rfl) (by kernel_rfl) (fun _ _ _ h => h) (Or.inl ⟨by kernel_rfl, fun W _ => by go_simp⟩) (unhide HRq) ?_
  refine wpAnyH_take (i := 8) (v := .nilFunc) rfl (by kernel_rfl) (by kernel_rfl) (by kernel_rfl) (fun _ _ _ h => h) (Or.inl ⟨by kernel_rfl, fun W _ => by go_simp⟩) (unhide HRq) ?_
  refine wpAnyH_take (i := 9) (v := .bool false) rfl (by kernel_rfl) (by kernel_rfl) (by kernel_rfl) (fun _ _ _ h => h) (Or.inl ⟨by kernel_rfl, fun W _ => by go_simp⟩) (unhide HRq) ?_
  refine wpAnyH_take (i := 10) (v := .nilFunc) rfl (by kernel_rfl) (by kernel_rfl) (by kernel_rfl) (fun _ _ _ h => h) (Or.inl ⟨by kernel_rfl, fun W _ => by go_simp⟩) (unhide HRq) ?_
  refine wpAnyH_take (i := 11) (v := .bool false) rfl (by kernel_rfl) (by kernel_rfl) (by kernel_rfl) (fun _ _ _ h => h) (Or.inl ⟨by kernel_rfl, fun W _ => by go_simp⟩) (unhide HRq) ?_
  refine wpAnyH_done (by kernel_rfl) ?_ _
  go_simp
  have HLO := hide (unhide HRq).base.size
  go_wp2_with fail
  refine wp_region_held (S := fun W => Rdr c W i d) (by kernel_rfl) ?_
  change wpAnyH _ _ _ _ _ _ _ _ (World.drew _)
  refine wpAnyH_take (i := 0) (v := rPtr c) rfl (by kernel_rfl) (by kernel_rfl) (by kernel_rfl) (fun _ _ _ h => h) (Or.inl ⟨by kernel_rfl, fun W _ => by go_simp⟩) (unhide HRq).drew ?_
  refine wpAnyH_take (i := 1) (v := rPtr c) rfl (by kernel_rfl) (by kernel_rfl) (by kernel_rfl) (fun _ _ _ h => h) (Or.inl ⟨by kernel_rfl, fun W _ => by go_simp⟩) (unhide HRq).drew ?_
  refine wpAnyH_take (i := 2) (v := .pointer (some ⟨c.R, 3, none⟩)) rfl (by kernel_rfl) (by kernel_rfl) (by kernel_rfl) (fun _ _ _ h => h) (Or.inl ⟨by kernel_rfl, fun W _ => by go_simp⟩) (unhide HRq).drew ?_
  refine wpAnyH_take (i := 3) (v := .map (some c.mS)) rfl (by kernel_rfl) (by kernel_rfl) (by kernel_rfl) (fun _ _ _ h => h) (Or.inl ⟨by kernel_rfl, fun W hW => by have hh := Rdr.c3 hW; go_simp⟩) (unhide HRq).drew ?_
  refine wpAnyH_take (i := 4) (v := rPtr c) rfl (by kernel_rfl) (by kernel_rfl) (by kernel_rfl) (fun _ _ _ h => h) (Or.inl ⟨by kernel_rfl, fun W _ => by go_simp⟩) (unhide HRq).drew ?_
  refine wpAnyH_ready (rs := [5, 10]) (by kernel_rfl) (by simp) (AllReadyH.cons rfl (fun K hK => ?_) (AllReadyH.cons rfl (fun K hK => ?_) AllReadyH.nil))
  · go_simp
    refine Calls.mono (fixed_any c _ i d (unhide HRq).drew) ?_
    rintro e w1 ⟨rfl, hb⟩
    have HR1 := hide ((unhide HRq).drew.later hb)
    have HB1 := hide ((unhide HBq).trans (((Below.refl _ _).drew.trans hb).mono (unhide HBq).size))
    clear hb
    refine hK.out _ _ (unhide HR1) (fun _ => ?_)
    clear hK K
    refine wpAnyH_take (i := 6) (v := .tuple #[.agg #[.string x.tx, .int .i64 x.kd, .int .i64 x.parts, .int .i64 x.str], .bool true]) rfl (by kernel_rfl) (by kernel_rfl) (by kernel_rfl) (fun _ _ _ h => h) (Or.inl ⟨by kernel_rfl, fun W hW => by have hh := (unhide HL2) W hW; go_simp⟩) (unhide HR1) ?_
    refine wpAnyH_take (i := 7) (v := .tuple #[.agg #[.string x.tx, .int .i64 x.kd, .int .i64 x.parts, .int .i64 x.str], .bool true]) rfl (by kernel_rfl) (by kernel_rfl) (by kernel_rfl) (fun _ _ _ h => h) (Or.inl ⟨by kernel_rfl, fun W _ => by go_simp⟩) (unhide HR1) ?_
    refine wpAnyH_take (i := 8) (v := .agg #[.string x.tx, .int .i64 x.kd, .int .i64 x.parts, .int .i64 x.str]) rfl (by kernel_rfl) (by kernel_rfl) (by kernel_rfl) (fun _ _ _ h => h) (Or.inl ⟨by kernel_rfl, fun W _ => by go_simp⟩) (unhide HR1) ?_
    refine wpAnyH_take (i := 9) (v := .bool true) rfl (by kernel_rfl) (by kernel_rfl) (by kernel_rfl) (fun _ _ _ h => h) (Or.inl ⟨by kernel_rfl, fun W _ => by go_simp⟩) (unhide HR1) ?_
    refine wpAnyH_ready (rs := [10]) (by kernel_rfl) (by simp) (AllReadyH.cons rfl (fun K hK => ?_) AllReadyH.nil)
    go_simp
    refine hK.out _ _ ((unhide HR1).alloc O160) (fun _ => ?_)
    clear hK K
    refine wpAnyH_ready (rs := [11]) (by kernel_rfl) (by simp) (AllReadyH.cons rfl (fun K hK => ?_) AllReadyH.nil)
    go_simp
    have HR2 := hide ((unhide HR1).alloc (.cells #[.string x.tx, .int .i64 x.kd, .int .i64 x.parts, .int .i64 x.str] 160))
    have HW2 := hide ((unhide HB1).alloc (unhide HB1).size (.cells #[.string x.tx, .int .i64 x.kd, .int .i64 x.parts, .int .i64 x.str] 160))
    refine hK.out _ _ (unhide HR2) (fun _ => ?_)
    clear hK K
    refine wpAnyH_take (i := 12) (v := .bool true) rfl (by kernel_rfl) (by kernel_rfl) (by kernel_rfl) (fun _ _ _ h => h) (Or.inl ⟨by kernel_rfl, fun W _ => by go_simp⟩) (unhide HR2) ?_
    refine wpAnyH_done (by kernel_rfl) ?_ _
    go_simp
    go_wp2_with fail
    go_ret
    exact ⟨ret_bool (by simp), unhide HW2⟩
  · go_simp
    have HR' := hide (((unhide HRq).alloc O160).drew)
    refine hK.out _ _ (unhide HR') (fun _ => ?_)
    clear hK K
    refine wpAnyH_ready (rs := [5]) (by kernel_rfl) (by simp) (AllReadyH.cons rfl (fun K hK => ?_) AllReadyH.nil)
    go_simp
    refine Calls.mono (fixed_any c _ i d (unhide HR')) ?_
    rintro e w1 ⟨rfl, hb⟩
    have HR1 := hide ((unhide HR').later hb)
    have HB1 := hide ((unhide HBq).trans ((((Below.refl wq.heap.size wq).alloc (Nat.le_refl _) O160).drew.trans (hb.mono (by simp))).mono (unhide HBq).size))
    have p1 : w1.heap[wq.heap.size]? = some O160 := (hb.block _ (by simp)).trans (heap_new wq O160)
    obtain ⟨r0, r1, r2, r3, rf, rlt⟩ := c160 p1
    have P1 := hide p1
    clear hb p1
    refine hK.out _ _ (unhide HR1) (fun _ => ?_)
    clear hK K
    refine wpAnyH_take (i := 6) (v := .tuple #[.agg #[.string x.tx, .int .i64 x.kd, .int .i64 x.parts, .int .i64 x.str], .bool true]) rfl (by kernel_rfl) (by kernel_rfl) (by kernel_rfl) (fun _ _ _ h => h) (Or.inl ⟨by kernel_rfl, fun W hW => by have hh := (unhide HL2) W hW; go_simp⟩) (unhide HR1) ?_
    refine wpAnyH_take (i := 7) (v := .tuple #[.agg #[.string x.tx, .int .i64 x.kd, .int .i64 x.parts, .int .i64 x.str], .bool true]) rfl (by kernel_rfl) (by kernel_rfl) (by kernel_rfl) (fun _ _ _ h => h) (Or.inl ⟨by kernel_rfl, fun W _ => by go_simp⟩) (unhide HR1) ?_
    refine wpAnyH_take (i := 8) (v := .agg #[.string x.tx, .int .i64 x.kd, .int .i64 x.parts, .int .i64 x.str]) rfl (by kernel_rfl) (by kernel_rfl) (by kernel_rfl) (fun _ _ _ h => h) (Or.inl ⟨by kernel_rfl, fun W _ => by go_simp⟩) (unhide HR1) ?_
    refine wpAnyH_take (i := 9) (v := .bool true) rfl (by kernel_rfl) (by kernel_rfl) (by kernel_rfl) (fun _ _ _ h => h) (Or.inl ⟨by kernel_rfl, fun W _ => by go_simp⟩) (unhide HR1) ?_
    refine wpAnyH_ready (rs := [11]) (by kernel_rfl) (by simp) (AllReadyH.cons rfl (fun K hK => ?_) AllReadyH.nil)
    go_simp
    clear r0 r1 r2 r3 rf rlt
    obtain ⟨W2, hW2⟩ : ∃ W2, W2 = (((w1.setCell ⟨wq.heap.size, 0, none⟩ (.string x.tx)).setCell ⟨wq.heap.size, 1, none⟩ (.int .i64 x.kd)).setCell ⟨wq.heap.size, 2, none⟩ (.int .i64 x.parts)).setCell ⟨wq.heap.size, 3, none⟩ (.int .i64 x.str) := ⟨_, rfl⟩
    obtain ⟨hr2, hb2, ⟨s0, s1, s2, s3, sf, slt⟩⟩ := w3_any (v0 := .string x.tx) (v1 := .int .i64 x.kd) (v2 := .int .i64 x.parts) (v3 := .int .i64 x.str) (unhide HR1) (unhide HLO) (unhide P1) hW2
    have HR2 := hide hr2
    have HW2 := hide ((unhide HB1).trans (hb2.mono (unhide HBq).size))
    rw [← hW2]
    clear hW2 hr2 hb2
    refine hK.out _ _ (unhide HR2) (fun _ => ?_)
    clear hK K
    refine wpAnyH_take (i := 12) (v := .bool true) rfl (by kernel_rfl) (by kernel_rfl) (by kernel_rfl) (fun _ _ _ h => h) (Or.inl ⟨by kernel_rfl, fun W _ => by go_simp⟩) (unhide HR2) ?_
    refine wpAnyH_done (by kernel_rfl) ?_ _
    go_simp
    go_wp2_with fail
    go_ret
    exact ⟨ret_bool (by simp), unhide HW2⟩

theorem atValue_any (c : Ctx) : Asks c 239 (isVal c.l) := by
  intro w d i h
  unfold isVal
  by_cases h1 : (tkA c.l i).kd = 1
  · rw [h1]; exact av_name w d i h1 h
  · by_cases h3 : (tkA c.l i).kd = 3
    · rw [h3]; exact av_num w d i h3 h
    · by_cases h4 : (tkA c.l i).kd = 4
      · rw [h4]; exact av_str w d i h4 h
      · rw [beq_eq_false_iff_ne.2 h1, beq_eq_false_iff_ne.2 h3, beq_eq_false_iff_ne.2 h4]
        simp only [Bool.false_or]
        cases hq : look2 vlKeys (fx c.l i) with
        | some q => exact av_map w d i h1 h3 h4 q hq h
        | none =>
          cases hsg : sgOf (fx c.l i) with
          | none => exact av_none w d i h1 h3 h4 hq hsg h
          | some x =>
            have hx := av_some w d i h1 h3 h4 x hq hsg h
            cases hp : decide (x.parts < 2) with
            | true => rw [hp] at hx; simpa [Option.filter, hp] using hx
            | false => rw [hp] at hx; simpa [Option.filter, hp] using hx
end Go.Proofs.YtoliilffjojfcaaGreatDoor

/-
  Rd18: A node that grows by parts behind its own.
-/
namespace Go.Proofs.YtoliilffjojfcaaGreatDoor
open Go.RowKit

/-- A node's blocks and its parts, open. -/
structure Open (B : Nat) (w : World) (t : Tr) (p : Nat) (u : Value) (ps : List Nat) : Prop where
  low : B ≤ p
  blk : w.heap[p]? = some (nodeObj t.kd t.tx t.n u)
  row : w.ownsRow B 22 1 u ps.length (ps.map nPtr)
  own : u.ownBlock ≠ some p
  kids : NAts (fun b => B ≤ b ∧ b ≠ p ∧ u.ownBlock ≠ some b) w t.kids ps

theorem EV.opens {B : Nat} {w : World} {t : Tr} {v : Value} (h : EV B w t v) : ∃ p u ps, v = nPtr p ∧ Open B w t p u ps := by
  obtain ⟨p, u, ps, rfl, h1, h2, h3, h4, h5⟩ := h
  exact ⟨p, u, ps, rfl, h1, h2, h3, h4, h5⟩
theorem Open.ev {B : Nat} {w : World} {t : Tr} {p : Nat} {u : Value} {ps : List Nat} (h : Open B w t p u ps) : EV B w t (nPtr p) := ⟨p, u, ps, rfl, h.low, h.blk, h.row, h.own, h.kids⟩
theorem Open.later {c : Ctx} {B : Nat} {w w' : World} {t : Tr} {p : Nat} {u : Value} {ps : List Nat} (h : Open B w t p u ps) (ha : Ap c.R w.heap.size w w') (hB : c.R < B) : Open B w' t p u ps :=
  ⟨h.low, by rw [ha.block p (lt_of_heap h.blk) (by have := h.low; omega)]; exact h.blk, owns_stay (I := fun b => B ≤ b) (Stay.of_ap ha hB fun _ h => h) (fun g hg => (own_lt h.row g hg).2) h.row, h.own, NAts.later (Stay.of_ap ha hB fun _ h => h.1) _ _ h.kids⟩
theorem Open.cell {B : Nat} {w : World} {t : Tr} {p : Nat} {u : Value} {ps : List Nat} (h : Open B w t p u ps) : w.cell? ⟨p, 3, none⟩ = some u ∧ (∀ o, w.frozen? ⟨p, o, none⟩ = false) ∧ p < w.heap.size :=
  ⟨(node_cells h.blk).2.2.2.1, (node_cells h.blk).2.2.2.2, lt_of_heap h.blk⟩
theorem Open.shape {B : Nat} {w : World} {t : Tr} {p : Nat} {u : Value} {ps : List Nat} (h : Open B w t p u ps) : ∃ a cap, u = .slice a t.kids.length cap := by
  rw [← NAts.length _ _ h.kids]; exact row_shut h.row

/-- What was made from a later number on has none of the node's blocks. -/
theorem Open.apart {B : Nat} {w w1 : World} {t : Tr} {p : Nat} {u : Value} {ps : List Nat} (h : Open B w t p u ps) (hB : B ≤ w.heap.size) {us : List Tr} {qs : List Nat} (hn : NAts (From w.heap.size) w1 us qs) :
    NAts (fun b => B ≤ b ∧ b ≠ p ∧ u.ownBlock ≠ some b) w1 us qs :=
  NAts.mono (fun b hb _ => by
    have h1 : w.heap.size ≤ b := hb
    have h2 := lt_of_heap h.blk
    exact ⟨by omega, by omega, fun e => by have := (own_lt h.row b e).1; omega⟩) _ _ hn

/-- The row has grown, and the node's word for it is stored. -/
theorem ev_push {B : Nat} {w0 w3 : World} {kd n : Int} {tx : ByteArray} {ts us : List Tr} {ps qs : List Nat} {p g m cap : Nat} {u : Value} (hB : B ≤ p) (hb : w0.heap[p]? = some (nodeObj kd tx n u)) (hu : u.ownBlock ≠ some p)
    (hk : NAts (fun b => B ≤ b ∧ b ≠ p ∧ u.ownBlock ≠ some b) w0 ts ps) (hq : NAts (fun b => B ≤ b ∧ b ≠ p ∧ u.ownBlock ≠ some b) w0 us qs)
    (hown : w3.ownsRow B 22 1 (.slice (some ⟨g, 0, none⟩) m cap) m ((ps ++ qs).map nPtr)) (hm : m = (ps ++ qs).length) (hgr : w0.grownBy w3 u.ownBlock) (hg : u.ownBlock = some g ∨ g = w0.heap.size) :
    EV B (w3.setCell ⟨p, 3, none⟩ (.slice (some ⟨g, 0, none⟩) m cap)) (.mk kd tx n (ts ++ us)) (nPtr p) := by
  subst hm
  have hlt := lt_of_heap hb
  have hgp : g ≠ p := by
    rcases hg with hg | hg
    · exact fun e => hu (by rw [hg, e])
    · omega
  have h3 : w3.heap[p]? = some (nodeObj kd tx n u) := by rw [hgr.block p hlt (fun e => hu e.symm)]; exact hb
  have hset : ∀ b, b ≠ p → (w3.setCell ⟨p, 3, none⟩ (.slice (some ⟨g, 0, none⟩) (ps ++ qs).length cap)).heap[b]? = w3.heap[b]? := fun b hb => Below.heap_setCell w3 ⟨p, 3, none⟩ _ b hb
  refine ⟨p, .slice (some ⟨g, 0, none⟩) (ps ++ qs).length cap, ps ++ qs, rfl, hB, by rw [heap_set h3]; rfl, ?_, fun e => hgp (by simpa [Value.ownBlock] using e), ?_⟩
  · exact owns_stay (I := fun b => b = g) (fun b hb _ => hset b (by rw [hb]; exact hgp)) (fun g' hg' => by simpa [Value.ownBlock] using hg'.symm) hown
  · have h0 := NAts.mono (J := fun b => B ≤ b ∧ b ≠ p ∧ b ≠ g ∧ u.ownBlock ≠ some b) (fun b hb hl => ⟨hb.1, hb.2.1, fun e => by (rcases hg with hg | hg); (exact hb.2.2 (by rw [hg, e])); omega, hb.2.2⟩) _ _ (NAts.append hq _ _ hk)
    have hs : Stay (fun b => B ≤ b ∧ b ≠ p ∧ b ≠ g ∧ u.ownBlock ≠ some b) w0 (w3.setCell ⟨p, 3, none⟩ (.slice (some ⟨g, 0, none⟩) (ps ++ qs).length cap)) := by
      intro b hb hl
      rw [hset b hb.2.1]
      exact hgr.block b hl (fun e => hb.2.2.2 e.symm)
    exact NAts.mono (fun b hb _ => ⟨hb.1, hb.2.1, fun e => by simp only [Value.ownBlock, Option.some.injEq] at e; exact hb.2.2.1 e.symm⟩) _ _ (NAts.later hs _ _ h0)

/-- One part more, through a new row of one: all that is known behind the store. -/
theorem push1 {c : Ctx} {w w1 w3 : World} {j d : Nat} {t x : Tr} {p q g cap : Nat} {u : Value} {ps : List Nat} (hO : Open w.heap.size w1 t p u ps) (hx : NAts (fun b => w.heap.size ≤ b ∧ b ≠ p ∧ u.ownBlock ≠ some b) w1 [x] [q]) (hR : Rdr c w1 j d) (hA : Ap c.R w.heap.size w w1) (hlo : c.lo ≤ w.heap.size)
    (hown : w3.ownsRow w.heap.size 22 1 (.slice (some ⟨g, 0, none⟩) (t.kids.length + 1) cap) (t.kids.length + 1) (ps.map nPtr ++ [nPtr q])) (hgr : (w1.alloc (.cells #[nPtr q] 22)).grownBy w3 u.ownBlock) (hg : u.ownBlock = some g ∨ g = w1.heap.size + 1) :
    EV w.heap.size (w3.setCell ⟨p, 3, none⟩ (.slice (some ⟨g, 0, none⟩) (t.kids.length + 1) cap)) (.mk t.kd t.tx t.n (t.kids ++ [x])) (nPtr p) ∧
    Rdr c (w3.setCell ⟨p, 3, none⟩ (.slice (some ⟨g, 0, none⟩) (t.kids.length + 1) cap)) j d ∧
    Ap c.R w.heap.size w (w3.setCell ⟨p, 3, none⟩ (.slice (some ⟨g, 0, none⟩) (t.kids.length + 1) cap)) := by
  have hlen := NAts.length _ _ hO.kids
  have hst : ∀ I, Stay I w1 (w1.alloc (.cells #[nPtr q] 22)) := fun I b _ hl => Below.heap_alloc w1 _ b hl
  have hb : (w1.alloc (.cells #[nPtr q] 22)).heap[p]? = some (nodeObj t.kd t.tx t.n u) := by rw [Below.heap_alloc w1 _ p (lt_of_heap hO.blk)]; exact hO.blk
  have hrow : ∀ k, u.ownBlock = some k → w.heap.size ≤ k := fun k hk => (own_lt hO.row k hk).2
  have hgrow : Below w.heap.size w1 w3 := ((Below.refl w.heap.size w1).alloc hA.size _).grown hgr (by simp; have := hA.size; omega) hrow
  have hset : Below w.heap.size w1 (w3.setCell ⟨p, 3, none⟩ (.slice (some ⟨g, 0, none⟩) (t.kids.length + 1) cap)) := hgrow.setCell (p := ⟨p, 3, none⟩) hO.low _
  refine ⟨?_, hR.ap hset hlo, hA.trans (Ap.of hset)⟩
  refine ev_push (w0 := w1.alloc (.cells #[nPtr q] 22)) hO.low hb hO.own (NAts.later (hst _) _ _ hO.kids) (NAts.later (hst _) _ _ hx) (by rw [List.map_append]; exact hown) (by simp [hlen]) hgr ?_
  rcases hg with hg | hg
  · exact Or.inl hg
  · exact Or.inr (by simp [hg])
end Go.Proofs.YtoliilffjojfcaaGreatDoor

/-
  Rd19: if, with an else and without; what is given.
-/
namespace Go.Proofs.YtoliilffjojfcaaGreatDoor
open Go.RowKit

theorem choice_eq (l : List Tk) (F : Fns) (d i : Nat) : choiceP l F d i = (behindP l F d i).bind fun n i2 =>
    if fx l i2 = tElse then (deepP l F.st d (i2 + 1)).bind fun s2 i3 => .ok (.mk n.kd n.tx n.n (n.kids ++ [s2])) i3 else .ok n i2 := by
  unfold choiceP behindP
  cases inParP l F d (i + 1) with
  | out => rfl
  | bad er p => rfl
  | ok v i1 =>
    simp only [bind_ok]
    cases deepP l F.st d i1 with
    | out => rfl
    | bad er p => rfl
    | ok s i2 => rfl
theorem behind_kids {l : List Tk} {F : Fns} {d i j : Nat} {t : Tr} (h : behindP l F d i = .ok t j) : t.kids.length = 2 := by
  unfold behindP at h
  cases h1 : inParP l F d (i + 1) with
  | out => rw [h1] at h; cases h
  | bad er p => rw [h1] at h; cases h
  | ok v i1 =>
    rw [h1, bind_ok] at h
    cases h2 : deepP l F.st d i1 with
    | out => rw [h2] at h; cases h
    | bad er p => rw [h2] at h; cases h
    | ok s i2 => rw [h2, bind_ok] at h; cases h; rfl

set_option maxRecDepth 100000 in
set_option maxHeartbeats 1000000 in
theorem choice_any {c : Ctx} {F : Fns} (hF : FC c F) (w : World) (d i : Nat) (r : PR Tr) (hk : (tkA c.l i).kd ≠ 6) (hs : choiceP c.l F d i = r) (ho : r ≠ .out) (h : Rdr c w i d) : Calls Tryz.prog 131 #[rPtr c] w (PPost c w d (NV w.heap.size) r) := by
  have hmf := mf_bound c.R 140
  have HKD := hide hk
  have HLO := hide h.base.size
  obtain ⟨i0, hi0, hz0, hz1, hz2⟩ := info_parts info22
  rw [choice_eq] at hs
  clear hk
  have HR0 := hide h
  have HA0 := hide (Ap.refl c.R w.heap.size w)
  have HLT := hide h.rlt
  have HS := hide hs
  have HO := hide ho
  clear h hs ho
  go_enter Tryz.func131, Tryz.ntmps131
  cases hr : behindP c.l F d i with
  | out =>
    rw [hr] at HS
    simp only [bind_out] at HS
    exact absurd (unhide HS).symm (unhide HO)
  | bad er p =>
    have HC := hide (behind_any hF w d i _ (unhide HKD) rfl (by rw [hr]; nofun) (unhide HR0))
    rw [hr] at HC HS
    simp only [bind_bad] at HS
    clear hr
    go_wp2_with fail
    refine Calls.mono HC.out ?_
    intro e w' hp
    obtain ⟨rfl, ha⟩ := hp
    exact ⟨rfl, ppBad (unhide HS).symm ((unhide HA0).next ha)⟩
  | ok x1 j1 =>
    have HKL := hide (behind_kids hr)
    have HC := hide (behind_any hF w d i _ (unhide HKD) rfl (by rw [hr]; nofun) (unhide HR0))
    rw [hr] at HC HS
    simp only [bind_ok] at HS
    clear hr
    go_wp2_with fail
    refine Calls.mono HC.out ?_
    intro e w1 hp
    obtain ⟨⟨v1, rfl, hn1⟩, hrd, ha⟩ := hp
    clear HC
    have HA1 := hide ((unhide HA0).next ha)
    have HR1 := hide hrd
    have HN1 := hide (EV.mono hn1 (unhide HA0).size)
    clear hn1
    clear hrd ha HA0 HR0
    obtain ⟨p0, u0, ps0, rfl, hop⟩ := (unhide HN1).opens
    have HOP := hide hop
    clear hop HN1
    by_cases hx : fx c.l j1 = tElse
    · rw [if_pos hx] at HS
      have HC := hide (take_yes c tElse w1 j1 d (unhide HR1) hx (by decide))
      clear hx
      go_wp2_with fail
      refine Calls.mono HC.out ?_
      rintro e w2 ⟨rfl, hr2, ha2⟩
      clear HC
      have HR2 := hide hr2
      have HA2 := hide ((unhide HA1).next ha2)
      replace HOP := hide (Open.later (unhide HOP) ha2 (unhide HLT))
      clear hr2 ha2 HR1 HA1
      obtain ⟨hc3, hcf, hcl⟩ := (unhide HOP).cell
      obtain ⟨ua, uc, hue⟩ := (unhide HOP).shape
      subst hue
      cases hr : deepP c.l F.st d (j1 + 1) with
      | out =>
        rw [hr] at HS
        simp only [bind_out] at HS
        exact absurd (unhide HS).symm (unhide HO)
      | bad er p =>
        have HC := hide (deepS hF w2.drew d (j1 + 1) (unhide HR2).drew (by rw [hr]; nofun))
        rw [hr] at HC HS
        simp only [bind_bad] at HS
        clear hr
        go_wp2_with fail
        refine wp_region_any (by kernel_rfl) ?_
        change wpAny _ _ _ _ _ _ _ (World.drew _)
        refine wpAny_take (i := 0) (v := nPtr p0) rfl (by kernel_rfl) (by kernel_rfl) (by kernel_rfl) (fun _ _ _ h => h) (Or.inl ⟨by kernel_rfl, fun w => by go_simp⟩) ?_
        refine wpAny_take (i := 1) (v := nPtr p0) rfl (by kernel_rfl) (by kernel_rfl) (by kernel_rfl) (fun _ _ _ h => h) (Or.inl ⟨by kernel_rfl, fun w => by go_simp⟩) ?_
        refine wpAny_take (i := 2) (v := nPtr p0) rfl (by kernel_rfl) (by kernel_rfl) (by kernel_rfl) (fun _ _ _ h => h) (Or.inl ⟨by kernel_rfl, fun w => by go_simp⟩) ?_
        refine wpAny_take (i := 3) (v := .pointer (some ⟨p0, 3, none⟩)) rfl (by kernel_rfl) (by kernel_rfl) (by kernel_rfl) (fun _ _ _ h => h) (Or.inl ⟨by kernel_rfl, fun w => by go_simp⟩) ?_
        refine wpAny_take (i := 5) (v := rPtr c) rfl (by kernel_rfl) (by kernel_rfl) (by kernel_rfl) (fun _ _ _ h => h) (Or.inl ⟨by kernel_rfl, fun w => by go_simp⟩) ?_
        refine wpAny_take (i := 6) (v := rPtr c) rfl (by kernel_rfl) (by kernel_rfl) (by kernel_rfl) (fun _ _ _ h => h) (Or.inl ⟨by kernel_rfl, fun w => by go_simp⟩) ?_
        refine wpAny_take (i := 7) (v := .func (.func 140) #[rPtr c] #[]) rfl (by kernel_rfl) (by kernel_rfl) (by kernel_rfl) (fun _ _ _ h => h) (Or.inl ⟨by kernel_rfl, fun w => by go_simp⟩) ?_
        refine wpAny_ready (rs := [4, 8]) (by kernel_rfl) (by simp) (AllReady.cons rfl (fun K hK => ?_) (AllReady.cons rfl (fun K hK => ?_) AllReady.nil))
        · go_simp
          refine hK _ _ ?_
          clear hK K
          refine wpAny_ready (rs := [8]) (by kernel_rfl) (by simp) (AllReady.cons rfl (fun K hK => ?_) AllReady.nil)
          go_simp
          refine Calls.mono HC.out ?_
          intro e w' hp
          obtain ⟨rfl, ha⟩ := hp
          exact ⟨rfl, ppBad (unhide HS).symm ((unhide HA2).drew.next ha)⟩
        · go_simp
          refine Calls.mono HC.out ?_
          intro e w' hp
          obtain ⟨rfl, ha⟩ := hp
          exact ⟨rfl, ppBad (unhide HS).symm ((unhide HA2).drew.next ha)⟩
      | ok tx1 jx =>
        have HC := hide (deepS hF w2.drew d (j1 + 1) (unhide HR2).drew (by rw [hr]; nofun))
        rw [hr] at HC HS
        simp only [bind_ok] at HS
        clear hr
        go_wp2_with fail
        refine wp_region_any (by kernel_rfl) ?_
        change wpAny _ _ _ _ _ _ _ (World.drew _)
        refine wpAny_take (i := 0) (v := nPtr p0) rfl (by kernel_rfl) (by kernel_rfl) (by kernel_rfl) (fun _ _ _ h => h) (Or.inl ⟨by kernel_rfl, fun w => by go_simp⟩) ?_
        refine wpAny_take (i := 1) (v := nPtr p0) rfl (by kernel_rfl) (by kernel_rfl) (by kernel_rfl) (fun _ _ _ h => h) (Or.inl ⟨by kernel_rfl, fun w => by go_simp⟩) ?_
        refine wpAny_take (i := 2) (v := nPtr p0) rfl (by kernel_rfl) (by kernel_rfl) (by kernel_rfl) (fun _ _ _ h => h) (Or.inl ⟨by kernel_rfl, fun w => by go_simp⟩) ?_
        refine wpAny_take (i := 3) (v := .pointer (some ⟨p0, 3, none⟩)) rfl (by kernel_rfl) (by kernel_rfl) (by kernel_rfl) (fun _ _ _ h => h) (Or.inl ⟨by kernel_rfl, fun w => by go_simp⟩) ?_
        refine wpAny_take (i := 5) (v := rPtr c) rfl (by kernel_rfl) (by kernel_rfl) (by kernel_rfl) (fun _ _ _ h => h) (Or.inl ⟨by kernel_rfl, fun w => by go_simp⟩) ?_
        refine wpAny_take (i := 6) (v := rPtr c) rfl (by kernel_rfl) (by kernel_rfl) (by kernel_rfl) (fun _ _ _ h => h) (Or.inl ⟨by kernel_rfl, fun w => by go_simp⟩) ?_
        refine wpAny_take (i := 7) (v := .func (.func 140) #[rPtr c] #[]) rfl (by kernel_rfl) (by kernel_rfl) (by kernel_rfl) (fun _ _ _ h => h) (Or.inl ⟨by kernel_rfl, fun w => by go_simp⟩) ?_
        refine wpAny_ready (rs := [4, 8]) (by kernel_rfl) (by simp) (AllReady.cons rfl (fun K hK => ?_) (AllReady.cons rfl (fun K hK => ?_) AllReady.nil))
        · go_simp
          refine hK _ _ ?_
          clear hK K
          refine wpAny_ready (rs := [8]) (by kernel_rfl) (by simp) (AllReady.cons rfl (fun K hK => ?_) AllReady.nil)
          go_simp
          refine Calls.mono HC.out ?_
          intro e wc hp
          obtain ⟨⟨vc, rfl, pc, rfl, hnc⟩, hrd, ha⟩ := hp
          have HAc := hide ((unhide HA2).drew.next ha)
          have HRc := hide hrd
          have HOc := hide (Open.later (unhide HOP) (((Ap.refl c.R w2.heap.size w2).drew).next ha) (unhide HLT))
          have HNc := hide (Open.apart (unhide HOP) (unhide HA2).size (NAts.cons hnc NAts.nil))
          obtain ⟨gc3, gcf, gcl⟩ := (unhide HOc).cell
          clear hrd ha hnc
          refine hK _ _ ?_
          clear hK K
          refine wpAny_ready (rs := [9]) (by kernel_rfl) (by simp) (AllReady.cons rfl (fun K hK => ?_) AllReady.nil)
          go_simp
          refine hK _ _ ?_
          clear hK K
          have hlen := NAts.length _ _ (unhide HOc).kids
          have hown := (unhide HOc).row
          rw [hlen] at hown
          have HOWN := hide hown
          have hsz := (unhide HAc).size
          have hkl : x1.kids.length ≤ 3 := by rw [unhide HKL]; decide
          clear hown hlen
          refine wpAny_ready (rs := [10]) (by kernel_rfl) (by simp) (AllReady.cons rfl (fun K hK => ?_) AllReady.nil)
          refine step_append_lies _ rfl _ _ 36 rfl w.heap.size 22 i0 (.pointer none) 1 8 Tryz.underlying36 hi0 hz0 hz1 hz2 rfl (by decide) _ _ _ rfl ((unhide HOWN).alloc _) ⟨wc.heap.size, 0, none⟩ 1 1 [nPtr pc] rfl rfl (one_cells wc pc _ rfl) (one_one pc) (by decide) (by unfold maxLen; omega) (by omega) (by simp; omega) (wc.heap.size + 1) (by simp) ?_
          intro g cap w3 hown3 hgr3 hg3 _
          refine hK _ _ ?_
          clear hK K
          have HP1 := hide (push1 (unhide HOc) (unhide HNc) (unhide HRc) (unhide HAc) (unhide HLO) hown3 hgr3 hg3)
          have hp3 : w3.cell? ⟨p0, 3, none⟩ = wc.cell? ⟨p0, 3, none⟩ ∧ w3.frozen? ⟨p0, 3, none⟩ = wc.frozen? ⟨p0, 3, none⟩ := by
            have hbb : w3.heap[p0]? = wc.heap[p0]? := (hgr3.block p0 (by simp; omega) (fun e => (unhide HOc).own e.symm)).trans (Below.heap_alloc wc _ p0 gcl)
            exact ⟨World.cell?_of_block (w := wc) hbb, World.frozen?_of_block (w := wc) hbb⟩
          obtain ⟨hp3c, hp3f⟩ := hp3
          rw [gc3] at hp3c
          rw [gcf 3] at hp3f
          clear hown3 hgr3 hg3
          refine wpAny_take (i := 11) (v := nPtr p0) rfl (by kernel_rfl) (by kernel_rfl) (by kernel_rfl) (fun _ _ _ h => h) (Or.inl ⟨by kernel_rfl, fun w => by go_simp⟩) ?_
          refine wpAny_take (i := 12) (v := .pointer (some ⟨p0, 3, none⟩)) rfl (by kernel_rfl) (by kernel_rfl) (by kernel_rfl) (fun _ _ _ h => h) (Or.inl ⟨by kernel_rfl, fun w => by go_simp⟩) ?_
          refine wpAny_ready (rs := [13]) (by kernel_rfl) (by simp) (AllReady.cons rfl (fun K hK => ?_) AllReady.nil)
          go_simp
          refine hK _ _ ?_
          clear hK K hp3c hp3f gc3 gcf gcl HOWN
          refine wpAny_done (by kernel_rfl) ?_ _
          go_simp
          obtain ⟨m1, m2, m3⟩ := unhide HP1
          have HM1 := hide m1
          have HM2 := hide m2
          have HM3 := hide m3
          clear m1 m2 m3
          go_wp2_with fail
          go_ret
          exact ppOk (unhide HS).symm (unhide HM1).nv (unhide HM2) (unhide HM3)
        · go_simp
          refine Calls.mono HC.out ?_
          intro e wc hp
          obtain ⟨⟨vc, rfl, pc, rfl, hnc⟩, hrd, ha⟩ := hp
          have HAc := hide ((unhide HA2).drew.next ha)
          have HRc := hide hrd
          have HOc := hide (Open.later (unhide HOP) (((Ap.refl c.R w2.heap.size w2).drew).next ha) (unhide HLT))
          have HNc := hide (Open.apart (unhide HOP) (unhide HA2).size (NAts.cons hnc NAts.nil))
          obtain ⟨gc3, gcf, gcl⟩ := (unhide HOc).cell
          clear hrd ha hnc
          refine hK _ _ ?_
          clear hK K
          refine wpAny_ready (rs := [4, 9]) (by kernel_rfl) (by simp) (AllReady.cons rfl (fun K hK => ?_) (AllReady.cons rfl (fun K hK => ?_) AllReady.nil))
          · go_simp
            refine hK _ _ ?_
            clear hK K
            refine wpAny_ready (rs := [9]) (by kernel_rfl) (by simp) (AllReady.cons rfl (fun K hK => ?_) AllReady.nil)
            go_simp
            refine hK _ _ ?_
            clear hK K
            have hlen := NAts.length _ _ (unhide HOc).kids
            have hown := (unhide HOc).row
            rw [hlen] at hown
            have HOWN := hide hown
            have hsz := (unhide HAc).size
            have hkl : x1.kids.length ≤ 3 := by rw [unhide HKL]; decide
            clear hown hlen
            refine wpAny_ready (rs := [10]) (by kernel_rfl) (by simp) (AllReady.cons rfl (fun K hK => ?_) AllReady.nil)
            refine step_append_lies _ rfl _ _ 36 rfl w.heap.size 22 i0 (.pointer none) 1 8 Tryz.underlying36 hi0 hz0 hz1 hz2 rfl (by decide) _ _ _ rfl ((unhide HOWN).alloc _) ⟨wc.heap.size, 0, none⟩ 1 1 [nPtr pc] rfl rfl (one_cells wc pc _ rfl) (one_one pc) (by decide) (by unfold maxLen; omega) (by omega) (by simp; omega) (wc.heap.size + 1) (by simp) ?_
            intro g cap w3 hown3 hgr3 hg3 _
            refine hK _ _ ?_
            clear hK K
            have HP1 := hide (push1 (unhide HOc) (unhide HNc) (unhide HRc) (unhide HAc) (unhide HLO) hown3 hgr3 hg3)
            have hp3 : w3.cell? ⟨p0, 3, none⟩ = wc.cell? ⟨p0, 3, none⟩ ∧ w3.frozen? ⟨p0, 3, none⟩ = wc.frozen? ⟨p0, 3, none⟩ := by
              have hbb : w3.heap[p0]? = wc.heap[p0]? := (hgr3.block p0 (by simp; omega) (fun e => (unhide HOc).own e.symm)).trans (Below.heap_alloc wc _ p0 gcl)
              exact ⟨World.cell?_of_block (w := wc) hbb, World.frozen?_of_block (w := wc) hbb⟩
            obtain ⟨hp3c, hp3f⟩ := hp3
            rw [gc3] at hp3c
            rw [gcf 3] at hp3f
            clear hown3 hgr3 hg3
            refine wpAny_take (i := 11) (v := nPtr p0) rfl (by kernel_rfl) (by kernel_rfl) (by kernel_rfl) (fun _ _ _ h => h) (Or.inl ⟨by kernel_rfl, fun w => by go_simp⟩) ?_
            refine wpAny_take (i := 12) (v := .pointer (some ⟨p0, 3, none⟩)) rfl (by kernel_rfl) (by kernel_rfl) (by kernel_rfl) (fun _ _ _ h => h) (Or.inl ⟨by kernel_rfl, fun w => by go_simp⟩) ?_
            refine wpAny_ready (rs := [13]) (by kernel_rfl) (by simp) (AllReady.cons rfl (fun K hK => ?_) AllReady.nil)
            go_simp
            refine hK _ _ ?_
            clear hK K hp3c hp3f gc3 gcf gcl HOWN
            refine wpAny_done (by kernel_rfl) ?_ _
            go_simp
            obtain ⟨m1, m2, m3⟩ := unhide HP1
            have HM1 := hide m1
            have HM2 := hide m2
            have HM3 := hide m3
            clear m1 m2 m3
            go_wp2_with fail
            go_ret
            exact ppOk (unhide HS).symm (unhide HM1).nv (unhide HM2) (unhide HM3)
          · go_simp
            refine hK _ _ ?_
            clear hK K
            refine wpAny_ready (rs := [4]) (by kernel_rfl) (by simp) (AllReady.cons rfl (fun K hK => ?_) AllReady.nil)
            go_simp
            refine hK _ _ ?_
            clear hK K
            have hlen := NAts.length _ _ (unhide HOc).kids
            have hown := (unhide HOc).row
            rw [hlen] at hown
            have HOWN := hide hown
            have hsz := (unhide HAc).size
            have hkl : x1.kids.length ≤ 3 := by rw [unhide HKL]; decide
            clear hown hlen
            refine wpAny_ready (rs := [10]) (by kernel_rfl) (by simp) (AllReady.cons rfl (fun K hK => ?_) AllReady.nil)
            refine step_append_lies _ rfl _ _ 36 rfl w.heap.size 22 i0 (.pointer none) 1 8 Tryz.underlying36 hi0 hz0 hz1 hz2 rfl (by decide) _ _ _ rfl ((unhide HOWN).alloc _) ⟨wc.heap.size, 0, none⟩ 1 1 [nPtr pc] rfl rfl (one_cells wc pc _ rfl) (one_one pc) (by decide) (by unfold maxLen; omega) (by omega) (by simp; omega) (wc.heap.size + 1) (by simp) ?_
            intro g cap w3 hown3 hgr3 hg3 _
            refine hK _ _ ?_
            clear hK K
            have HP1 := hide (push1 (unhide HOc) (unhide HNc) (unhide HRc) (unhide HAc) (unhide HLO) hown3 hgr3 hg3)
            have hp3 : w3.cell? ⟨p0, 3, none⟩ = wc.cell? ⟨p0, 3, none⟩ ∧ w3.frozen? ⟨p0, 3, none⟩ = wc.frozen? ⟨p0, 3, none⟩ := by
              have hbb : w3.heap[p0]? = wc.heap[p0]? := (hgr3.block p0 (by simp; omega) (fun e => (unhide HOc).own e.symm)).trans (Below.heap_alloc wc _ p0 gcl)
              exact ⟨World.cell?_of_block (w := wc) hbb, World.frozen?_of_block (w := wc) hbb⟩
            obtain ⟨hp3c, hp3f⟩ := hp3
            rw [gc3] at hp3c
            rw [gcf 3] at hp3f
            clear hown3 hgr3 hg3
            refine wpAny_take (i := 11) (v := nPtr p0) rfl (by kernel_rfl) (by kernel_rfl) (by kernel_rfl) (fun _ _ _ h => h) (Or.inl ⟨by kernel_rfl, fun w => by go_simp⟩) ?_
            refine wpAny_take (i := 12) (v := .pointer (some ⟨p0, 3, none⟩)) rfl (by kernel_rfl) (by kernel_rfl) (by kernel_rfl) (fun _ _ _ h => h) (Or.inl ⟨by kernel_rfl, fun w => by go_simp⟩) ?_
            refine wpAny_ready (rs := [13]) (by kernel_rfl) (by simp) (AllReady.cons rfl (fun K hK => ?_) AllReady.nil)
            go_simp
            refine hK _ _ ?_
            clear hK K hp3c hp3f gc3 gcf gcl HOWN
            refine wpAny_done (by kernel_rfl) ?_ _
            go_simp
            obtain ⟨m1, m2, m3⟩ := unhide HP1
            have HM1 := hide m1
            have HM2 := hide m2
            have HM3 := hide m3
            clear m1 m2 m3
            go_wp2_with fail
            go_ret
            exact ppOk (unhide HS).symm (unhide HM1).nv (unhide HM2) (unhide HM3)
    · rw [if_neg hx] at HS
      have HC := hide (take_not c tElse w1 j1 d (unhide HR1) hx)
      clear hx
      go_wp2_with fail
      refine Calls.mono HC.out ?_
      rintro e w2 ⟨rfl, hb2⟩
      clear HC
      have HR2 := hide ((unhide HR1).later hb2)
      have HA2 := hide ((unhide HA1).next (Ap.of hb2))
      replace HOP := hide (Open.later (unhide HOP) (Ap.of hb2) (unhide HLT))
      clear hb2
      go_wp2_with fail
      go_ret
      exact ppOk (unhide HS).symm (unhide HOP).ev.nv (unhide HR2) (unhide HA2)

end Go.Proofs.YtoliilffjojfcaaGreatDoor
