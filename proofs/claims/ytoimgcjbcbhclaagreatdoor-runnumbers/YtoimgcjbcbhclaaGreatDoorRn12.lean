/-
  Whether a value begins.
-/
import Derived.Test.YtoimgcjbcbhclaaGreatDoorRn0
import Derived.Test.YtoimgcjbcbhclaaGreatDoorRn6
import Derived.Test.YtoimgcjbcbhclaaGreatDoorRn9
import Derived.Test.YtoimgcjbcbhclaaGreatDoorRn10
import Derived.Deep.MidRow
import Derived.Laws.AppendOwnNone
set_option maxRecDepth 100000
set_option maxHeartbeats 16000000
namespace Go.Proofs.YtoimgcjbcbhclaaGreatDoor
open Go.RowKit
theorem w3_any {c : Ctx} {b : Nat} {w1 W2 : World} {i d : Nat} {v0 v1 v2 v3 : Value} (h : Rdr c w1 i d) (hlo : c.lo ≤ b) (p1 : w1.heap[b]? = some O160)
  (hW : W2 = (((w1.setCell ⟨b, 0, none⟩ v0).setCell ⟨b, 1, none⟩ v1).setCell ⟨b, 2, none⟩ v2).setCell ⟨b, 3, none⟩ v3) :
  Rdr c W2 i d ∧ Below b w1 W2 ∧ C160 b W2 v0 v1 v2 v3 := by
 have hB : Below b w1 W2 := by
  rw [hW]
  exact ((((Below.refl _ w1).setCell (p := ⟨b, 0, none⟩) qv v0).setCell (p := ⟨b, 1, none⟩) qv v1).setCell (p := ⟨b, 2, none⟩) qv v2).setCell (p := ⟨b, 3, none⟩) qv v3
 refine ⟨h.ap hB hlo, hB, c160 ?_⟩
 rw [hW]
 exact set4 p1 v0 v1 v2 v3
theorem av_name {c : Ctx} (w : World) (d i : Nat) (hk : (tkA c.l i).kd = 1) (h : Rdr c w i d) : Calls Tryz.prog 312 #[rPtr c] w fun e w' => e = .returned (.bool true) ∧ Below w.heap.size w w' := by
 have HR0 := qh h
 have HB0 := qh (Below.refl w.heap.size w)
 have b1 : ((tkA c.l i).kd == 1) = true := by rw [hk]; decide
 have b3 : ((tkA c.l i).kd == 3) = false := by rw [hk]; decide
 have b4 : ((tkA c.l i).kd == 4) = false := by rw [hk]; decide
 clear h hk
 go_enter Tryz.func312, Tryz.ntmps312
 have HC := qh (zjk c w i d HR0.out)
 unfold tkV at HC
 have hfl := zgz (tkA c.l i)
 go_wp2_with fail
 refine cm HC.out ?_
 rintro e wt ⟨rfl, hbt⟩
 clear HC
 have HRt := qh (HR0.out.later hbt)
 have HBt := qh hbt
 clear hbt
 go_wp2_with fail
 go_ret
 exact ⟨rfl, HBt.out⟩
theorem av_num {c : Ctx} (w : World) (d i : Nat) (hk : (tkA c.l i).kd = 3) (h : Rdr c w i d) : Calls Tryz.prog 312 #[rPtr c] w fun e w' => e = .returned (.bool true) ∧ Below w.heap.size w w' := by
 have HR0 := qh h
 have HB0 := qh (Below.refl w.heap.size w)
 have b1 : ((tkA c.l i).kd == 1) = false := by rw [hk]; decide
 have b3 : ((tkA c.l i).kd == 3) = true := by rw [hk]; decide
 have b4 : ((tkA c.l i).kd == 4) = false := by rw [hk]; decide
 clear h hk
 go_enter Tryz.func312, Tryz.ntmps312
 have HC := qh (zjk c w i d HR0.out)
 unfold tkV at HC
 have hfl := zgz (tkA c.l i)
 go_wp2_with fail
 refine cm HC.out ?_
 rintro e wt ⟨rfl, hbt⟩
 clear HC
 have HRt := qh (HR0.out.later hbt)
 have HBt := qh hbt
 clear hbt
 go_wp2_with fail
 go_ret
 exact ⟨rfl, HBt.out⟩
theorem av_str {c : Ctx} (w : World) (d i : Nat) (hk : (tkA c.l i).kd = 4) (h : Rdr c w i d) : Calls Tryz.prog 312 #[rPtr c] w fun e w' => e = .returned (.bool true) ∧ Below w.heap.size w w' := by
 have HR0 := qh h
 have HB0 := qh (Below.refl w.heap.size w)
 have b1 : ((tkA c.l i).kd == 1) = false := by rw [hk]; decide
 have b3 : ((tkA c.l i).kd == 3) = false := by rw [hk]; decide
 have b4 : ((tkA c.l i).kd == 4) = true := by rw [hk]; decide
 clear h hk
 go_enter Tryz.func312, Tryz.ntmps312
 have HC := qh (zjk c w i d HR0.out)
 unfold tkV at HC
 have hfl := zgz (tkA c.l i)
 go_wp2_with fail
 refine cm HC.out ?_
 rintro e wt ⟨rfl, hbt⟩
 clear HC
 have HRt := qh (HR0.out.later hbt)
 have HBt := qh hbt
 clear hbt
 go_wp2_with fail
 go_ret
 exact ⟨rfl, HBt.out⟩
theorem av_map {c : Ctx} (w : World) (d i : Nat) (h1 : (tkA c.l i).kd ≠ 1) (h3 : (tkA c.l i).kd ≠ 3) (h4 : (tkA c.l i).kd ≠ 4) (q : Nat) (hq : zxy vlKeys (fx c.l i) = some q) (h : Rdr c w i d) : Calls Tryz.prog 312 #[rPtr c] w fun e w' => e = .returned (.bool true) ∧ Below w.heap.size w w' := by
 have HR0 := qh h
 have HB0 := qh (Below.refl w.heap.size w)
 have b1 : ((tkA c.l i).kd == 1) = false := beq_eq_false_iff_ne.2 h1
 have b3 : ((tkA c.l i).kd == 3) = false := beq_eq_false_iff_ne.2 h3
 have b4 : ((tkA c.l i).kd == 4) = false := beq_eq_false_iff_ne.2 h4
 have HL : Hid (∀ W : World, Rdr c W i d → (Instr.lookup 201 (.map (some c.mV)) (.string (fx c.l i)) true).run Tryz.prog W = .ok (.tuple #[.func (.func (vlFn q)) #[.pointer (some ⟨c.R, 0, none⟩)] #[], .bool true]) W) := fun W hW => by
  have := zy0 c (fx c.l i) W hW.base.vals; rw [hq] at this; exact this
 clear h h1 h3 h4 hq
 go_enter Tryz.func312, Tryz.ntmps312
 have HC := qh (zjk c w i d HR0.out)
 unfold tkV at HC
 have hfl := zgz (tkA c.l i)
 go_wp2_with fail
 refine cm HC.out ?_
 rintro e wt ⟨rfl, hbt⟩
 clear HC
 have HRt := qh (HR0.out.later hbt)
 have HBt := qh hbt
 clear hbt
 go_wp2_with fail
 refine wp_region_held (S := fun W => Rdr c W i d) (by kernel_rfl) ?_
 change wpAnyH _ _ _ _ _ _ _ _ (World.drew _)
 refine wh 0 (rPtr c) HRt.out.drew ?_
 refine wh 1 (rPtr c) HRt.out.drew ?_
 refine wh 2 (.pointer (some ⟨c.R, 5, none⟩)) HRt.out.drew ?_
 refine wg 3 (.map (some c.mV)) rfl (Or.inl ⟨by kernel_rfl, fun W hW => by have hh := Rdr.c5 hW; go_simp⟩) HRt.out.drew ?_
 refine wh 4 (rPtr c) HRt.out.drew ?_
 refine wq1 5 fun K hK => ?_
 go_simp
 refine cm (zx3 c _ i d HRt.out.drew) ?_
 rintro e wq ⟨rfl, hbq⟩
 have HRq := qh (HRt.out.drew.later hbq)
 have HBq := qh (HBt.out.trans ((qb.drew.trans hbq).mono HBt.out.size))
 clear hbq
 refine hK.out _ _ HRq.out (fun _ => ?_)
 clear hK K
 refine wg 6 (.tuple #[.func (.func (vlFn q)) #[.pointer (some ⟨c.R, 0, none⟩)] #[], .bool true]) rfl (Or.inl ⟨by kernel_rfl, fun W hW => by have hh := HL.out W hW; go_simp⟩) HRq.out ?_
 refine wh 7 (.tuple #[.func (.func (vlFn q)) #[.pointer (some ⟨c.R, 0, none⟩)] #[], .bool true]) HRq.out ?_
 refine wh 8 (.func (.func (vlFn q)) #[.pointer (some ⟨c.R, 0, none⟩)] #[]) HRq.out ?_
 refine wh 9 (.bool true) HRq.out ?_
 refine wh 10 (.func (.func (vlFn q)) #[.pointer (some ⟨c.R, 0, none⟩)] #[]) HRq.out ?_
 refine wh 11 (.bool true) HRq.out ?_
 refine wpAnyH_done (by kernel_rfl) ?_ _
 go_simp
 go_wp2_with fail
 go_ret
 exact ⟨rfl, HBq.out⟩
theorem av_none {c : Ctx} (w : World) (d i : Nat) (h1 : (tkA c.l i).kd ≠ 1) (h3 : (tkA c.l i).kd ≠ 3) (h4 : (tkA c.l i).kd ≠ 4) (hq : zxy vlKeys (fx c.l i) = none) (hsg : sgOf (fx c.l i) = none) (h : Rdr c w i d) : Calls Tryz.prog 312 #[rPtr c] w fun e w' => e = .returned (.bool false) ∧ Below w.heap.size w w' := by
 have HR0 := qh h
 have HB0 := qh (Below.refl w.heap.size w)
 have b1 : ((tkA c.l i).kd == 1) = false := beq_eq_false_iff_ne.2 h1
 have b3 : ((tkA c.l i).kd == 3) = false := beq_eq_false_iff_ne.2 h3
 have b4 : ((tkA c.l i).kd == 4) = false := beq_eq_false_iff_ne.2 h4
 have HL : Hid (∀ W : World, Rdr c W i d → (Instr.lookup 201 (.map (some c.mV)) (.string (fx c.l i)) true).run Tryz.prog W = .ok (.tuple #[.nilFunc, .bool false]) W) := fun W hW => by
  have := zy0 c (fx c.l i) W hW.base.vals; rw [hq] at this; exact this
 have HL2 : Hid (∀ W : World, Rdr c W i d → (Instr.lookup 199 (.map (some c.mS)) (.string (fx c.l i)) true).run Tryz.prog W = .ok (.tuple #[.agg #[.string ⟨#[]⟩, .int .i64 0, .int .i64 0, .int .i64 0], .bool false]) W) := fun W hW => by
  have := zdk c (fx c.l i) W hW.base.signs; rw [hsg] at this; exact this
 clear h h1 h3 h4 hq hsg
 go_enter Tryz.func312, Tryz.ntmps312
 have HC := qh (zjk c w i d HR0.out)
 unfold tkV at HC
 have hfl := zgz (tkA c.l i)
 go_wp2_with fail
 refine cm HC.out ?_
 rintro e wt ⟨rfl, hbt⟩
 clear HC
 have HRt := qh (HR0.out.later hbt)
 have HBt := qh hbt
 clear hbt
 go_wp2_with fail
 refine wp_region_held (S := fun W => Rdr c W i d) (by kernel_rfl) ?_
 change wpAnyH _ _ _ _ _ _ _ _ (World.drew _)
 refine wh 0 (rPtr c) HRt.out.drew ?_
 refine wh 1 (rPtr c) HRt.out.drew ?_
 refine wh 2 (.pointer (some ⟨c.R, 5, none⟩)) HRt.out.drew ?_
 refine wg 3 (.map (some c.mV)) rfl (Or.inl ⟨by kernel_rfl, fun W hW => by have hh := Rdr.c5 hW; go_simp⟩) HRt.out.drew ?_
 refine wh 4 (rPtr c) HRt.out.drew ?_
 refine wq1 5 fun K hK => ?_
 go_simp
 refine cm (zx3 c _ i d HRt.out.drew) ?_
 rintro e wq ⟨rfl, hbq⟩
 have HRq := qh (HRt.out.drew.later hbq)
 have HBq := qh (HBt.out.trans ((qb.drew.trans hbq).mono HBt.out.size))
 clear hbq
 refine hK.out _ _ HRq.out (fun _ => ?_)
 clear hK K
 refine wg 6 (.tuple #[.nilFunc, .bool false]) rfl (Or.inl ⟨by kernel_rfl, fun W hW => by have hh := HL.out W hW; go_simp⟩) HRq.out ?_
 refine wh 7 (.tuple #[.nilFunc, .bool false]) HRq.out ?_
 refine wh 8 .nilFunc HRq.out ?_
 refine wh 9 (.bool false) HRq.out ?_
 refine wh 10 .nilFunc HRq.out ?_
 refine wh 11 (.bool false) HRq.out ?_
 refine wpAnyH_done (by kernel_rfl) ?_ _
 go_simp
 have HLO := qh HRq.out.base.size
 go_wp2_with fail
 refine wp_region_held (S := fun W => Rdr c W i d) (by kernel_rfl) ?_
 change wpAnyH _ _ _ _ _ _ _ _ (World.drew _)
 refine wh 0 (rPtr c) HRq.out.drew ?_
 refine wh 1 (rPtr c) HRq.out.drew ?_
 refine wh 2 (.pointer (some ⟨c.R, 3, none⟩)) HRq.out.drew ?_
 refine wg 3 (.map (some c.mS)) rfl (Or.inl ⟨by kernel_rfl, fun W hW => by have hh := Rdr.c3 hW; go_simp⟩) HRq.out.drew ?_
 refine wh 4 (rPtr c) HRq.out.drew ?_
 refine wpAnyH_ready (rs := [5, 10]) (by kernel_rfl) (by simp) (AllReadyH.cons rfl (fun K hK => ?_) (AllReadyH.cons rfl (fun K hK => ?_) AllReadyH.nil))
 ·
  go_simp; refine cm (zx3 c _ i d HRq.out.drew) ?_; rintro e w1 ⟨rfl, hb⟩; have HR1 := qh (HRq.out.drew.later hb); have HB1 := qh (HBq.out.trans ((qb.drew.trans hb).mono HBq.out.size)); clear hb
  refine hK.out _ _ HR1.out (fun _ => ?_); clear hK K
  refine wg 6 (.tuple #[.agg #[.string ⟨#[]⟩, .int .i64 0, .int .i64 0, .int .i64 0], .bool false]) rfl (Or.inl ⟨by kernel_rfl, fun W hW => by have hh := HL2.out W hW; go_simp⟩) HR1.out ?_
  refine wh 7 (.tuple #[.agg #[.string ⟨#[]⟩, .int .i64 0, .int .i64 0, .int .i64 0], .bool false]) HR1.out ?_; refine wh 8 (.agg #[.string ⟨#[]⟩, .int .i64 0, .int .i64 0, .int .i64 0]) HR1.out ?_
  refine wh 9 (.bool false) HR1.out ?_; refine wq1 10 fun K hK => ?_; go_simp; refine hK.out _ _ (HR1.out.alloc O160) (fun _ => ?_); clear hK K; refine wq1 11 fun K hK => ?_; go_simp
  have HR2 := qh (HR1.out.alloc (.cells #[.string ⟨#[]⟩, .int .i64 0, .int .i64 0, .int .i64 0] 189)); have HW2 := qh (HB1.out.alloc HB1.out.size (.cells #[.string ⟨#[]⟩, .int .i64 0, .int .i64 0, .int .i64 0] 189))
  refine hK.out _ _ HR2.out (fun _ => ?_); clear hK K; refine wh 12 (.bool false) HR2.out ?_; refine wpAnyH_done (by kernel_rfl) ?_ _; go_simp; go_wp2_with fail; go_ret; exact ⟨rfl, HW2.out⟩
 ·
  go_simp; have HR' := qh ((HRq.out.alloc O160).drew); refine hK.out _ _ (zzq HR') (fun _ => ?_); clear hK K; refine wq1 5 fun K hK => ?_; go_simp; refine cm (zx3 c _ i d (zzq HR')) ?_; rintro e w1 ⟨rfl, hb⟩
  have HR1 := qh ((zzq HR').later hb); have HB1 := qh (HBq.out.trans ((((Below.refl wq.heap.size wq).alloc qv O160).drew.trans (hb.mono (by simp))).mono HBq.out.size))
  have p1 : w1.heap[wq.heap.size]? = some O160 := (hb.block _ (by simp)).trans (zqx wq O160); obtain ⟨r0, r1, r2, r3, rf, rlt⟩ := c160 p1; have P1 := qh p1; clear hb p1; refine hK.out _ _ HR1.out (fun _ => ?_)
  clear hK K; refine wg 6 (.tuple #[.agg #[.string ⟨#[]⟩, .int .i64 0, .int .i64 0, .int .i64 0], .bool false]) rfl (Or.inl ⟨by kernel_rfl, fun W hW => by have hh := HL2.out W hW; go_simp⟩) HR1.out ?_
  refine wh 7 (.tuple #[.agg #[.string ⟨#[]⟩, .int .i64 0, .int .i64 0, .int .i64 0], .bool false]) HR1.out ?_; refine wh 8 (.agg #[.string ⟨#[]⟩, .int .i64 0, .int .i64 0, .int .i64 0]) HR1.out ?_
  refine wh 9 (.bool false) HR1.out ?_; refine wq1 11 fun K hK => ?_; go_simp; clear r0 r1 r2 r3 rf rlt
  obtain ⟨W2, hW2⟩ : ∃ W2, W2 = (((w1.setCell ⟨wq.heap.size, 0, none⟩ (.string ⟨#[]⟩)).setCell ⟨wq.heap.size, 1, none⟩ (.int .i64 0)).setCell ⟨wq.heap.size, 2, none⟩ (.int .i64 0)).setCell ⟨wq.heap.size, 3, none⟩ (.int .i64 0) := ⟨_, rfl⟩
  obtain ⟨hr2, hb2, ⟨s0, s1, s2, s3, sf, slt⟩⟩ := w3_any (v0 := .string ⟨#[]⟩) (v1 := .int .i64 0) (v2 := .int .i64 0) (v3 := .int .i64 0) HR1.out HLO.out P1.out hW2; have HR2 := qh hr2
  have HW2 := qh (HB1.out.trans (hb2.mono HBq.out.size)); rw [← hW2]; clear hW2 hr2 hb2; refine hK.out _ _ HR2.out (fun _ => ?_); clear hK K; refine wh 12 (.bool false) HR2.out ?_; refine wpAnyH_done (by kernel_rfl) ?_ _
  go_simp; go_wp2_with fail; go_ret; exact ⟨rfl, HW2.out⟩
theorem av_some {c : Ctx} (w : World) (d i : Nat) (h1 : (tkA c.l i).kd ≠ 1) (h3 : (tkA c.l i).kd ≠ 3) (h4 : (tkA c.l i).kd ≠ 4) (x : Sg) (hq : zxy vlKeys (fx c.l i) = none) (hsg : sgOf (fx c.l i) = some x) (h : Rdr c w i d) : Calls Tryz.prog 312 #[rPtr c] w fun e w' => e = .returned (.bool (decide (x.parts < 2))) ∧ Below w.heap.size w w' := by
 have HR0 := qh h
 have HB0 := qh (Below.refl w.heap.size w)
 have b1 : ((tkA c.l i).kd == 1) = false := beq_eq_false_iff_ne.2 h1
 have b3 : ((tkA c.l i).kd == 3) = false := beq_eq_false_iff_ne.2 h3
 have b4 : ((tkA c.l i).kd == 4) = false := beq_eq_false_iff_ne.2 h4
 have HL : Hid (∀ W : World, Rdr c W i d → (Instr.lookup 201 (.map (some c.mV)) (.string (fx c.l i)) true).run Tryz.prog W = .ok (.tuple #[.nilFunc, .bool false]) W) := fun W hW => by
  have := zy0 c (fx c.l i) W hW.base.vals; rw [hq] at this; exact this
 have HL2 : Hid (∀ W : World, Rdr c W i d → (Instr.lookup 199 (.map (some c.mS)) (.string (fx c.l i)) true).run Tryz.prog W = .ok (.tuple #[.agg #[.string x.tx, .int .i64 x.kd, .int .i64 x.parts, .int .i64 x.str], .bool true]) W) := fun W hW => by
  have := zdk c (fx c.l i) W hW.base.signs; rw [hsg] at this; exact this
 clear h h1 h3 h4 hq hsg
 go_enter Tryz.func312, Tryz.ntmps312
 have HC := qh (zjk c w i d HR0.out)
 unfold tkV at HC
 have hfl := zgz (tkA c.l i)
 go_wp2_with fail
 refine cm HC.out ?_
 rintro e wt ⟨rfl, hbt⟩
 clear HC
 have HRt := qh (HR0.out.later hbt)
 have HBt := qh hbt
 clear hbt
 go_wp2_with fail
 refine wp_region_held (S := fun W => Rdr c W i d) (by kernel_rfl) ?_
 change wpAnyH _ _ _ _ _ _ _ _ (World.drew _)
 refine wh 0 (rPtr c) HRt.out.drew ?_
 refine wh 1 (rPtr c) HRt.out.drew ?_
 refine wh 2 (.pointer (some ⟨c.R, 5, none⟩)) HRt.out.drew ?_
 refine wg 3 (.map (some c.mV)) rfl (Or.inl ⟨by kernel_rfl, fun W hW => by have hh := Rdr.c5 hW; go_simp⟩) HRt.out.drew ?_
 refine wh 4 (rPtr c) HRt.out.drew ?_
 refine wq1 5 fun K hK => ?_
 go_simp
 refine cm (zx3 c _ i d HRt.out.drew) ?_
 rintro e wq ⟨rfl, hbq⟩
 have HRq := qh (HRt.out.drew.later hbq)
 have HBq := qh (HBt.out.trans ((qb.drew.trans hbq).mono HBt.out.size))
 clear hbq
 refine hK.out _ _ HRq.out (fun _ => ?_)
 clear hK K
 refine wg 6 (.tuple #[.nilFunc, .bool false]) rfl (Or.inl ⟨by kernel_rfl, fun W hW => by have hh := HL.out W hW; go_simp⟩) HRq.out ?_
 refine wh 7 (.tuple #[.nilFunc, .bool false]) HRq.out ?_
 refine wh 8 .nilFunc HRq.out ?_
 refine wh 9 (.bool false) HRq.out ?_
 refine wh 10 .nilFunc HRq.out ?_
 refine wh 11 (.bool false) HRq.out ?_
 refine wpAnyH_done (by kernel_rfl) ?_ _
 go_simp
 have HLO := qh HRq.out.base.size
 go_wp2_with fail
 refine wp_region_held (S := fun W => Rdr c W i d) (by kernel_rfl) ?_
 change wpAnyH _ _ _ _ _ _ _ _ (World.drew _)
 refine wh 0 (rPtr c) HRq.out.drew ?_
 refine wh 1 (rPtr c) HRq.out.drew ?_
 refine wh 2 (.pointer (some ⟨c.R, 3, none⟩)) HRq.out.drew ?_
 refine wg 3 (.map (some c.mS)) rfl (Or.inl ⟨by kernel_rfl, fun W hW => by have hh := Rdr.c3 hW; go_simp⟩) HRq.out.drew ?_
 refine wh 4 (rPtr c) HRq.out.drew ?_
 refine wpAnyH_ready (rs := [5, 10]) (by kernel_rfl) (by simp) (AllReadyH.cons rfl (fun K hK => ?_) (AllReadyH.cons rfl (fun K hK => ?_) AllReadyH.nil))
 ·
  go_simp; refine cm (zx3 c _ i d HRq.out.drew) ?_; rintro e w1 ⟨rfl, hb⟩; have HR1 := qh (HRq.out.drew.later hb); have HB1 := qh (HBq.out.trans ((qb.drew.trans hb).mono HBq.out.size)); clear hb
  refine hK.out _ _ HR1.out (fun _ => ?_); clear hK K
  refine wg 6 (.tuple #[.agg #[.string x.tx, .int .i64 x.kd, .int .i64 x.parts, .int .i64 x.str], .bool true]) rfl (Or.inl ⟨by kernel_rfl, fun W hW => by have hh := HL2.out W hW; go_simp⟩) HR1.out ?_
  refine wh 7 (.tuple #[.agg #[.string x.tx, .int .i64 x.kd, .int .i64 x.parts, .int .i64 x.str], .bool true]) HR1.out ?_; refine wh 8 (.agg #[.string x.tx, .int .i64 x.kd, .int .i64 x.parts, .int .i64 x.str]) HR1.out ?_
  refine wh 9 (.bool true) HR1.out ?_; refine wq1 10 fun K hK => ?_; go_simp; refine hK.out _ _ (HR1.out.alloc O160) (fun _ => ?_); clear hK K; refine wq1 11 fun K hK => ?_; go_simp
  have HR2 := qh (HR1.out.alloc (.cells #[.string x.tx, .int .i64 x.kd, .int .i64 x.parts, .int .i64 x.str] 189))
  have HW2 := qh (HB1.out.alloc HB1.out.size (.cells #[.string x.tx, .int .i64 x.kd, .int .i64 x.parts, .int .i64 x.str] 189)); refine hK.out _ _ HR2.out (fun _ => ?_); clear hK K; refine wh 12 (.bool true) HR2.out ?_
  refine wpAnyH_done (by kernel_rfl) ?_ _; go_simp; go_wp2_with fail; go_ret; exact ⟨zwk (by simp), HW2.out⟩
 ·
  go_simp; have HR' := qh ((HRq.out.alloc O160).drew); refine hK.out _ _ (zzq HR') (fun _ => ?_); clear hK K; refine wq1 5 fun K hK => ?_; go_simp; refine cm (zx3 c _ i d (zzq HR')) ?_; rintro e w1 ⟨rfl, hb⟩
  have HR1 := qh ((zzq HR').later hb); have HB1 := qh (HBq.out.trans ((((Below.refl wq.heap.size wq).alloc qv O160).drew.trans (hb.mono (by simp))).mono HBq.out.size))
  have p1 : w1.heap[wq.heap.size]? = some O160 := (hb.block _ (by simp)).trans (zqx wq O160); obtain ⟨r0, r1, r2, r3, rf, rlt⟩ := c160 p1; have P1 := qh p1; clear hb p1; refine hK.out _ _ HR1.out (fun _ => ?_)
  clear hK K; refine wg 6 (.tuple #[.agg #[.string x.tx, .int .i64 x.kd, .int .i64 x.parts, .int .i64 x.str], .bool true]) rfl (Or.inl ⟨by kernel_rfl, fun W hW => by have hh := HL2.out W hW; go_simp⟩) HR1.out ?_
  refine wh 7 (.tuple #[.agg #[.string x.tx, .int .i64 x.kd, .int .i64 x.parts, .int .i64 x.str], .bool true]) HR1.out ?_; refine wh 8 (.agg #[.string x.tx, .int .i64 x.kd, .int .i64 x.parts, .int .i64 x.str]) HR1.out ?_
  refine wh 9 (.bool true) HR1.out ?_; refine wq1 11 fun K hK => ?_; go_simp; clear r0 r1 r2 r3 rf rlt
  obtain ⟨W2, hW2⟩ : ∃ W2, W2 = (((w1.setCell ⟨wq.heap.size, 0, none⟩ (.string x.tx)).setCell ⟨wq.heap.size, 1, none⟩ (.int .i64 x.kd)).setCell ⟨wq.heap.size, 2, none⟩ (.int .i64 x.parts)).setCell ⟨wq.heap.size, 3, none⟩ (.int .i64 x.str) := ⟨_, rfl⟩
  obtain ⟨hr2, hb2, ⟨s0, s1, s2, s3, sf, slt⟩⟩ := w3_any (v0 := .string x.tx) (v1 := .int .i64 x.kd) (v2 := .int .i64 x.parts) (v3 := .int .i64 x.str) HR1.out HLO.out P1.out hW2; have HR2 := qh hr2
  have HW2 := qh (HB1.out.trans (hb2.mono HBq.out.size)); rw [← hW2]; clear hW2 hr2 hb2; refine hK.out _ _ HR2.out (fun _ => ?_); clear hK K; refine wh 12 (.bool true) HR2.out ?_; refine wpAnyH_done (by kernel_rfl) ?_ _
  go_simp; go_wp2_with fail; go_ret; exact ⟨zwk (by simp), HW2.out⟩
theorem atValue_any (c : Ctx) : Asks c 312 (isVal c.l) := by
 intro w d i h
 unfold isVal
 by_cases h1 : (tkA c.l i).kd = 1
 ·
  rw [h1]; exact av_name w d i h1 h
 ·
  by_cases h3 : (tkA c.l i).kd = 3
  ·
   rw [h3]; exact av_num w d i h3 h
  ·
   by_cases h4 : (tkA c.l i).kd = 4
   ·
    rw [h4]; exact av_str w d i h4 h
   ·
    rw [beq_eq_false_iff_ne.2 h1, beq_eq_false_iff_ne.2 h3, beq_eq_false_iff_ne.2 h4]; simp only [Bool.false_or]
    cases hq : zxy vlKeys (fx c.l i) with
    | some q => exact av_map w d i h1 h3 h4 q hq h
    | none =>
     cases hsg : sgOf (fx c.l i) with
     | none => exact av_none w d i h1 h3 h4 hq hsg h
     | some x =>
      have hx := av_some w d i h1 h3 h4 x hq hsg h
      cases hp : decide (x.parts < 2) with
      | true => rw [hp] at hx; simpa [Option.filter, hp] using hx
      | false => rw [hp] at hx; simpa [Option.filter, hp] using hx
theorem push0 {c : Ctx} {w w1 : World} {j d : Nat} {t : Tr} {p : Nat} {u : Value} {ps : List Nat} (hO : Open w.heap.size w1 t p u ps) (hR : Rdr c w1 j d) (hA : Ap c.R w.heap.size w w1) (hlo : c.lo ≤ w.heap.size) :
  EV w.heap.size (w1.setCell ⟨p, 3, none⟩ u) (.mk t.kd t.tx t.n (t.kids ++ [])) (nPtr p) ∧ Rdr c (w1.setCell ⟨p, 3, none⟩ u) j d ∧ Ap c.R w.heap.size w (w1.setCell ⟨p, 3, none⟩ u) := by
 have hset : ∀ b, b ≠ p → (w1.setCell ⟨p, 3, none⟩ u).heap[b]? = w1.heap[b]? := fun b hb => Below.heap_setCell w1 ⟨p, 3, none⟩ _ b hb
 have hB : Below w.heap.size w1 (w1.setCell ⟨p, 3, none⟩ u) := qb.setCell (p := ⟨p, 3, none⟩) hO.low _
 refine ⟨?_, hR.ap hB hlo, hA.trans (Ap.of hB)⟩
 rw [List.append_nil]
 refine ⟨p, u, ps, rfl, hO.low, by rw [zz8 hO.blk]; rfl, ?_, hO.own, NAts.later (fun b hb _ => hset b hb.2.1) _ _ hO.kids⟩
 exact zx2 (I := fun b => b ≠ p) (fun b hb _ => hset b hb) (fun g hg e => hO.own (by rw [hg, e])) hO.row
theorem pushN {c : Ctx} {w w1 w3 : World} {j d : Nat} {t : Tr} {us : List Tr} {p g cap m : Nat} {u : Value} {ps qs : List Nat} (hO : Open w.heap.size w1 t p u ps) (hx : NAts (fun b => w.heap.size ≤ b ∧ b ≠ p ∧ u.ownBlock ≠ some b) w1 (t.kids ++ us) (ps ++ qs)) (hR : Rdr c w1 j d) (hA : Ap c.R w.heap.size w w1) (hlo : c.lo ≤ w.heap.size)
  (hown : w3.ownsRow w.heap.size 22 1 (.slice (some ⟨g, 0, none⟩) m cap) m (ps.map nPtr ++ qs.map nPtr)) (hm : m = ps.length + qs.length) (hgr : w1.grownBy w3 u.ownBlock) (hg : u.ownBlock = some g ∨ g = w1.heap.size) :
  EV w.heap.size (w3.setCell ⟨p, 3, none⟩ (.slice (some ⟨g, 0, none⟩) m cap)) (.mk t.kd t.tx t.n (t.kids ++ us)) (nPtr p) ∧
  Rdr c (w3.setCell ⟨p, 3, none⟩ (.slice (some ⟨g, 0, none⟩) m cap)) j d ∧
  Ap c.R w.heap.size w (w3.setCell ⟨p, 3, none⟩ (.slice (some ⟨g, 0, none⟩) m cap)) := by
 have hrow : ∀ k, u.ownBlock = some k → w.heap.size ≤ k := fun k hk => (zx6 hO.row k hk).2
 have hgrow : Below w.heap.size w1 w3 := (Below.refl w.heap.size w1).grown hgr hA.size hrow
 have hset : Below w.heap.size w1 (w3.setCell ⟨p, 3, none⟩ (.slice (some ⟨g, 0, none⟩) m cap)) := hgrow.setCell (p := ⟨p, 3, none⟩) hO.low _
 refine ⟨?_, hR.ap hset hlo, hA.trans (Ap.of hset)⟩
 exact ev_push hO.low hO.blk hO.own hx (by rw [List.map_append]; exact hown) (by rw [hm, List.length_append]) hgr hg
theorem en239 : ∀ args W, (callFunc 312 args).run Tryz.prog W = .ok (.enter 312 args) W := fun _ _ => by kernel_rfl
theorem en240 : ∀ args W, (callFunc 313 args).run Tryz.prog W = .ok (.enter 313 args) W := fun _ _ => by kernel_rfl
theorem LV.many {B : Nat} {w : World} {ts : List Tr} {v : Value} (h : LV B w ts v) (hne : ts ≠ []) : ∃ g cap qs, v = .slice (some ⟨g, 0, none⟩) ts.length cap ∧ qs.length = ts.length ∧ NAts (From B) w ts qs ∧ (∀ j u, (qs.map nPtr)[j]? = some u → w.cell? ((⟨g, 0, none⟩ : Addr).add j) = some u) := by
 obtain ⟨⟨qs, hr, hk⟩, _, _⟩ := h
 have hl := NAts.length _ _ hk
 have hp : 0 < qs.length := by rw [hl]; exact List.length_pos_iff.2 hne
 obtain ⟨g, cap, hv, hc⟩ := zv2 hr hp
 refine ⟨g, cap, qs, by rw [hv, hl], hl, NAts.mono (fun b hb _ => hb.1) _ _ hk, fun j u hj => ?_⟩
 rw [Addr.add_mid, Nat.zero_add]
 rw [List.getElem?_map] at hj
 cases hq : qs[j]? with
 | none => rw [hq] at hj; cases hj
 | some q =>
  rw [hq] at hj; obtain ⟨hlt, he⟩ := List.getElem?_eq_some_iff.1 hq; rw [hc j hlt, he]; exact hj
theorem map_one (qs : List Nat) : ∀ u ∈ qs.map nPtr, u.oneCell' = true := by
 intro u hu
 obtain ⟨q, _, rfl⟩ := List.mem_map.1 hu
 rfl
theorem Open.cap {B : Nat} {w : World} {t : Tr} {p : Nat} {ua : Option Addr} {n uc : Nat} {ps : List Nat} (h : Open B w t p (.slice ua n uc) ps) (hp : 0 < t.kids.length) : n ≤ uc ∧ ∃ g, ua = some ⟨g, 0, none⟩ := by
 have hl := NAts.length _ _ h.kids
 rcases h.row.2 with hn | ⟨g, cap, cur, hv, _, _, h1, _⟩
 ·
  omega
 ·
  simp only [Value.slice.injEq] at hv; obtain ⟨rfl, rfl, rfl⟩ := hv; exact ⟨h1, g, rfl⟩
theorem asked_any {c : Ctx} {F : Fns} (hF : FC c F) (hN : ∃ k, FNx c.l k F) (hK : FOk F) : Does c 303 NV (zd1 c.l F) := by
 have hmf := zk2 c.R 312
 have hmf2 := zk2 c.R 313
 intro w d i r hs ho h
 have HLO := qh h.base.size
 have HE := qh h.base.ends
 have HL := qh h.base.len
 obtain ⟨i0, hi0, hz0, hz1, hz2⟩ := info_parts zk0
 have HNX := qh hN
 have HFC := qh hF
 have HR0 := qh h
 have HA0 := qh (Ap.refl c.R w.heap.size w)
 have HLT := qh h.rlt
 unfold zd1 at hs
 have HS := qh hs
 have HO := qh ho
 clear h hs ho
 go_enter Tryz.func303, Tryz.ntmps303
 cases hr : zh8 c.l F d i with
 | out =>
  rw [hr] at HS; simp only [zqj] at HS; exact absurd HS.out.symm HO.out
 | bad er p =>
  have HC := qh (alone_any hF hN hK w d i _ rfl (by rw [hr]; nofun) HR0.out)
  rw [hr] at HC HS; simp only [zz6] at HS; clear hr; go_wp2_with fail; refine cm HC.out ?_; intro e w' hp; obtain ⟨rfl, ha⟩ := hp; exact ⟨rfl, zq7 HS.out.symm (HA0.out.next ha)⟩
 | ok x1 j1 =>
  have HC := qh (alone_any hF hN hK w d i _ rfl (by rw [hr]; nofun) HR0.out)
  rw [hr] at HC HS; simp only [zzv] at HS; clear hr; go_wp2_with fail; refine cm HC.out ?_; intro e w1 hp; obtain ⟨⟨v1, rfl, p1, rfl, hn1⟩, hrd, ha⟩ := hp; clear HC; have HA1 := qh (HA0.out.next ha)
  have HR1 := qh hrd; have HN1 := qh (zww hn1 HA0.out.size); clear hn1; clear hrd ha HA0 HR0; clear hF hN hK; go_wp2_with fail
  go_loopw [3] (fun v wr => ∃ k t j p, v = nPtr p ∧ zwx c.l F d k t j = r ∧ Rdr c wr j d ∧ Ap c.R w.heap.size w wr ∧ NAt (From w.heap.size) wr t p) (fun _ wr => c.l.length - nxt c wr)
  case atStart => exact ⟨F.fuel, x1, j1, p1, rfl, HS.out, HR1.out, HA1.out, HN1.out⟩
  case round =>
   obtain ⟨k, t, j, p0, rfl, hq, hrd, hap, hnt⟩ := hrel; clear HS HR1 HA1 HN1
   cases k with
   | zero => exact absurd hq.symm HO.out
   | succ k =>
    have HRr := qh hrd; have HRM := qh hrd; have HAr := qh hap; have HNt := qh hnt; have hjl := hrd.lt; have hL := zzq HL; unfold zwx at hq; have HS := qh hq; have HC := qh (zx3 c wr j d hrd)
    clear hq hrd hap hnt
    by_cases hx : fx c.l j = tDot
    ·
     rw [if_pos hx] at HS; have bx : ((fx c.l j).toList == [46]) = true := zfw (b := tDot) rfl hx; have hi := zbz HE.out hjl hx (by decide); clear hx; go_wp2_with fail; refine cm HC.out ?_; rintro e wf ⟨rfl, hbf⟩
     clear HC; have HRf := qh (HRr.out.later hbf); have HAf := qh (HAr.out.next (Ap.of hbf)); replace HNt := qh (zkk (c := c) HNt.out (Ap.of hbf) HLT.out); clear hbf; have hc1 := HRf.out.c1
     have hcz := HRf.out.fz; have hcl := HRf.out.rlt; obtain ⟨hsr, hsa⟩ := stepped HRf.out HAf.out hi; have HRs := qh hsr; have HAs := qh hsa
     replace HNt := qh (zkk (c := c) HNt.out (Ap.setCell (R := c.R) (Ap.refl _ _ _) (p := ⟨c.R, 1, none⟩) (Or.inr rfl) (.int .i64 ((j : Int) + 1))) HLT.out); clear hsr hsa HRf HAf
     cases hr : zjq c.l (j + 1) with
     | out =>
      rw [hr] at HS; simp only [zqj] at HS; exact absurd HS.out.symm HO.out
     | bad er p =>
      have HC := qh (zk1 c (wf.setCell ⟨c.R, 1, none⟩ (.int .i64 ((j : Int) + 1))) (j + 1) d HRs.out); rw [hr] at HC HS; simp only [zz6] at HS; clear hr; go_wp2_with fail; refine cm HC.out ?_; intro e w' hp
      obtain ⟨rfl, ha⟩ := hp; exact ⟨rfl, zq7 HS.out.symm (HAs.out.next ha)⟩
     | ok x2 j2 =>
      have hgt := ((zyy (q := True) HE.out hi).2 _ _ hr).1; have HC := qh (zk1 c (wf.setCell ⟨c.R, 1, none⟩ (.int .i64 ((j : Int) + 1))) (j + 1) d HRs.out); rw [hr] at HC HS; simp only [zzv] at HS; clear hr
      go_wp2_with fail; refine cm HC.out ?_; intro e w2 hp; obtain ⟨⟨v2, rfl, rfl⟩, hrd, ha⟩ := hp; clear HC; have HA2 := qh (HAs.out.next ha); have HR2 := qh hrd; replace HNt := qh (zkk HNt.out ha HLT.out)
      clear hrd ha HAs HRs; have hlt2 := HR2.out.lt; have HC := qh (zqk 36 x2 (.slice (some ⟨w2.heap.size, 0, none⟩) 1 1) (w2.alloc (.cells #[nPtr p0] 22)) ⟨_, _, _, rfl⟩); go_wp2_with fail; refine cm HC.out ?_
      rintro e wn ⟨rfl, rfl⟩; clear HC; obtain ⟨m1, m2, m3⟩ := made HR2.out HA2.out (NAts.cons HNt.out NAts.nil) (by simp [maxLen]) #[nPtr p0] rfl 1 rfl 36 x2 (w2.heap.size + 1) rfl; obtain ⟨pm, hpm, hnm⟩ := m1.nv
      have hpe : pm = w2.heap.size + 1 := by simpa [nPtr] using hpm.symm
      subst hpe; have HM1 := qh hnm; have HM2 := qh m2; have HM3 := qh m3; clear m1 m2 m3 hpm hnm; go_wp2_with fail
      go_roundw
      case rel => exact ⟨k, .mk 36 x2 0 [t], j2, w2.heap.size + 1, by simp, HS.out, HM2.out, HM3.out, HM1.out⟩
      case measure => rw [zyq HM2.out, zyq HRM.out]; omega
    ·
     rw [if_neg hx] at HS; have bx : ((fx c.l j).toList == [46]) = false := zf3 (b := tDot) rfl hx; clear hx
     by_cases hy : fx c.l j = zxk
     ·
      rw [if_pos hy] at HS; have by1 : ((fx c.l j).toList == [40]) = true := zfw (b := zxk) rfl hy; clear hy; go_wp2_with fail; refine cm HC.out ?_; rintro e wf ⟨rfl, hbf⟩; clear HC
      have HRf := qh (HRr.out.later hbf); have HAf := qh (HAr.out.next (Ap.of hbf)); replace HNt := qh (zkk (c := c) HNt.out (Ap.of hbf) HLT.out); clear hbf
      have HC := qh (zqk 35 zzx (.slice (some ⟨wf.heap.size, 0, none⟩) 1 1) (wf.alloc (.cells #[nPtr p0] 22)) ⟨_, _, _, rfl⟩); go_wp2_with fail; refine cm HC.out ?_; rintro e wn0 ⟨rfl, rfl⟩; clear HC
      obtain ⟨m1, m2, m3⟩ := made HRf.out HAf.out (NAts.cons HNt.out NAts.nil) (by simp [maxLen]) #[nPtr p0] rfl 1 rfl 35 zzx (wf.heap.size + 1) rfl; obtain ⟨t0, ht0⟩ : ∃ t0 : Tr, t0 = .mk 35 zzx 0 [t] := ⟨_, rfl⟩
      rw [← ht0] at m1; have HKL : Hid (t0.kids.length = 1) := by
       show _ = _
       rw [ht0]; rfl
      have HT0 := qh ht0; obtain ⟨pq, u0, ps0, hpe, hop⟩ := m1.opens; have hpe2 : pq = wf.heap.size + 1 := by simpa [nPtr] using hpe.symm
      rw [hpe2] at hop; have HOP := qh hop; have HRn := qh m2; have HAn := qh m3; clear m1 m2 m3 hop hpe ht0
      obtain ⟨wn, hwn⟩ : ∃ wn, wn = (wf.alloc (.cells #[nPtr p0] 22)).alloc (zzk 35 zzx 0 (.slice (some ⟨wf.heap.size, 0, none⟩) 1 1)) := ⟨_, rfl⟩; rw [← hwn] at HOP HRn HAn; rw [← hpe2] at HOP
      rw [show (wf.alloc (.cells #[nPtr p0] 22)).heap.size = pq by rw [hpe2]; simp, ← hwn]
      clear hwn hpe2; obtain ⟨hc3, hcf, hcl⟩ := HOP.out.cell; obtain ⟨ua, uc, hue⟩ := HOP.out.shape; subst hue; obtain ⟨kk, hkk⟩ := zzq HNX
      cases hr : zg9 c.l zxk zjy (isVal c.l) (argP c.l F d) F.fuel j with
      | out =>
       rw [hr] at HS; simp only [zqj] at HS; exact absurd HS.out.symm HO.out
      | bad er p =>
       have HC := qh (zgv 312 313 (isVal c.l) (argP c.l F) zxk zjy (atValue_any c) (arg_any HFC.out) en239 en240 (by decide) (by decide) (argP_go hkk) F.fuel wn.drew d j _ rfl (by rw [hr]; nofun) HRn.out.drew)
       rw [hr] at HC HS; simp only [zz6] at HS; clear hr hkk; go_wp2_with fail; refine wp_region_any (by kernel_rfl) ?_; change wpAny _ _ _ _ _ _ _ (World.drew _); refine wt 0 (nPtr pq) ?_; refine wt 1 (nPtr pq) ?_
       refine wt 2 (nPtr pq) ?_; refine wt 3 (.pointer (some ⟨pq, 3, none⟩)) ?_; refine wt 5 (rPtr c) ?_; refine wt 6 (rPtr c) ?_; refine wt 7 (.func (.func 312) #[rPtr c] #[]) ?_; refine wt 8 (rPtr c) ?_
       refine wt 9 (.func (.func 313) #[rPtr c] #[]) ?_; refine wr2 4 10 (fun K hK => ?_) fun K hK => ?_
       ·
        go_simp; refine hK _ _ ?_; clear hK K; refine wr1 10 fun K hK => ?_; go_simp; refine cm HC.out ?_; intro e w' hp; obtain ⟨rfl, ha⟩ := hp; exact ⟨rfl, zq7 HS.out.symm (HAn.out.drew.next ha)⟩
       ·
        go_simp; refine cm HC.out ?_; intro e w' hp; obtain ⟨rfl, ha⟩ := hp; exact ⟨rfl, zq7 HS.out.symm (HAn.out.drew.next ha)⟩
      | ok us j2 =>
       have HC := qh (zgv 312 313 (isVal c.l) (argP c.l F) zxk zjy (atValue_any c) (arg_any HFC.out) en239 en240 (by decide) (by decide) (argP_go hkk) F.fuel wn.drew d j _ rfl (by rw [hr]; nofun) HRn.out.drew)
       have hgt := ((zn3 (q := False) HE.out hjl (by decide) (by decide) (fun h => h.elim) (fun j1 _ h1 => argP_nx hkk h1 (fun h => h.elim))).2 _ _ hr).1; rw [hr] at HC HS; simp only [zzv] at HS; clear hr hkk
       go_wp2_with fail; refine wp_region_any (by kernel_rfl) ?_; change wpAny _ _ _ _ _ _ _ (World.drew _); refine wt 0 (nPtr pq) ?_; refine wt 1 (nPtr pq) ?_; refine wt 2 (nPtr pq) ?_
       refine wt 3 (.pointer (some ⟨pq, 3, none⟩)) ?_; refine wt 5 (rPtr c) ?_; refine wt 6 (rPtr c) ?_; refine wt 7 (.func (.func 312) #[rPtr c] #[]) ?_; refine wt 8 (rPtr c) ?_
       refine wt 9 (.func (.func 313) #[rPtr c] #[]) ?_; refine wr2 4 10 (fun K hK => ?_) fun K hK => ?_
       ·
        go_simp; refine hK _ _ ?_; clear hK K; refine wr1 10 fun K hK => ?_; go_simp; refine cm HC.out ?_; intro e wc hp; obtain ⟨⟨vc, rfl, hlv⟩, hrd, ha⟩ := hp; have HAc := qh (HAn.out.drew.next ha)
        have HRc := qh hrd; have hlt2 := hrd.lt; have HOc := qh (Open.later HOP.out (((Ap.refl c.R wn.heap.size wn).drew).next ha) HLT.out); have HOA := qh (((Ap.refl c.R wn.heap.size wn).drew).next ha)
        have HLV := qh hlv; obtain ⟨gc3, gcf, gcl⟩ := HOc.out.cell; clear hrd ha hlv; refine hK _ _ ?_; clear hK K
        by_cases hus : us = []
        ·
         obtain rfl := HLV.out.2.1 hus; subst hus; obtain ⟨hucap, ga, rfl⟩ := HOc.out.cap (by rw [HKL.out]; decide)
         have HP1 := qh (push0 HOc.out HRc.out HAc.out HLO.out); refine wr1 11 fun K hK => ?_; go_simp; refine hK _ _ ?_; clear hK K hucap; refine wt 12 (nPtr pq) ?_; refine wt 13 (.pointer (some ⟨pq, 3, none⟩)) ?_
         refine wr1 14 fun K hK => ?_; go_simp; refine hK _ _ ?_; clear hK K; refine wpAny_done (by kernel_rfl) ?_ _; go_simp; obtain ⟨m1, m2, m3⟩ := zzq HP1; obtain ⟨pm, hpm, hnm⟩ := m1.nv
         have hpe : pm = pq := by simpa [nPtr] using hpm.symm
         subst hpe; have ht0 := zzq HT0; have HM1 := qh hnm; have HM2 := qh m2; have HM3 := qh m3; clear m1 m2 m3 hpm hnm; go_wp2_with fail
         go_roundw
         case rel => exact ⟨k, .mk 35 zzx 0 [t], j2, pm, rfl, HS.out, HM2.out, HM3.out, by have h9 := zzq HM1; rw [show Tr.mk t0.kd t0.tx t0.n (t0.kids ++ []) = Tr.mk 35 zzx 0 [t] by rw [ht0]; rfl] at h9; exact h9⟩
         case measure => rw [zyq HM2.out, zyq HRM.out]; omega
        ·
         obtain ⟨g2, cap2, qs, rfl, hql, hqn, hqc⟩ := HLV.out.many hus; have hu1 := HLV.out.2.2; have hpos : 0 < us.length := List.length_pos_iff.2 hus
         have HX := qh (Open.apart HOP.out HAn.out.size HOA.out HLT.out (show NAts (From wn.heap.size) wc us qs from hqn)); have hlen := NAts.length _ _ HOc.out.kids; have hkl := zzq HKL; have hsz := HAc.out.size
         have hown := HOc.out.row; rw [hlen] at hown; have HOWN := qh hown; have HQL := qh hql; have HLEN := qh hlen; clear hown hus hqn hlen; refine wr1 11 fun K hK => ?_
         refine step_append_lies _ rfl _ _ 46 rfl w.heap.size 22 i0 (.pointer none) 1 8 Tryz.underlying46 hi0 hz0 hz1 hz2 rfl (by decide) _ _ _ rfl HOWN.out ⟨g2, 0, none⟩ us.length cap2 (qs.map nPtr) rfl (by simp [hql]) hqc (map_one qs) hpos (by unfold maxLen; omega) (by omega) hsz wc.heap.size rfl ?_
         intro g cap w3 hown3 hgr3 hg3 _; refine hK _ _ ?_; clear hK K; have HP1 := qh (pushN (m := t0.kids.length + us.length) HOc.out HX.out HRc.out HAc.out HLO.out hown3 (by rw [HLEN.out, HQL.out]) hgr3 hg3)
         have hp3 : w3.cell? ⟨pq, 3, none⟩ = wc.cell? ⟨pq, 3, none⟩ ∧ w3.frozen? ⟨pq, 3, none⟩ = wc.frozen? ⟨pq, 3, none⟩ := by
          have hbb : w3.heap[pq]? = wc.heap[pq]? := hgr3.block pq gcl (fun e => HOc.out.own e.symm); exact ⟨World.cell?_of_block (w := wc) hbb, World.frozen?_of_block (w := wc) hbb⟩
         obtain ⟨hp3c, hp3f⟩ := hp3; rw [gc3] at hp3c; rw [gcf 3] at hp3f; clear hown3 hgr3 hg3 gc3 gcf hqc hkl; refine wt 12 (nPtr pq) ?_; refine wt 13 (.pointer (some ⟨pq, 3, none⟩)) ?_; refine wr1 14 fun K hK => ?_
         go_simp; refine hK _ _ ?_; clear hK K; refine wpAny_done (by kernel_rfl) ?_ _; go_simp; obtain ⟨m1, m2, m3⟩ := zzq HP1; obtain ⟨pm, hpm, hnm⟩ := m1.nv; have hpe : pm = pq := by simpa [nPtr] using hpm.symm
         subst hpe; have ht0 := zzq HT0; have HM1 := qh hnm; have HM2 := qh m2; have HM3 := qh m3; clear m1 m2 m3 hpm hnm; go_wp2_with fail
         go_roundw
         case rel => exact ⟨k, .mk 35 zzx 0 (t :: us), j2, pm, rfl, HS.out, HM2.out, HM3.out, by have h9 := zzq HM1; rw [show Tr.mk t0.kd t0.tx t0.n (t0.kids ++ us) = Tr.mk 35 zzx 0 (t :: us) by rw [ht0]; rfl] at h9; exact h9⟩
         case measure => rw [zyq HM2.out, zyq HRM.out]; omega
       ·
        go_simp; refine cm HC.out ?_; intro e wc hp; obtain ⟨⟨vc, rfl, hlv⟩, hrd, ha⟩ := hp; have HAc := qh (HAn.out.drew.next ha); have HRc := qh hrd; have hlt2 := hrd.lt
        have HOc := qh (Open.later HOP.out (((Ap.refl c.R wn.heap.size wn).drew).next ha) HLT.out); have HOA := qh (((Ap.refl c.R wn.heap.size wn).drew).next ha); have HLV := qh hlv
        obtain ⟨gc3, gcf, gcl⟩ := HOc.out.cell; clear hrd ha hlv; refine hK _ _ ?_; clear hK K; refine wr1 4 fun K hK => ?_; go_simp; refine hK _ _ ?_; clear hK K
        by_cases hus : us = []
        ·
         obtain rfl := HLV.out.2.1 hus; subst hus; obtain ⟨hucap, ga, rfl⟩ := HOc.out.cap (by rw [HKL.out]; decide)
         have HP1 := qh (push0 HOc.out HRc.out HAc.out HLO.out); refine wr1 11 fun K hK => ?_; go_simp; refine hK _ _ ?_; clear hK K hucap; refine wt 12 (nPtr pq) ?_; refine wt 13 (.pointer (some ⟨pq, 3, none⟩)) ?_
         refine wr1 14 fun K hK => ?_; go_simp; refine hK _ _ ?_; clear hK K; refine wpAny_done (by kernel_rfl) ?_ _; go_simp; obtain ⟨m1, m2, m3⟩ := zzq HP1; obtain ⟨pm, hpm, hnm⟩ := m1.nv
         have hpe : pm = pq := by simpa [nPtr] using hpm.symm
         subst hpe; have ht0 := zzq HT0; have HM1 := qh hnm; have HM2 := qh m2; have HM3 := qh m3; clear m1 m2 m3 hpm hnm; go_wp2_with fail
         go_roundw
         case rel => exact ⟨k, .mk 35 zzx 0 [t], j2, pm, rfl, HS.out, HM2.out, HM3.out, by have h9 := zzq HM1; rw [show Tr.mk t0.kd t0.tx t0.n (t0.kids ++ []) = Tr.mk 35 zzx 0 [t] by rw [ht0]; rfl] at h9; exact h9⟩
         case measure => rw [zyq HM2.out, zyq HRM.out]; omega
        ·
         obtain ⟨g2, cap2, qs, rfl, hql, hqn, hqc⟩ := HLV.out.many hus; have hu1 := HLV.out.2.2; have hpos : 0 < us.length := List.length_pos_iff.2 hus
         have HX := qh (Open.apart HOP.out HAn.out.size HOA.out HLT.out (show NAts (From wn.heap.size) wc us qs from hqn)); have hlen := NAts.length _ _ HOc.out.kids; have hkl := zzq HKL; have hsz := HAc.out.size
         have hown := HOc.out.row; rw [hlen] at hown; have HOWN := qh hown; have HQL := qh hql; have HLEN := qh hlen; clear hown hus hqn hlen; refine wr1 11 fun K hK => ?_
         refine step_append_lies _ rfl _ _ 46 rfl w.heap.size 22 i0 (.pointer none) 1 8 Tryz.underlying46 hi0 hz0 hz1 hz2 rfl (by decide) _ _ _ rfl HOWN.out ⟨g2, 0, none⟩ us.length cap2 (qs.map nPtr) rfl (by simp [hql]) hqc (map_one qs) hpos (by unfold maxLen; omega) (by omega) hsz wc.heap.size rfl ?_
         intro g cap w3 hown3 hgr3 hg3 _; refine hK _ _ ?_; clear hK K; have HP1 := qh (pushN (m := t0.kids.length + us.length) HOc.out HX.out HRc.out HAc.out HLO.out hown3 (by rw [HLEN.out, HQL.out]) hgr3 hg3)
         have hp3 : w3.cell? ⟨pq, 3, none⟩ = wc.cell? ⟨pq, 3, none⟩ ∧ w3.frozen? ⟨pq, 3, none⟩ = wc.frozen? ⟨pq, 3, none⟩ := by
          have hbb : w3.heap[pq]? = wc.heap[pq]? := hgr3.block pq gcl (fun e => HOc.out.own e.symm); exact ⟨World.cell?_of_block (w := wc) hbb, World.frozen?_of_block (w := wc) hbb⟩
         obtain ⟨hp3c, hp3f⟩ := hp3; rw [gc3] at hp3c; rw [gcf 3] at hp3f; clear hown3 hgr3 hg3 gc3 gcf hqc hkl; refine wt 12 (nPtr pq) ?_; refine wt 13 (.pointer (some ⟨pq, 3, none⟩)) ?_; refine wr1 14 fun K hK => ?_
         go_simp; refine hK _ _ ?_; clear hK K; refine wpAny_done (by kernel_rfl) ?_ _; go_simp; obtain ⟨m1, m2, m3⟩ := zzq HP1; obtain ⟨pm, hpm, hnm⟩ := m1.nv; have hpe : pm = pq := by simpa [nPtr] using hpm.symm
         subst hpe; have ht0 := zzq HT0; have HM1 := qh hnm; have HM2 := qh m2; have HM3 := qh m3; clear m1 m2 m3 hpm hnm; go_wp2_with fail
         go_roundw
         case rel => exact ⟨k, .mk 35 zzx 0 (t :: us), j2, pm, rfl, HS.out, HM2.out, HM3.out, by have h9 := zzq HM1; rw [show Tr.mk t0.kd t0.tx t0.n (t0.kids ++ us) = Tr.mk 35 zzx 0 (t :: us) by rw [ht0]; rfl] at h9; exact h9⟩
         case measure => rw [zyq HM2.out, zyq HRM.out]; omega
     ·
      rw [if_neg hy] at HS; have by1 : ((fx c.l j).toList == [40]) = false := zf3 (b := zxk) rfl hy; clear hy; go_wp2_with fail; refine cm HC.out ?_; rintro e wf ⟨rfl, hbf⟩; clear HC
      have HRf := qh (HRr.out.later hbf); have HAf := qh (HAr.out.next (Ap.of hbf)); replace HNt := qh (zkk (c := c) HNt.out (Ap.of hbf) HLT.out); clear hbf; go_wp2_with fail; go_ret
      exact ppOk HS.out.symm ⟨p0, rfl, HNt.out⟩ HRf.out HAf.out
end Go.Proofs.YtoimgcjbcbhclaaGreatDoor
