/-
  Values alone.
-/
import Derived.Test.YtoimgcjbcbhclaaGreatDoorRn0
import Derived.Test.YtoimgcjbcbhclaaGreatDoorRn6
import Derived.Test.YtoimgcjbcbhclaaGreatDoorRn8
set_option maxRecDepth 100000
set_option maxHeartbeats 16000000
namespace Go.Proofs.YtoimgcjbcbhclaaGreatDoor
open Go.RowKit
theorem madeN {c : Ctx} {w W : World} {j d : Nat} (hR : Rdr c W j d) (hA : Ap c.R w.heap.size w W) (kd : Int) (tx : ByteArray) (n : Int) (q : Nat) (hq : q = W.heap.size) :
  NV w.heap.size (W.alloc (zzk kd tx n (.slice none 0 0))) (.mk kd tx n []) (nPtr q) ∧ Rdr c (W.alloc (zzk kd tx n (.slice none 0 0))) j d ∧ Ap c.R w.heap.size w (W.alloc (zzk kd tx n (.slice none 0 0))) := by
 subst hq
 exact ⟨(EV.new (KV.nil _ _) hA.size kd tx n).nv, hR.alloc _, hA.alloc hA.size _⟩
theorem stepped {c : Ctx} {w W : World} {i d : Nat} (hR : Rdr c W i d) (hA : Ap c.R w.heap.size w W) (hj : i + 1 < c.l.length) :
  Rdr c (W.setCell ⟨c.R, 1, none⟩ (.int .i64 ((i : Int) + 1))) (i + 1) d ∧ Ap c.R w.heap.size w (W.setCell ⟨c.R, 1, none⟩ (.int .i64 ((i : Int) + 1))) :=
 ⟨hR.go2 (i + 1) hj (by omega), hA.setCell (p := ⟨c.R, 1, none⟩) (Or.inr rfl) _⟩
theorem al_some {c : Ctx} (f : Nat) (hen : ∀ args W, (callFunc f args).run Tryz.prog W = .ok (.enter f args) W) (w : World) (d i : Nat) (r : PR Tr) (ho : r ≠ .out) (q : Nat) (hq : zxy vlKeys (fx c.l i) = some q) (hf : vlFn q = f) (hp : ∀ W, Rdr c W i d → Calls Tryz.prog f #[rPtr c] W (zk3 c W d (NV W.heap.size) r)) (h : Rdr c w i d) :
  Calls Tryz.prog 311 #[rPtr c] w (zk3 c w d (NV w.heap.size) r) := by
 have HL : Hid (∀ W : World, Rdr c W i d → (Instr.lookup 201 (.map (some c.mV)) (.string (fx c.l i)) true).run Tryz.prog W = .ok (.tuple #[.func (.func f) #[.pointer (some ⟨c.R, 0, none⟩)] #[], .bool true]) W) := fun W hW => by
  have := zy0 c (fx c.l i) W hW.base.vals; rw [hq] at this; simp only [vlVO, hf] at this; exact this
 have HR0 := qh h
 have HA0 := qh (Ap.refl c.R w.heap.size w)
 have HP := qh hp
 have HLT := qh h.rlt
 have HO := qh ho
 clear h ho hq hf hp
 go_enter Tryz.func311, Tryz.ntmps311
 go_wp2_with fail
 refine wp_region_held (S := fun W => Rdr c W i d) (by kernel_rfl) ?_
 change wpAnyH _ _ _ _ _ _ _ _ (World.drew _)
 refine wh 0 (rPtr c) HR0.out.drew ?_
 refine wh 1 (rPtr c) HR0.out.drew ?_
 refine wh 2 (.pointer (some ⟨c.R, 5, none⟩)) HR0.out.drew ?_
 refine wg 3 (.map (some c.mV)) rfl (Or.inl ⟨by kernel_rfl, fun W hW => by have hh := Rdr.c5 hW; go_simp⟩) HR0.out.drew ?_
 refine wh 4 (rPtr c) HR0.out.drew ?_
 refine wq1 5 fun K hK => ?_
 go_simp
 refine cm (zx3 c _ i d HR0.out.drew) ?_
 rintro e wq ⟨rfl, hbq⟩
 have HRq := qh (HR0.out.drew.later hbq)
 have HAq := qh (HA0.out.next (Ap.of (qb.drew.trans hbq)))
 clear hbq
 refine hK.out _ _ HRq.out (fun _ => ?_)
 clear hK K
 refine wg 6 (.tuple #[.func (.func f) #[.pointer (some ⟨c.R, 0, none⟩)] #[], .bool true]) rfl (Or.inl ⟨by kernel_rfl, fun W hW => by have hh := HL.out W hW; go_simp⟩) HRq.out ?_
 refine wh 7 (.tuple #[.func (.func f) #[.pointer (some ⟨c.R, 0, none⟩)] #[], .bool true]) HRq.out ?_
 refine wh 8 (.func (.func f) #[.pointer (some ⟨c.R, 0, none⟩)] #[]) HRq.out ?_
 refine wh 9 (.bool true) HRq.out ?_
 refine wh 10 (.func (.func f) #[.pointer (some ⟨c.R, 0, none⟩)] #[]) HRq.out ?_
 refine wh 11 (.bool true) HRq.out ?_
 refine wpAnyH_done (by kernel_rfl) ?_ _
 go_simp
 have HC : Hid _ := zzq HP wq HRq.out
 go_wp2_with fail
 refine cm HC.out ?_
 intro e w2 hp
 cases r with
 | out => exact absurd rfl HO.out
 | bad er p =>
  obtain ⟨rfl, ha⟩ := hp; exact ⟨rfl, zq7 rfl (HAq.out.next ha)⟩
 | ok x j =>
  obtain ⟨⟨v, rfl, hv⟩, hrd, ha⟩ := hp; have HV := qh (NV.mono hv HAq.out.size); have HR2 := qh hrd; have HA2 := qh (HAq.out.next ha); clear hv hrd ha; go_wp2_with fail; go_ret; exact ppOk rfl HV.out HR2.out HA2.out
theorem al_sign {c : Ctx} (w : World) (d i : Nat) (x : Sg) (hq : zxy vlKeys (fx c.l i) = none) (hsg : sgP 0 (fx c.l i) = some x) (h : Rdr c w i d) : Calls Tryz.prog 311 #[rPtr c] w (zk3 c w d (NV w.heap.size) (.ok (.mk x.kd zzx 0 []) (i + 1))) := by
 have HL : Hid (∀ W : World, Rdr c W i d → (Instr.lookup 201 (.map (some c.mV)) (.string (fx c.l i)) true).run Tryz.prog W = .ok (.tuple #[.nilFunc, .bool false]) W) := fun W hW => by
  have := zy0 c (fx c.l i) W hW.base.vals; rw [hq] at this; exact this
 clear hq
 have HR0 := qh h
 have HA0 := qh (Ap.refl c.R w.heap.size w)
 have HLT := qh h.rlt
 have HEN := qh h.base.ends
 have HLL := qh h.lt
 have hL := h.base.len
 have HSG := qh hsg
 have HJ := qh (sgP_lt h.base.ends h.lt hsg)
 clear hsg
 clear h
 go_enter Tryz.func311, Tryz.ntmps311
 go_wp2_with fail
 refine wp_region_held (S := fun W => Rdr c W i d) (by kernel_rfl) ?_
 change wpAnyH _ _ _ _ _ _ _ _ (World.drew _)
 refine wh 0 (rPtr c) HR0.out.drew ?_
 refine wh 1 (rPtr c) HR0.out.drew ?_
 refine wh 2 (.pointer (some ⟨c.R, 5, none⟩)) HR0.out.drew ?_
 refine wg 3 (.map (some c.mV)) rfl (Or.inl ⟨by kernel_rfl, fun W hW => by have hh := Rdr.c5 hW; go_simp⟩) HR0.out.drew ?_
 refine wh 4 (rPtr c) HR0.out.drew ?_
 refine wq1 5 fun K hK => ?_
 go_simp
 refine cm (zx3 c _ i d HR0.out.drew) ?_
 rintro e wq ⟨rfl, hbq⟩
 have HRq := qh (HR0.out.drew.later hbq)
 have HAq := qh (HA0.out.next (Ap.of (qb.drew.trans hbq)))
 clear hbq
 refine hK.out _ _ HRq.out (fun _ => ?_)
 clear hK K
 refine wg 6 (.tuple #[.nilFunc, .bool false]) rfl (Or.inl ⟨by kernel_rfl, fun W hW => by have hh := HL.out W hW; go_simp⟩) HRq.out ?_
 refine wh 7 (.tuple #[.nilFunc, .bool false]) HRq.out ?_
 refine wh 8 .nilFunc HRq.out ?_
 refine wh 9 (.bool false) HRq.out ?_
 refine wh 10 .nilFunc HRq.out ?_
 refine wh 11 (.bool false) HRq.out ?_
 refine wpAnyH_done (by kernel_rfl) ?_ _
 go_simp
 have HC := qh (zy9 c 0 wq i d HRq.out)
 rw [HSG.out] at HC
 simp only [sgVO, sgV, Option.isSome] at HC
 go_wp2_with fail
 refine cm HC.out ?_
 rintro e ws ⟨rfl, hbws⟩
 clear HC
 have HAws := qh (HAq.out.next (Ap.of hbws))
 have HRws := qh (HRq.out.later hbws)
 clear hbws HRq HAq
 have HAs2 := qh (HAws.out.alloc HAws.out.size (.cells #[.string x.tx, .int .i64 x.kd, .int .i64 x.parts, .int .i64 x.str] 189))
 have HRs2 := qh (HRws.out.alloc (.cells #[.string x.tx, .int .i64 x.kd, .int .i64 x.parts, .int .i64 x.str] 189))
 have hs0 : (ws.alloc (.cells #[.string x.tx, .int .i64 x.kd, .int .i64 x.parts, .int .i64 x.str] 189)).heap[ws.heap.size]? = some (.cells #[.string x.tx, .int .i64 x.kd, .int .i64 x.parts, .int .i64 x.str] 189) := zqx _ _
 have HS0 := qh hs0
 clear hs0
 have HC := qh (zjk c (ws.alloc (.cells #[.string x.tx, .int .i64 x.kd, .int .i64 x.parts, .int .i64 x.str] 189)) i d HRs2.out)
 unfold tkV at HC
 go_wp2_with fail
 refine cm HC.out ?_
 rintro e wt ⟨rfl, hbwt⟩
 clear HC
 have HAwt := qh (HAs2.out.next (Ap.of hbwt))
 have HRwt := qh (HRs2.out.later hbwt)
 have hp0 := (hbwt.block ws.heap.size (by simp)).trans HS0.out
 obtain ⟨k0, k1, k2, k3, kf, klt⟩ := c160 hp0
 have hc1 := HRwt.out.c1
 have hcz := HRwt.out.fz
 have hcl := HRwt.out.rlt
 clear hbwt hp0
 have HAt2 := qh (HAwt.out.alloc HAwt.out.size (.cells #[.int .i64 (tkA c.l i).kd, .string (tkA c.l i).tx, .int .i64 (tkA c.l i).n, .int .i64 ((tkA c.l i).pl : Int)] 138))
 have HRt2 := qh (HRwt.out.alloc (.cells #[.int .i64 (tkA c.l i).kd, .string (tkA c.l i).tx, .int .i64 (tkA c.l i).n, .int .i64 ((tkA c.l i).pl : Int)] 138))
 have hi := zzq HJ
 obtain ⟨hsr, hsa⟩ := stepped HRwt.out HAwt.out hi
 have HX := qh (madeN (hsr.alloc (.cells #[.int .i64 (tkA c.l i).kd, .string (tkA c.l i).tx, .int .i64 (tkA c.l i).n, .int .i64 ((tkA c.l i).pl : Int)] 138)) (hsa.alloc hsa.size (.cells #[.int .i64 (tkA c.l i).kd, .string (tkA c.l i).tx, .int .i64 (tkA c.l i).n, .int .i64 ((tkA c.l i).pl : Int)] 138)) x.kd zzx 0 (wt.heap.size + 1) (by simp))
 clear hsr hsa
 have HC := qh (zqk x.kd zzx (.slice none 0 0) (wt.alloc (.cells #[.int .i64 (tkA c.l i).kd, .string (tkA c.l i).tx, .int .i64 (tkA c.l i).n, .int .i64 ((tkA c.l i).pl : Int)] 138)) ⟨_, _, _, rfl⟩)
 go_wp2_with fail
 refine cm HC.out ?_
 rintro e wn ⟨rfl, rfl⟩
 clear HC
 go_wp2_with fail
 go_ret
 obtain ⟨m1, m2, m3⟩ := zzq HX
 exact ppOk rfl m1 m2 m3
theorem al_name {c : Ctx} (w : World) (d i : Nat) (hq : zxy vlKeys (fx c.l i) = none) (hsg : sgP 0 (fx c.l i) = none) (hk : (tkA c.l i).kd = 1) (h : Rdr c w i d) : Calls Tryz.prog 311 #[rPtr c] w (zk3 c w d (NV w.heap.size) (.ok (.mk 23 (tkA c.l i).tx 0 []) (i + 1))) := by
 have HL : Hid (∀ W : World, Rdr c W i d → (Instr.lookup 201 (.map (some c.mV)) (.string (fx c.l i)) true).run Tryz.prog W = .ok (.tuple #[.nilFunc, .bool false]) W) := fun W hW => by
  have := zy0 c (fx c.l i) W hW.base.vals; rw [hq] at this; exact this
 clear hq
 have HR0 := qh h
 have HA0 := qh (Ap.refl c.R w.heap.size w)
 have HLT := qh h.rlt
 have HEN := qh h.base.ends
 have HLL := qh h.lt
 have hL := h.base.len
 have HSG := qh hsg
 clear hsg
 have HJ := qh (zk4 h.base.ends h.lt (by rw [hk]; decide))
 have b1 : ((tkA c.l i).kd == 1) = true := by rw [hk]; decide
 have b4 : ((tkA c.l i).kd == 4) = false := by rw [hk]; decide
 have b3 : ((tkA c.l i).kd == 3) = false := by rw [hk]; decide
 clear hk
 clear h
 go_enter Tryz.func311, Tryz.ntmps311
 go_wp2_with fail
 refine wp_region_held (S := fun W => Rdr c W i d) (by kernel_rfl) ?_
 change wpAnyH _ _ _ _ _ _ _ _ (World.drew _)
 refine wh 0 (rPtr c) HR0.out.drew ?_
 refine wh 1 (rPtr c) HR0.out.drew ?_
 refine wh 2 (.pointer (some ⟨c.R, 5, none⟩)) HR0.out.drew ?_
 refine wg 3 (.map (some c.mV)) rfl (Or.inl ⟨by kernel_rfl, fun W hW => by have hh := Rdr.c5 hW; go_simp⟩) HR0.out.drew ?_
 refine wh 4 (rPtr c) HR0.out.drew ?_
 refine wq1 5 fun K hK => ?_
 go_simp
 refine cm (zx3 c _ i d HR0.out.drew) ?_
 rintro e wq ⟨rfl, hbq⟩
 have HRq := qh (HR0.out.drew.later hbq)
 have HAq := qh (HA0.out.next (Ap.of (qb.drew.trans hbq)))
 clear hbq
 refine hK.out _ _ HRq.out (fun _ => ?_)
 clear hK K
 refine wg 6 (.tuple #[.nilFunc, .bool false]) rfl (Or.inl ⟨by kernel_rfl, fun W hW => by have hh := HL.out W hW; go_simp⟩) HRq.out ?_
 refine wh 7 (.tuple #[.nilFunc, .bool false]) HRq.out ?_
 refine wh 8 .nilFunc HRq.out ?_
 refine wh 9 (.bool false) HRq.out ?_
 refine wh 10 .nilFunc HRq.out ?_
 refine wh 11 (.bool false) HRq.out ?_
 refine wpAnyH_done (by kernel_rfl) ?_ _
 go_simp
 have HC := qh (zy9 c 0 wq i d HRq.out)
 rw [HSG.out] at HC
 simp only [sgVO, noSg, Option.isSome] at HC
 go_wp2_with fail
 refine cm HC.out ?_
 rintro e ws ⟨rfl, hbws⟩
 clear HC
 have HAws := qh (HAq.out.next (Ap.of hbws))
 have HRws := qh (HRq.out.later hbws)
 clear hbws HRq HAq
 have HAs2 := qh (HAws.out.alloc HAws.out.size (.cells #[.string ⟨#[]⟩, .int .i64 0, .int .i64 0, .int .i64 0] 189))
 have HRs2 := qh (HRws.out.alloc (.cells #[.string ⟨#[]⟩, .int .i64 0, .int .i64 0, .int .i64 0] 189))
 have hs0 : (ws.alloc (.cells #[.string ⟨#[]⟩, .int .i64 0, .int .i64 0, .int .i64 0] 189)).heap[ws.heap.size]? = some (.cells #[.string ⟨#[]⟩, .int .i64 0, .int .i64 0, .int .i64 0] 189) := zqx _ _
 have HS0 := qh hs0
 clear hs0
 have HC := qh (zjk c (ws.alloc (.cells #[.string ⟨#[]⟩, .int .i64 0, .int .i64 0, .int .i64 0] 189)) i d HRs2.out)
 unfold tkV at HC
 go_wp2_with fail
 refine cm HC.out ?_
 rintro e wt ⟨rfl, hbwt⟩
 clear HC
 have HAwt := qh (HAs2.out.next (Ap.of hbwt))
 have HRwt := qh (HRs2.out.later hbwt)
 have hp0 := (hbwt.block ws.heap.size (by simp)).trans HS0.out
 obtain ⟨k0, k1, k2, k3, kf, klt⟩ := c160 hp0
 have hc1 := HRwt.out.c1
 have hcz := HRwt.out.fz
 have hcl := HRwt.out.rlt
 clear hbwt hp0
 have HAt2 := qh (HAwt.out.alloc HAwt.out.size (.cells #[.int .i64 (tkA c.l i).kd, .string (tkA c.l i).tx, .int .i64 (tkA c.l i).n, .int .i64 ((tkA c.l i).pl : Int)] 138))
 have HRt2 := qh (HRwt.out.alloc (.cells #[.int .i64 (tkA c.l i).kd, .string (tkA c.l i).tx, .int .i64 (tkA c.l i).n, .int .i64 ((tkA c.l i).pl : Int)] 138))
 have hi := zzq HJ
 obtain ⟨hsr, hsa⟩ := stepped HRwt.out HAwt.out hi
 have HX := qh (madeN (hsr.alloc (.cells #[.int .i64 (tkA c.l i).kd, .string (tkA c.l i).tx, .int .i64 (tkA c.l i).n, .int .i64 ((tkA c.l i).pl : Int)] 138)) (hsa.alloc hsa.size (.cells #[.int .i64 (tkA c.l i).kd, .string (tkA c.l i).tx, .int .i64 (tkA c.l i).n, .int .i64 ((tkA c.l i).pl : Int)] 138)) 23 (tkA c.l i).tx 0 (wt.heap.size + 1) (by simp))
 clear hsr hsa
 have HC := qh (zqk 23 (tkA c.l i).tx (.slice none 0 0) (wt.alloc (.cells #[.int .i64 (tkA c.l i).kd, .string (tkA c.l i).tx, .int .i64 (tkA c.l i).n, .int .i64 ((tkA c.l i).pl : Int)] 138)) ⟨_, _, _, rfl⟩)
 go_wp2_with fail
 refine cm HC.out ?_
 rintro e wn ⟨rfl, rfl⟩
 clear HC
 go_wp2_with fail
 go_ret
 obtain ⟨m1, m2, m3⟩ := zzq HX
 exact ppOk rfl m1 m2 m3
theorem al_str {c : Ctx} (w : World) (d i : Nat) (hq : zxy vlKeys (fx c.l i) = none) (hsg : sgP 0 (fx c.l i) = none) (hk : (tkA c.l i).kd = 4) (h : Rdr c w i d) : Calls Tryz.prog 311 #[rPtr c] w (zk3 c w d (NV w.heap.size) (.ok (.mk 18 (tkA c.l i).tx 0 []) (i + 1))) := by
 have HL : Hid (∀ W : World, Rdr c W i d → (Instr.lookup 201 (.map (some c.mV)) (.string (fx c.l i)) true).run Tryz.prog W = .ok (.tuple #[.nilFunc, .bool false]) W) := fun W hW => by
  have := zy0 c (fx c.l i) W hW.base.vals; rw [hq] at this; exact this
 clear hq
 have HR0 := qh h
 have HA0 := qh (Ap.refl c.R w.heap.size w)
 have HLT := qh h.rlt
 have HEN := qh h.base.ends
 have HLL := qh h.lt
 have hL := h.base.len
 have HSG := qh hsg
 clear hsg
 have HJ := qh (zk4 h.base.ends h.lt (by rw [hk]; decide))
 have b1 : ((tkA c.l i).kd == 1) = false := by rw [hk]; decide
 have b4 : ((tkA c.l i).kd == 4) = true := by rw [hk]; decide
 have b3 : ((tkA c.l i).kd == 3) = false := by rw [hk]; decide
 clear hk
 clear h
 go_enter Tryz.func311, Tryz.ntmps311
 go_wp2_with fail
 refine wp_region_held (S := fun W => Rdr c W i d) (by kernel_rfl) ?_
 change wpAnyH _ _ _ _ _ _ _ _ (World.drew _)
 refine wh 0 (rPtr c) HR0.out.drew ?_
 refine wh 1 (rPtr c) HR0.out.drew ?_
 refine wh 2 (.pointer (some ⟨c.R, 5, none⟩)) HR0.out.drew ?_
 refine wg 3 (.map (some c.mV)) rfl (Or.inl ⟨by kernel_rfl, fun W hW => by have hh := Rdr.c5 hW; go_simp⟩) HR0.out.drew ?_
 refine wh 4 (rPtr c) HR0.out.drew ?_
 refine wq1 5 fun K hK => ?_
 go_simp
 refine cm (zx3 c _ i d HR0.out.drew) ?_
 rintro e wq ⟨rfl, hbq⟩
 have HRq := qh (HR0.out.drew.later hbq)
 have HAq := qh (HA0.out.next (Ap.of (qb.drew.trans hbq)))
 clear hbq
 refine hK.out _ _ HRq.out (fun _ => ?_)
 clear hK K
 refine wg 6 (.tuple #[.nilFunc, .bool false]) rfl (Or.inl ⟨by kernel_rfl, fun W hW => by have hh := HL.out W hW; go_simp⟩) HRq.out ?_
 refine wh 7 (.tuple #[.nilFunc, .bool false]) HRq.out ?_
 refine wh 8 .nilFunc HRq.out ?_
 refine wh 9 (.bool false) HRq.out ?_
 refine wh 10 .nilFunc HRq.out ?_
 refine wh 11 (.bool false) HRq.out ?_
 refine wpAnyH_done (by kernel_rfl) ?_ _
 go_simp
 have HC := qh (zy9 c 0 wq i d HRq.out)
 rw [HSG.out] at HC
 simp only [sgVO, noSg, Option.isSome] at HC
 go_wp2_with fail
 refine cm HC.out ?_
 rintro e ws ⟨rfl, hbws⟩
 clear HC
 have HAws := qh (HAq.out.next (Ap.of hbws))
 have HRws := qh (HRq.out.later hbws)
 clear hbws HRq HAq
 have HAs2 := qh (HAws.out.alloc HAws.out.size (.cells #[.string ⟨#[]⟩, .int .i64 0, .int .i64 0, .int .i64 0] 189))
 have HRs2 := qh (HRws.out.alloc (.cells #[.string ⟨#[]⟩, .int .i64 0, .int .i64 0, .int .i64 0] 189))
 have hs0 : (ws.alloc (.cells #[.string ⟨#[]⟩, .int .i64 0, .int .i64 0, .int .i64 0] 189)).heap[ws.heap.size]? = some (.cells #[.string ⟨#[]⟩, .int .i64 0, .int .i64 0, .int .i64 0] 189) := zqx _ _
 have HS0 := qh hs0
 clear hs0
 have HC := qh (zjk c (ws.alloc (.cells #[.string ⟨#[]⟩, .int .i64 0, .int .i64 0, .int .i64 0] 189)) i d HRs2.out)
 unfold tkV at HC
 go_wp2_with fail
 refine cm HC.out ?_
 rintro e wt ⟨rfl, hbwt⟩
 clear HC
 have HAwt := qh (HAs2.out.next (Ap.of hbwt))
 have HRwt := qh (HRs2.out.later hbwt)
 have hp0 := (hbwt.block ws.heap.size (by simp)).trans HS0.out
 obtain ⟨k0, k1, k2, k3, kf, klt⟩ := c160 hp0
 have hc1 := HRwt.out.c1
 have hcz := HRwt.out.fz
 have hcl := HRwt.out.rlt
 clear hbwt hp0
 have HAt2 := qh (HAwt.out.alloc HAwt.out.size (.cells #[.int .i64 (tkA c.l i).kd, .string (tkA c.l i).tx, .int .i64 (tkA c.l i).n, .int .i64 ((tkA c.l i).pl : Int)] 138))
 have HRt2 := qh (HRwt.out.alloc (.cells #[.int .i64 (tkA c.l i).kd, .string (tkA c.l i).tx, .int .i64 (tkA c.l i).n, .int .i64 ((tkA c.l i).pl : Int)] 138))
 have hi := zzq HJ
 obtain ⟨hsr, hsa⟩ := stepped HRwt.out HAwt.out hi
 have HX := qh (madeN (hsr.alloc (.cells #[.int .i64 (tkA c.l i).kd, .string (tkA c.l i).tx, .int .i64 (tkA c.l i).n, .int .i64 ((tkA c.l i).pl : Int)] 138)) (hsa.alloc hsa.size (.cells #[.int .i64 (tkA c.l i).kd, .string (tkA c.l i).tx, .int .i64 (tkA c.l i).n, .int .i64 ((tkA c.l i).pl : Int)] 138)) 18 (tkA c.l i).tx 0 (wt.heap.size + 1) (by simp))
 clear hsr hsa
 have HC := qh (zqk 18 (tkA c.l i).tx (.slice none 0 0) (wt.alloc (.cells #[.int .i64 (tkA c.l i).kd, .string (tkA c.l i).tx, .int .i64 (tkA c.l i).n, .int .i64 ((tkA c.l i).pl : Int)] 138)) ⟨_, _, _, rfl⟩)
 go_wp2_with fail
 refine cm HC.out ?_
 rintro e wn ⟨rfl, rfl⟩
 clear HC
 go_wp2_with fail
 go_ret
 obtain ⟨m1, m2, m3⟩ := zzq HX
 exact ppOk rfl m1 m2 m3
theorem al_num {c : Ctx} (w : World) (d i : Nat) (hq : zxy vlKeys (fx c.l i) = none) (hsg : sgP 0 (fx c.l i) = none) (hk : (tkA c.l i).kd = 3) (h : Rdr c w i d) : Calls Tryz.prog 311 #[rPtr c] w (zk3 c w d (NV w.heap.size) (.ok (.mk 17 zzx (tkA c.l i).n []) (i + 1))) := by
 have HL : Hid (∀ W : World, Rdr c W i d → (Instr.lookup 201 (.map (some c.mV)) (.string (fx c.l i)) true).run Tryz.prog W = .ok (.tuple #[.nilFunc, .bool false]) W) := fun W hW => by
  have := zy0 c (fx c.l i) W hW.base.vals; rw [hq] at this; exact this
 clear hq
 have HR0 := qh h
 have HA0 := qh (Ap.refl c.R w.heap.size w)
 have HLT := qh h.rlt
 have HEN := qh h.base.ends
 have HLL := qh h.lt
 have hL := h.base.len
 have HSG := qh hsg
 clear hsg
 have HJ := qh (zk4 h.base.ends h.lt (by rw [hk]; decide))
 have b1 : ((tkA c.l i).kd == 1) = false := by rw [hk]; decide
 have b4 : ((tkA c.l i).kd == 4) = false := by rw [hk]; decide
 have b3 : ((tkA c.l i).kd == 3) = true := by rw [hk]; decide
 clear hk
 clear h
 go_enter Tryz.func311, Tryz.ntmps311
 go_wp2_with fail
 refine wp_region_held (S := fun W => Rdr c W i d) (by kernel_rfl) ?_
 change wpAnyH _ _ _ _ _ _ _ _ (World.drew _)
 refine wh 0 (rPtr c) HR0.out.drew ?_
 refine wh 1 (rPtr c) HR0.out.drew ?_
 refine wh 2 (.pointer (some ⟨c.R, 5, none⟩)) HR0.out.drew ?_
 refine wg 3 (.map (some c.mV)) rfl (Or.inl ⟨by kernel_rfl, fun W hW => by have hh := Rdr.c5 hW; go_simp⟩) HR0.out.drew ?_
 refine wh 4 (rPtr c) HR0.out.drew ?_
 refine wq1 5 fun K hK => ?_
 go_simp
 refine cm (zx3 c _ i d HR0.out.drew) ?_
 rintro e wq ⟨rfl, hbq⟩
 have HRq := qh (HR0.out.drew.later hbq)
 have HAq := qh (HA0.out.next (Ap.of (qb.drew.trans hbq)))
 clear hbq
 refine hK.out _ _ HRq.out (fun _ => ?_)
 clear hK K
 refine wg 6 (.tuple #[.nilFunc, .bool false]) rfl (Or.inl ⟨by kernel_rfl, fun W hW => by have hh := HL.out W hW; go_simp⟩) HRq.out ?_
 refine wh 7 (.tuple #[.nilFunc, .bool false]) HRq.out ?_
 refine wh 8 .nilFunc HRq.out ?_
 refine wh 9 (.bool false) HRq.out ?_
 refine wh 10 .nilFunc HRq.out ?_
 refine wh 11 (.bool false) HRq.out ?_
 refine wpAnyH_done (by kernel_rfl) ?_ _
 go_simp
 have HC := qh (zy9 c 0 wq i d HRq.out)
 rw [HSG.out] at HC
 simp only [sgVO, noSg, Option.isSome] at HC
 go_wp2_with fail
 refine cm HC.out ?_
 rintro e ws ⟨rfl, hbws⟩
 clear HC
 have HAws := qh (HAq.out.next (Ap.of hbws))
 have HRws := qh (HRq.out.later hbws)
 clear hbws HRq HAq
 have HAs2 := qh (HAws.out.alloc HAws.out.size (.cells #[.string ⟨#[]⟩, .int .i64 0, .int .i64 0, .int .i64 0] 189))
 have HRs2 := qh (HRws.out.alloc (.cells #[.string ⟨#[]⟩, .int .i64 0, .int .i64 0, .int .i64 0] 189))
 have hs0 : (ws.alloc (.cells #[.string ⟨#[]⟩, .int .i64 0, .int .i64 0, .int .i64 0] 189)).heap[ws.heap.size]? = some (.cells #[.string ⟨#[]⟩, .int .i64 0, .int .i64 0, .int .i64 0] 189) := zqx _ _
 have HS0 := qh hs0
 clear hs0
 have HC := qh (zjk c (ws.alloc (.cells #[.string ⟨#[]⟩, .int .i64 0, .int .i64 0, .int .i64 0] 189)) i d HRs2.out)
 unfold tkV at HC
 go_wp2_with fail
 refine cm HC.out ?_
 rintro e wt ⟨rfl, hbwt⟩
 clear HC
 have HAwt := qh (HAs2.out.next (Ap.of hbwt))
 have HRwt := qh (HRs2.out.later hbwt)
 have hp0 := (hbwt.block ws.heap.size (by simp)).trans HS0.out
 obtain ⟨k0, k1, k2, k3, kf, klt⟩ := c160 hp0
 have hc1 := HRwt.out.c1
 have hcz := HRwt.out.fz
 have hcl := HRwt.out.rlt
 clear hbwt hp0
 have HAt2 := qh (HAwt.out.alloc HAwt.out.size (.cells #[.int .i64 (tkA c.l i).kd, .string (tkA c.l i).tx, .int .i64 (tkA c.l i).n, .int .i64 ((tkA c.l i).pl : Int)] 138))
 have HRt2 := qh (HRwt.out.alloc (.cells #[.int .i64 (tkA c.l i).kd, .string (tkA c.l i).tx, .int .i64 (tkA c.l i).n, .int .i64 ((tkA c.l i).pl : Int)] 138))
 have hi := zzq HJ
 obtain ⟨hsr, hsa⟩ := stepped HRwt.out HAwt.out hi
 have HX := qh (madeN (hsr.alloc (.cells #[.int .i64 (tkA c.l i).kd, .string (tkA c.l i).tx, .int .i64 (tkA c.l i).n, .int .i64 ((tkA c.l i).pl : Int)] 138)) (hsa.alloc hsa.size (.cells #[.int .i64 (tkA c.l i).kd, .string (tkA c.l i).tx, .int .i64 (tkA c.l i).n, .int .i64 ((tkA c.l i).pl : Int)] 138)) 17 zzx (tkA c.l i).n (wt.heap.size + 1) (by simp))
 clear hsr hsa
 have HC := qh (zqk 17 zzx (.slice none 0 0) (wt.alloc (.cells #[.int .i64 (tkA c.l i).kd, .string (tkA c.l i).tx, .int .i64 (tkA c.l i).n, .int .i64 ((tkA c.l i).pl : Int)] 138)) ⟨_, _, _, rfl⟩)
 go_wp2_with fail
 refine cm HC.out ?_
 rintro e wn ⟨rfl, rfl⟩
 clear HC
 go_wp2_with fail
 go_ret
 obtain ⟨m1, m2, m3⟩ := zzq HX
 exact ppOk rfl m1 m2 m3
theorem al_bad {c : Ctx} (w : World) (d i : Nat) (hq : zxy vlKeys (fx c.l i) = none) (hsg : sgP 0 (fx c.l i) = none) (h1 : (tkA c.l i).kd ≠ 1) (h4 : (tkA c.l i).kd ≠ 4) (h3 : (tkA c.l i).kd ≠ 3) (h : Rdr c w i d) : Calls Tryz.prog 311 #[rPtr c] w (zk3 c w d (NV w.heap.size) (.bad 3 (tkA c.l i).pl)) := by
 have HL : Hid (∀ W : World, Rdr c W i d → (Instr.lookup 201 (.map (some c.mV)) (.string (fx c.l i)) true).run Tryz.prog W = .ok (.tuple #[.nilFunc, .bool false]) W) := fun W hW => by
  have := zy0 c (fx c.l i) W hW.base.vals; rw [hq] at this; exact this
 clear hq
 have HR0 := qh h
 have HA0 := qh (Ap.refl c.R w.heap.size w)
 have HLT := qh h.rlt
 have HEN := qh h.base.ends
 have HLL := qh h.lt
 have hL := h.base.len
 have HSG := qh hsg
 clear hsg
 have b1 : ((tkA c.l i).kd == 1) = false := beq_eq_false_iff_ne.2 h1
 have b4 : ((tkA c.l i).kd == 4) = false := beq_eq_false_iff_ne.2 h4
 have b3 : ((tkA c.l i).kd == 3) = false := beq_eq_false_iff_ne.2 h3
 clear h1 h3 h4
 clear h
 go_enter Tryz.func311, Tryz.ntmps311
 go_wp2_with fail
 refine wp_region_held (S := fun W => Rdr c W i d) (by kernel_rfl) ?_
 change wpAnyH _ _ _ _ _ _ _ _ (World.drew _)
 refine wh 0 (rPtr c) HR0.out.drew ?_
 refine wh 1 (rPtr c) HR0.out.drew ?_
 refine wh 2 (.pointer (some ⟨c.R, 5, none⟩)) HR0.out.drew ?_
 refine wg 3 (.map (some c.mV)) rfl (Or.inl ⟨by kernel_rfl, fun W hW => by have hh := Rdr.c5 hW; go_simp⟩) HR0.out.drew ?_
 refine wh 4 (rPtr c) HR0.out.drew ?_
 refine wq1 5 fun K hK => ?_
 go_simp
 refine cm (zx3 c _ i d HR0.out.drew) ?_
 rintro e wq ⟨rfl, hbq⟩
 have HRq := qh (HR0.out.drew.later hbq)
 have HAq := qh (HA0.out.next (Ap.of (qb.drew.trans hbq)))
 clear hbq
 refine hK.out _ _ HRq.out (fun _ => ?_)
 clear hK K
 refine wg 6 (.tuple #[.nilFunc, .bool false]) rfl (Or.inl ⟨by kernel_rfl, fun W hW => by have hh := HL.out W hW; go_simp⟩) HRq.out ?_
 refine wh 7 (.tuple #[.nilFunc, .bool false]) HRq.out ?_
 refine wh 8 .nilFunc HRq.out ?_
 refine wh 9 (.bool false) HRq.out ?_
 refine wh 10 .nilFunc HRq.out ?_
 refine wh 11 (.bool false) HRq.out ?_
 refine wpAnyH_done (by kernel_rfl) ?_ _
 go_simp
 have HC := qh (zy9 c 0 wq i d HRq.out)
 rw [HSG.out] at HC
 simp only [sgVO, noSg, Option.isSome] at HC
 go_wp2_with fail
 refine cm HC.out ?_
 rintro e ws ⟨rfl, hbws⟩
 clear HC
 have HAws := qh (HAq.out.next (Ap.of hbws))
 have HRws := qh (HRq.out.later hbws)
 clear hbws HRq HAq
 have HAs2 := qh (HAws.out.alloc HAws.out.size (.cells #[.string ⟨#[]⟩, .int .i64 0, .int .i64 0, .int .i64 0] 189))
 have HRs2 := qh (HRws.out.alloc (.cells #[.string ⟨#[]⟩, .int .i64 0, .int .i64 0, .int .i64 0] 189))
 have hs0 : (ws.alloc (.cells #[.string ⟨#[]⟩, .int .i64 0, .int .i64 0, .int .i64 0] 189)).heap[ws.heap.size]? = some (.cells #[.string ⟨#[]⟩, .int .i64 0, .int .i64 0, .int .i64 0] 189) := zqx _ _
 have HS0 := qh hs0
 clear hs0
 have HC := qh (zjk c (ws.alloc (.cells #[.string ⟨#[]⟩, .int .i64 0, .int .i64 0, .int .i64 0] 189)) i d HRs2.out)
 unfold tkV at HC
 go_wp2_with fail
 refine cm HC.out ?_
 rintro e wt ⟨rfl, hbwt⟩
 clear HC
 have HAwt := qh (HAs2.out.next (Ap.of hbwt))
 have HRwt := qh (HRs2.out.later hbwt)
 have hp0 := (hbwt.block ws.heap.size (by simp)).trans HS0.out
 obtain ⟨k0, k1, k2, k3, kf, klt⟩ := c160 hp0
 have hc1 := HRwt.out.c1
 have hcz := HRwt.out.fz
 have hcl := HRwt.out.rlt
 clear hbwt hp0
 have HAt2 := qh (HAwt.out.alloc HAwt.out.size (.cells #[.int .i64 (tkA c.l i).kd, .string (tkA c.l i).tx, .int .i64 (tkA c.l i).n, .int .i64 ((tkA c.l i).pl : Int)] 138))
 have HRt2 := qh (HRwt.out.alloc (.cells #[.int .i64 (tkA c.l i).kd, .string (tkA c.l i).tx, .int .i64 (tkA c.l i).n, .int .i64 ((tkA c.l i).pl : Int)] 138))
 have HC := qh (zby c 3 (wt.alloc (.cells #[.int .i64 (tkA c.l i).kd, .string (tkA c.l i).tx, .int .i64 (tkA c.l i).n, .int .i64 ((tkA c.l i).pl : Int)] 138)) i d HRt2.out)
 go_wp2_with fail
 refine cm HC.out ?_
 rintro e w9 ⟨rfl, hb9⟩
 exact ⟨rfl, zq7 rfl (HAt2.out.next (Ap.of hb9))⟩
theorem en135 : ∀ args W, (callFunc 171 args).run Tryz.prog W = .ok (.enter 171 args) W := fun _ _ => by kernel_rfl
theorem en136 : ∀ args W, (callFunc 172 args).run Tryz.prog W = .ok (.enter 172 args) W := fun _ _ => by kernel_rfl
theorem en137 : ∀ args W, (callFunc 173 args).run Tryz.prog W = .ok (.enter 173 args) W := fun _ _ => by kernel_rfl
theorem vl_lt {s : ByteArray} {q : Nat} (h : zxy vlKeys s = some q) : q < 3 := by
 unfold zxy at h
 cases hf : vlKeys.find? (fun e => decide (s = e.1)) with
 | none => rw [hf] at h; cases h
 | some e =>
  rw [hf] at h; have hm := List.mem_of_find?_eq_some hf; simp only [Option.map_some, Option.some.injEq] at h; subst h; simp only [vlKeys, List.mem_cons, List.not_mem_nil, or_false] at hm
  rcases hm with rfl | rfl | rfl <;> decide
theorem alone_any {c : Ctx} {F : Fns} (hF : FC c F) (hN : ∃ k, FNx c.l k F) (hK : FOk F) : Does c 311 NV (zh8 c.l F) := by
 intro w d i r hs ho h
 unfold zh8 at hs
 cases hq : zxy vlKeys (fx c.l i) with
 | some q =>
  have hlt := vl_lt hq; have h3 : q = 0 ∨ q = 1 ∨ q = 2 := by omega
  rw [hq] at hs
  rcases h3 with rfl | rfl | rfl
  ·
   exact al_some 171 en135 w d i r ho 0 hq rfl (fun W hW => inPar_any hF W d i r hs ho hW) h
  ·
   exact al_some 172 en136 w d i r ho 1 hq rfl (fun W hW => object_any hF hN W d i r hs ho hW) h
  ·
   exact al_some 173 en137 w d i r ho 2 hq rfl (fun W hW => lambda_any hF hN hK W d i r hs ho hW) h
 | none =>
  rw [hq] at hs; simp only at hs
  cases hg : sgP 0 (fx c.l i) with
  | some x =>
   rw [hg] at hs; subst hs; exact al_sign w d i x hq hg h
  | none =>
   rw [hg] at hs; simp only at hs
   by_cases h1 : (tkA c.l i).kd = 1
   ·
    rw [if_pos h1] at hs; subst hs; exact al_name w d i hq hg h1 h
   ·
    by_cases h4 : (tkA c.l i).kd = 4
    ·
     rw [if_neg h1, if_pos h4] at hs; subst hs; exact al_str w d i hq hg h4 h
    ·
     by_cases h3 : (tkA c.l i).kd = 3
     ·
      rw [if_neg h1, if_neg h4, if_pos h3] at hs; subst hs; exact al_num w d i hq hg h3 h
     ·
      rw [if_neg h1, if_neg h4, if_neg h3] at hs; subst hs; exact al_bad w d i hq hg h1 h4 h3 h
theorem znz {c : Ctx} {F : Fns} (hF : FC c F) (w : World) (d i : Nat) (r : PR Tr) (hk : (tkA c.l i).kd ≠ 6) (hs : zvy c.l F d i = r) (ho : r ≠ .out) (h : Rdr c w i d) : Calls Tryz.prog 168 #[rPtr c] w (zk3 c w d (EV w.heap.size) r) := by
 have hmf := zk2 c.R 176
 have HKD := qh hk
 clear hk
 have HR0 := qh h
 have HA0 := qh (Ap.refl c.R w.heap.size w)
 have HLT := qh h.rlt
 unfold zvy at hs
 have HS := qh hs
 have HO := qh ho
 clear h hs ho
 go_enter Tryz.func168, Tryz.ntmps168
 have HC := qh (kind_any c w i d HR0.out HKD.out)
 go_wp2_with fail
 refine cm HC.out ?_
 rintro e wk ⟨rfl, hrk, hak⟩
 clear HC
 have HRk := qh hrk
 have HAk := qh (HA0.out.next hak)
 clear hrk hak HR0 HA0
 cases hr : zv4 c.l F d (i + 1) with
 | out =>
  rw [hr] at HS; simp only [zqj] at HS; exact absurd HS.out.symm HO.out
 | bad er p =>
  have HC := qh (inPar_any hF wk d (i + 1) _ rfl (by rw [hr]; nofun) HRk.out)
  rw [hr] at HC HS; simp only [zz6] at HS; clear hr; go_wp2_with fail; refine cm HC.out ?_; intro e w' hp; obtain ⟨rfl, ha⟩ := hp; exact ⟨rfl, zq7 HS.out.symm (HAk.out.next ha)⟩
 | ok x1 j1 =>
  have HC := qh (inPar_any hF wk d (i + 1) _ rfl (by rw [hr]; nofun) HRk.out)
  rw [hr] at HC HS; simp only [zzv] at HS; clear hr; go_wp2_with fail; refine cm HC.out ?_; intro e w1 hp; obtain ⟨⟨v1, rfl, p1, rfl, hn1⟩, hrd, ha⟩ := hp; clear HC; have HA1 := qh (HAk.out.next ha)
  have HR1 := qh hrd; have HN1 := qh (zww hn1 HAk.out.size); clear hn1; clear hrd ha HAk HRk
  cases hr : zq2 c.l F.st d j1 with
  | out =>
   rw [hr] at HS; simp only [zqj] at HS; exact absurd HS.out.symm HO.out
  | bad er p =>
   have HC := qh (deepS hF w1 d j1 HR1.out (by rw [hr]; nofun))
   rw [hr] at HC HS; simp only [zz6] at HS; clear hr; go_wp2_with fail; refine cm HC.out ?_; intro e w' hp; obtain ⟨rfl, ha⟩ := hp; exact ⟨rfl, zq7 HS.out.symm (HA1.out.next ha)⟩
  | ok x2 j2 =>
   have HC := qh (deepS hF w1 d j1 HR1.out (by rw [hr]; nofun))
   rw [hr] at HC HS; simp only [zzv] at HS; clear hr; go_wp2_with fail; refine cm HC.out ?_; intro e w2 hp; obtain ⟨⟨v2, rfl, p2, rfl, hn2⟩, hrd, ha⟩ := hp; clear HC; have HA2 := qh (HA1.out.next ha)
   have HR2 := qh hrd; replace HN1 := qh (zg8 HN1.out ha HLT.out HA1.out.size hn2); clear hn2; clear hrd ha HA1 HR1
   have HC := qh (zqk (zk9 (tkA c.l i).tx) zzx (.slice (some ⟨w2.heap.size, 0, none⟩) 2 2) (w2.alloc (.cells #[nPtr p1, nPtr p2] 22)) ⟨_, _, _, rfl⟩); go_wp2_with fail; refine cm HC.out ?_
   rintro e wn ⟨rfl, rfl⟩; clear HC; go_wp2_with fail; go_ret; obtain ⟨m1, m2, m3⟩ := made HR2.out HA2.out HN1.out (by simp [maxLen]) #[nPtr p1, nPtr p2] rfl 2 rfl (zk9 (tkA c.l i).tx) zzx (w2.heap.size + 1) rfl
   exact ppOk HS.out.symm m1 m2 m3
theorem c113 {b : Nat} {w1 : World} {v0 v1 v2 v3 : Value} (p0 : w1.heap[b]? = some (.cells #[v0, v1, v2, v3] 138)) : C160 b w1 v0 v1 v2 v3 :=
 ⟨by rw [zqy p0]; rfl, by rw [zqy p0]; rfl, by rw [zqy p0]; rfl, by rw [zqy p0]; rfl, zkz p0, zzz p0⟩
theorem value_any {c : Ctx} {F : Fns} (hF : FC c F) : Does c 243 NV (zb7 c.l F) := by
 have hmf := zk2 c.R 243
 intro w d i r hs ho h
 have HR0 := qh h
 have HA0 := qh (Ap.refl c.R w.heap.size w)
 have HLT := qh h.rlt
 unfold zb7 at hs
 have HS := qh hs
 have HO := qh ho
 clear h hs ho
 go_enter Tryz.func243, Tryz.ntmps243
 have HC := qh (zjk c w i d HR0.out)
 unfold tkV at HC
 go_wp2_with fail
 refine cm HC.out ?_
 rintro e wt ⟨rfl, hbwt⟩
 clear HC
 have HAwt := qh (HA0.out.next (Ap.of hbwt))
 have HRwt := qh (HR0.out.later hbwt)
 clear hbwt HR0
 have HAt2 := qh (HAwt.out.alloc HAwt.out.size (.cells #[.int .i64 (tkA c.l i).kd, .string (tkA c.l i).tx, .int .i64 (tkA c.l i).n, .int .i64 ((tkA c.l i).pl : Int)] 138))
 have HRt2 := qh (HRwt.out.alloc (.cells #[.int .i64 (tkA c.l i).kd, .string (tkA c.l i).tx, .int .i64 (tkA c.l i).n, .int .i64 ((tkA c.l i).pl : Int)] 138))
 have HPT : Hid ((wt.alloc (.cells #[.int .i64 (tkA c.l i).kd, .string (tkA c.l i).tx, .int .i64 (tkA c.l i).n, .int .i64 ((tkA c.l i).pl : Int)] 138)).heap[wt.heap.size]? = some (.cells #[.int .i64 (tkA c.l i).kd, .string (tkA c.l i).tx, .int .i64 (tkA c.l i).n, .int .i64 ((tkA c.l i).pl : Int)] 138)) := zqx _ _
 have HTL : Hid (c.R < wt.heap.size) := Nat.lt_of_lt_of_le HLT.out HAwt.out.size
 clear HRwt HAwt
 cases hr : F.pr 2 d i with
 | out =>
  rw [hr] at HS; simp only [zqj] at HS; exact absurd HS.out.symm HO.out
 | bad er p =>
  have HC := qh (hF.pr 2 (by decide) (by decide) (wt.alloc (.cells #[.int .i64 (tkA c.l i).kd, .string (tkA c.l i).tx, .int .i64 (tkA c.l i).n, .int .i64 ((tkA c.l i).pl : Int)] 138)) d i _ rfl (by rw [hr]; nofun) HRt2.out)
  rw [hr] at HC HS; simp only [zz6] at HS; clear hr; go_wp2_with fail; refine cm HC.out ?_; intro e w' hp; obtain ⟨rfl, ha⟩ := hp; exact ⟨rfl, zq7 HS.out.symm (HAt2.out.next ha)⟩
 | ok x1 j1 =>
  have HC := qh (hF.pr 2 (by decide) (by decide) (wt.alloc (.cells #[.int .i64 (tkA c.l i).kd, .string (tkA c.l i).tx, .int .i64 (tkA c.l i).n, .int .i64 ((tkA c.l i).pl : Int)] 138)) d i _ rfl (by rw [hr]; nofun) HRt2.out)
  rw [hr] at HC HS; simp only [zzv] at HS; clear hr; go_wp2_with fail; refine cm HC.out ?_; intro e w1 hp; obtain ⟨⟨v1, rfl, p1, rfl, hn1⟩, hrd, ha⟩ := hp; clear HC; have HA1 := qh (HAt2.out.next ha)
  have HR1 := qh hrd; have HN1 := qh (zww hn1 HAt2.out.size); clear hn1; replace HPT := qh ((ha.block _ (zzz HPT.out) (by have := zzq HTL; omega)).trans HPT.out)
  clear hrd ha HAt2 HRt2; have HC := qh (zx3 c w1 j1 d HR1.out); go_wp2_with fail; refine cm HC.out ?_; rintro e wf ⟨rfl, hbwf⟩; clear HC; have HAwf := qh (HA1.out.next (Ap.of hbwf))
  have HRwf := qh (HR1.out.later hbwf); replace HN1 := qh (zkk HN1.out (Ap.of hbwf) HLT.out); replace HPT := qh ((hbwf.block _ (zzz HPT.out)).trans HPT.out); clear hbwf HR1 HA1
  by_cases hx : fx c.l j1 = tEq
  ·
   rw [if_pos hx] at HS; have bx : ((fx c.l j1).toList == [61]) = true := zfw (b := tEq) rfl hx; have HXX := qh hx; have HMU : Hid (zz0 c.l tEq j1 = .ok () (j1 + 1)) := by
    show _ = _
    unfold zz0; rw [if_pos hx]
   clear hx; obtain ⟨u1, qs, hu1, _, _⟩ := HN1.out.opens; obtain ⟨f10, _, _, _, _⟩ := zzj hu1; clear hu1
   by_cases h23 : x1.kd = 23
   ·
    have b23 : (x1.kd != 23) = false := by rw [h23]; rfl
    rw [if_pos (Or.inl h23)] at HS; clear h23; have HC := qh (zz7 c tEq wf j1 d HRwf.out (by decide)); rw [HMU.out] at HC; go_wp2_with fail; refine cm HC.out ?_; intro e wm hp; obtain ⟨⟨vm, rfl, rfl⟩, hrd, ha⟩ := hp
    clear HC; have HRm := qh hrd; have HAm := qh (HAwf.out.next ha); replace HN1 := qh (zkk HN1.out ha HLT.out); clear hrd ha HRwf HAwf HPT f10
    cases hr : zq2 c.l F.vl d (j1 + 1) with
    | out =>
     rw [hr] at HS; simp only [zqj] at HS; exact absurd HS.out.symm HO.out
    | bad er p =>
     have HC := qh (zdv hF wm d (j1 + 1) HRm.out (by rw [hr]; nofun))
     rw [hr] at HC HS; simp only [zz6] at HS; clear hr; go_wp2_with fail; refine cm HC.out ?_; intro e w' hp; obtain ⟨rfl, ha⟩ := hp; exact ⟨rfl, zq7 HS.out.symm (HAm.out.next ha)⟩
    | ok x2 j2 =>
     have HC := qh (zdv hF wm d (j1 + 1) HRm.out (by rw [hr]; nofun))
     rw [hr] at HC HS; simp only [zzv] at HS; clear hr; go_wp2_with fail; refine cm HC.out ?_; intro e w2 hp; obtain ⟨⟨v2, rfl, p2, rfl, hn2⟩, hrd, ha⟩ := hp; clear HC; have HA2 := qh (HAm.out.next ha)
     have HR2 := qh hrd; replace HN1 := qh (zg8 HN1.out ha HLT.out HAm.out.size hn2); clear hn2; clear hrd ha HAm HRm
     have HC := qh (zqk 24 zzx (.slice (some ⟨w2.heap.size, 0, none⟩) 2 2) (w2.alloc (.cells #[nPtr p1, nPtr p2] 22)) ⟨_, _, _, rfl⟩); go_wp2_with fail; refine cm HC.out ?_; rintro e wn ⟨rfl, rfl⟩; clear HC
     go_wp2_with fail; go_ret; obtain ⟨m1, m2, m3⟩ := made HR2.out HA2.out HN1.out (by simp [maxLen]) #[nPtr p1, nPtr p2] rfl 2 rfl 24 zzx (w2.heap.size + 1) rfl; exact ppOk HS.out.symm m1.nv m2 m3
   ·
    have b23 : (x1.kd != 23) = true := bne_iff_ne.2 h23
    by_cases h36 : x1.kd = 36
    ·
     have b36 : (x1.kd != 36) = false := by rw [h36]; rfl
     rw [if_pos (Or.inr h36)] at HS; clear h23 h36; have HC := qh (zz7 c tEq wf j1 d HRwf.out (by decide)); rw [HMU.out] at HC; go_wp2_with fail; refine cm HC.out ?_; intro e wm hp
     obtain ⟨⟨vm, rfl, rfl⟩, hrd, ha⟩ := hp; clear HC; have HRm := qh hrd; have HAm := qh (HAwf.out.next ha); replace HN1 := qh (zkk HN1.out ha HLT.out); clear hrd ha HRwf HAwf HPT f10
     cases hr : zq2 c.l F.vl d (j1 + 1) with
     | out =>
      rw [hr] at HS; simp only [zqj] at HS; exact absurd HS.out.symm HO.out
     | bad er p =>
      have HC := qh (zdv hF wm d (j1 + 1) HRm.out (by rw [hr]; nofun))
      rw [hr] at HC HS; simp only [zz6] at HS; clear hr; go_wp2_with fail; refine cm HC.out ?_; intro e w' hp; obtain ⟨rfl, ha⟩ := hp; exact ⟨rfl, zq7 HS.out.symm (HAm.out.next ha)⟩
     | ok x2 j2 =>
      have HC := qh (zdv hF wm d (j1 + 1) HRm.out (by rw [hr]; nofun))
      rw [hr] at HC HS; simp only [zzv] at HS; clear hr; go_wp2_with fail; refine cm HC.out ?_; intro e w2 hp; obtain ⟨⟨v2, rfl, p2, rfl, hn2⟩, hrd, ha⟩ := hp; clear HC; have HA2 := qh (HAm.out.next ha)
      have HR2 := qh hrd; replace HN1 := qh (zg8 HN1.out ha HLT.out HAm.out.size hn2); clear hn2; clear hrd ha HAm HRm
      have HC := qh (zqk 24 zzx (.slice (some ⟨w2.heap.size, 0, none⟩) 2 2) (w2.alloc (.cells #[nPtr p1, nPtr p2] 22)) ⟨_, _, _, rfl⟩); go_wp2_with fail; refine cm HC.out ?_; rintro e wn ⟨rfl, rfl⟩; clear HC
      go_wp2_with fail; go_ret; obtain ⟨m1, m2, m3⟩ := made HR2.out HA2.out HN1.out (by simp [maxLen]) #[nPtr p1, nPtr p2] rfl 2 rfl 24 zzx (w2.heap.size + 1) rfl; exact ppOk HS.out.symm m1.nv m2 m3
    ·
     have b36 : (x1.kd != 36) = true := bne_iff_ne.2 h36; rw [if_neg (fun hh => hh.elim h23 h36)] at HS; clear h23 h36; obtain ⟨t0, t1, t2, t3, tf, tlt⟩ := c113 HPT.out; have HC := qh (failAt_any c 1 (tkA c.l i) wf)
     unfold tkV at HC; go_wp2_with fail; refine cm HC.out ?_; rintro e w9 ⟨rfl, hb9⟩; exact ⟨rfl, zq7 HS.out.symm (HAwf.out.next (Ap.of hb9))⟩
  ·
   rw [if_neg hx] at HS; have bx : ((fx c.l j1).toList == [61]) = false := zf3 (b := tEq) rfl hx; clear hx; go_wp2_with fail; go_ret; exact ppOk HS.out.symm ⟨p1, rfl, HN1.out⟩ HRwf.out HAwf.out
end Go.Proofs.YtoimgcjbcbhclaaGreatDoor
