/-
  Values alone.
-/
import Derived.Test.YtodmgaikhbmlnaaGreatDoorTk8
set_option maxRecDepth 100000
set_option maxHeartbeats 16000000
namespace Go.Proofs.YtodmgaikhbmlnaaGreatDoor
open Go.RowKit

/-- A new node without parts, with a number. -/
theorem madeN {c : Ctx} {w W : World} {j d : Nat} (hR : Rdr c W j d) (hA : Ap c.R w.heap.size w W) (kd : Int) (tx : ByteArray) (n : Int) (q : Nat) (hq : q = W.heap.size) :
    NV w.heap.size (W.alloc (nodeObj kd tx n (.slice none 0 0))) (.mk kd tx n []) (nPtr q) ∧ Rdr c (W.alloc (nodeObj kd tx n (.slice none 0 0))) j d ∧ Ap c.R w.heap.size w (W.alloc (nodeObj kd tx n (.slice none 0 0))) := by
  subst hq
  exact ⟨(EV.new (KV.nil _ _) hA.size kd tx n).nv, hR.alloc _, hA.alloc hA.size _⟩
/-- One token further. -/
theorem stepped {c : Ctx} {w W : World} {i d : Nat} (hR : Rdr c W i d) (hA : Ap c.R w.heap.size w W) (hj : i + 1 < c.l.length) :
    Rdr c (W.setCell ⟨c.R, 1, none⟩ (.int .i64 ((i : Int) + 1))) (i + 1) d ∧ Ap c.R w.heap.size w (W.setCell ⟨c.R, 1, none⟩ (.int .i64 ((i : Int) + 1))) :=
  ⟨hR.go2 (i + 1) hj (by omega), hA.setCell (p := ⟨c.R, 1, none⟩) (Or.inr rfl) _⟩

theorem al_some {c : Ctx} (f : Nat) (hen : ∀ args W, (callFunc f args).run Tryz.prog W = .ok (.enter f args) W) (w : World) (d i : Nat) (r : PR Tr) (ho : r ≠ .out) (q : Nat) (hq : look2 vlKeys (fx c.l i) = some q) (hf : vlFn q = f) (hp : ∀ W, Rdr c W i d → Calls Tryz.prog f #[rPtr c] W (PPost c W d (NV W.heap.size) r)) (h : Rdr c w i d) :
    Calls Tryz.prog 278 #[rPtr c] w (PPost c w d (NV w.heap.size) r) := by
  have HL : Hid (∀ W : World, Rdr c W i d → (Instr.lookup 168 (.map (some c.mV)) (.string (fx c.l i)) true).run Tryz.prog W = .ok (.tuple #[.func (.func f) #[.pointer (some ⟨c.R, 0, none⟩)] #[], .bool true]) W) := fun W hW => by
    have := look_vals c (fx c.l i) W hW.base.vals
    rw [hq] at this
    simp only [vlVO, hf] at this
    exact this
  have HR0 := hide h
  have HA0 := hide (Ap.refl c.R w.heap.size w)
  have HP := hide hp
  have HLT := hide h.rlt
  have HO := hide ho
  clear h ho hq hf hp
  go_enter Tryz.func278, Tryz.ntmps278
  go_wp2_with fail
  refine wp_region_held (S := fun W => Rdr c W i d) (by kernel_rfl) ?_
  change wpAnyH _ _ _ _ _ _ _ _ (World.drew _)
  refine wpAnyH_take (i := 0) (v := rPtr c) rfl (by kernel_rfl) (by kernel_rfl) (by kernel_rfl) (fun _ _ _ h => h) (Or.inl ⟨by kernel_rfl, fun W _ => by go_simp⟩) (unhide HR0).drew ?_
  refine wpAnyH_take (i := 1) (v := rPtr c) rfl (by kernel_rfl) (by kernel_rfl) (by kernel_rfl) (fun _ _ _ h => h) (Or.inl ⟨by kernel_rfl, fun W _ => by go_simp⟩) (unhide HR0).drew ?_
  refine wpAnyH_take (i := 2) (v := .pointer (some ⟨c.R, 5, none⟩)) rfl (by kernel_rfl) (by kernel_rfl) (by kernel_rfl) (fun _ _ _ h => h) (Or.inl ⟨by kernel_rfl, fun W _ => by go_simp⟩) (unhide HR0).drew ?_
  refine wpAnyH_take (i := 3) (v := .map (some c.mV)) rfl (by kernel_rfl) (by kernel_rfl) (by kernel_rfl) (fun _ _ _ h => h) (Or.inl ⟨by kernel_rfl, fun W hW => by have hh := Rdr.c5 hW; go_simp⟩) (unhide HR0).drew ?_
  refine wpAnyH_take (i := 4) (v := rPtr c) rfl (by kernel_rfl) (by kernel_rfl) (by kernel_rfl) (fun _ _ _ h => h) (Or.inl ⟨by kernel_rfl, fun W _ => by go_simp⟩) (unhide HR0).drew ?_
  refine wpAnyH_ready (rs := [5]) (by kernel_rfl) (by simp) (AllReadyH.cons rfl (fun K hK => ?_) AllReadyH.nil)
  go_simp
  refine Calls.mono (fixed_any c _ i d (unhide HR0).drew) ?_
  rintro e wq ⟨rfl, hbq⟩
  have HRq := hide ((unhide HR0).drew.later hbq)
  have HAq := hide ((unhide HA0).next (Ap.of ((Below.refl _ _).drew.trans hbq)))
  clear hbq
  refine hK.out _ _ (unhide HRq) (fun _ => ?_)
  clear hK K
  refine wpAnyH_take (i := 6) (v := .tuple #[.func (.func f) #[.pointer (some ⟨c.R, 0, none⟩)] #[], .bool true]) rfl (by kernel_rfl) (by kernel_rfl) (by kernel_rfl) (fun _ _ _ h => h) (Or.inl ⟨by kernel_rfl, fun W hW => by have hh := (unhide HL) W hW; go_simp⟩) (unhide HRq) ?_
  refine wpAnyH_take (i := 7) (v := .tuple #[.func (.func f) #[.pointer (some ⟨c.R, 0, none⟩)] #[], .bool true]) rfl (by kernel_rfl) (by kernel_rfl) (by kernel_rfl) (fun _ _ _ h => h) (Or.inl ⟨by kernel_rfl, fun W _ => by go_simp⟩) (unhide HRq) ?_
  refine wpAnyH_take (i := 8) (v := .func (.func f) #[.pointer (some ⟨c.R, 0, none⟩)] #[]) rfl (by kernel_rfl) (by kernel_rfl) (by kernel_rfl) (fun _ _ _ h => h) (Or.inl ⟨by kernel_rfl, fun W _ => by go_simp⟩) (unhide HRq) ?_
  refine wpAnyH_take (i := 9) (v := .bool true) rfl (by kernel_rfl) (by kernel_rfl) (by kernel_rfl) (fun _ _ _ h => h) (Or.inl ⟨by kernel_rfl, fun W _ => by go_simp⟩) (unhide HRq) ?_
  refine wpAnyH_take (i := 10) (v := .func (.func f) #[.pointer (some ⟨c.R, 0, none⟩)] #[]) rfl (by kernel_rfl) (by kernel_rfl) (by kernel_rfl) (fun _ _ _ h => h) (Or.inl ⟨by kernel_rfl, fun W _ => by go_simp⟩) (unhide HRq) ?_
  refine wpAnyH_take (i := 11) (v := .bool true) rfl (by kernel_rfl) (by kernel_rfl) (by kernel_rfl) (fun _ _ _ h => h) (Or.inl ⟨by kernel_rfl, fun W _ => by go_simp⟩) (unhide HRq) ?_
  refine wpAnyH_done (by kernel_rfl) ?_ _
  go_simp
  have HC : Hid _ := unhide HP wq (unhide HRq)
  go_wp2_with fail
  refine Calls.mono HC.out ?_
  intro e w2 hp
  cases r with
  | out => exact absurd rfl (unhide HO)
  | bad er p =>
    obtain ⟨rfl, ha⟩ := hp
    exact ⟨rfl, ppBad rfl ((unhide HAq).next ha)⟩
  | ok x j =>
    obtain ⟨⟨v, rfl, hv⟩, hrd, ha⟩ := hp
    have HV := hide (NV.mono hv (unhide HAq).size)
    have HR2 := hide hrd
    have HA2 := hide ((unhide HAq).next ha)
    clear hv hrd ha
    go_wp2_with fail
    go_ret
    exact ppOk rfl (unhide HV) (unhide HR2) (unhide HA2)

theorem al_sign {c : Ctx} (w : World) (d i : Nat) (x : Sg) (hq : look2 vlKeys (fx c.l i) = none) (hsg : sgP 0 (fx c.l i) = some x) (h : Rdr c w i d) : Calls Tryz.prog 278 #[rPtr c] w (PPost c w d (NV w.heap.size) (.ok (.mk x.kd noText 0 []) (i + 1))) := by
  have HL : Hid (∀ W : World, Rdr c W i d → (Instr.lookup 168 (.map (some c.mV)) (.string (fx c.l i)) true).run Tryz.prog W = .ok (.tuple #[.nilFunc, .bool false]) W) := fun W hW => by
    have := look_vals c (fx c.l i) W hW.base.vals
    rw [hq] at this
    exact this
  clear hq
  have HR0 := hide h
  have HA0 := hide (Ap.refl c.R w.heap.size w)
  have HLT := hide h.rlt
  have HEN := hide h.base.ends
  have HLL := hide h.lt
  have hL := h.base.len
  have HSG := hide hsg
  have HJ := hide (sgP_lt h.base.ends h.lt hsg)
  clear hsg
  clear h
  go_enter Tryz.func278, Tryz.ntmps278
  go_wp2_with fail
  refine wp_region_held (S := fun W => Rdr c W i d) (by kernel_rfl) ?_
  change wpAnyH _ _ _ _ _ _ _ _ (World.drew _)
  refine wpAnyH_take (i := 0) (v := rPtr c) rfl (by kernel_rfl) (by kernel_rfl) (by kernel_rfl) (fun _ _ _ h => h) (Or.inl ⟨by kernel_rfl, fun W _ => by go_simp⟩) (unhide HR0).drew ?_
  refine wpAnyH_take (i := 1) (v := rPtr c) rfl (by kernel_rfl) (by kernel_rfl) (by kernel_rfl) (fun _ _ _ h => h) (Or.inl ⟨by kernel_rfl, fun W _ => by go_simp⟩) (unhide HR0).drew ?_
  refine wpAnyH_take (i := 2) (v := .pointer (some ⟨c.R, 5, none⟩)) rfl (by kernel_rfl) (by kernel_rfl) (by kernel_rfl) (fun _ _ _ h => h) (Or.inl ⟨by kernel_rfl, fun W _ => by go_simp⟩) (unhide HR0).drew ?_
  refine wpAnyH_take (i := 3) (v := .map (some c.mV)) rfl (by kernel_rfl) (by kernel_rfl) (by kernel_rfl) (fun _ _ _ h => h) (Or.inl ⟨by kernel_rfl, fun W hW => by have hh := Rdr.c5 hW; go_simp⟩) (unhide HR0).drew ?_
  refine wpAnyH_take (i := 4) (v := rPtr c) rfl (by kernel_rfl) (by kernel_rfl) (by kernel_rfl) (fun _ _ _ h => h) (Or.inl ⟨by kernel_rfl, fun W _ => by go_simp⟩) (unhide HR0).drew ?_
  refine wpAnyH_ready (rs := [5]) (by kernel_rfl) (by simp) (AllReadyH.cons rfl (fun K hK => ?_) AllReadyH.nil)
  go_simp
  refine Calls.mono (fixed_any c _ i d (unhide HR0).drew) ?_
  rintro e wq ⟨rfl, hbq⟩
  have HRq := hide ((unhide HR0).drew.later hbq)
  have HAq := hide ((unhide HA0).next (Ap.of ((Below.refl _ _).drew.trans hbq)))
  clear hbq
  refine hK.out _ _ (unhide HRq) (fun _ => ?_)
  clear hK K
  refine wpAnyH_take (i := 6) (v := .tuple #[.nilFunc, .bool false]) rfl (by kernel_rfl) (by kernel_rfl) (by kernel_rfl) (fun _ _ _ h => h) (Or.inl ⟨by kernel_rfl, fun W hW => by have hh := (unhide HL) W hW; go_simp⟩) (unhide HRq) ?_
  refine wpAnyH_take (i := 7) (v := .tuple #[.nilFunc, .bool false]) rfl (by kernel_rfl) (by kernel_rfl) (by kernel_rfl) (fun _ _ _ h => h) (Or.inl ⟨by kernel_rfl, fun W _ => by go_simp⟩) (unhide HRq) ?_
  refine wpAnyH_take (i := 8) (v := .nilFunc) rfl (by kernel_rfl) (by kernel_rfl) (by kernel_rfl) (fun _ _ _ h => h) (Or.inl ⟨by kernel_rfl, fun W _ => by go_simp⟩) (unhide HRq) ?_
  refine wpAnyH_take (i := 9) (v := .bool false) rfl (by kernel_rfl) (by kernel_rfl) (by kernel_rfl) (fun _ _ _ h => h) (Or.inl ⟨by kernel_rfl, fun W _ => by go_simp⟩) (unhide HRq) ?_
  refine wpAnyH_take (i := 10) (v := .nilFunc) rfl (by kernel_rfl) (by kernel_rfl) (by kernel_rfl) (fun _ _ _ h => h) (Or.inl ⟨by kernel_rfl, fun W _ => by go_simp⟩) (unhide HRq) ?_
  refine wpAnyH_take (i := 11) (v := .bool false) rfl (by kernel_rfl) (by kernel_rfl) (by kernel_rfl) (fun _ _ _ h => h) (Or.inl ⟨by kernel_rfl, fun W _ => by go_simp⟩) (unhide HRq) ?_
  refine wpAnyH_done (by kernel_rfl) ?_ _
  go_simp
  have HC := hide (sign_any c 0 wq i d (unhide HRq))
  rw [unhide HSG] at HC
  simp only [sgVO, sgV, Option.isSome] at HC
  go_wp2_with fail
  refine Calls.mono HC.out ?_
  rintro e ws ⟨rfl, hbws⟩
  clear HC
  have HAws := hide ((unhide HAq).next (Ap.of hbws))
  have HRws := hide ((unhide HRq).later hbws)
  clear hbws HRq HAq
  have HAs2 := hide ((unhide HAws).alloc (unhide HAws).size (.cells #[.string x.tx, .int .i64 x.kd, .int .i64 x.parts, .int .i64 x.str] 175))
  have HRs2 := hide ((unhide HRws).alloc (.cells #[.string x.tx, .int .i64 x.kd, .int .i64 x.parts, .int .i64 x.str] 175))
  have hs0 : (ws.alloc (.cells #[.string x.tx, .int .i64 x.kd, .int .i64 x.parts, .int .i64 x.str] 175)).heap[ws.heap.size]? = some (.cells #[.string x.tx, .int .i64 x.kd, .int .i64 x.parts, .int .i64 x.str] 175) := heap_new _ _
  have HS0 := hide hs0
  clear hs0
  have HC := hide (token_any c (ws.alloc (.cells #[.string x.tx, .int .i64 x.kd, .int .i64 x.parts, .int .i64 x.str] 175)) i d (unhide HRs2))
  unfold tkV at HC
  go_wp2_with fail
  refine Calls.mono HC.out ?_
  rintro e wt ⟨rfl, hbwt⟩
  clear HC
  have HAwt := hide ((unhide HAs2).next (Ap.of hbwt))
  have HRwt := hide ((unhide HRs2).later hbwt)
  have hp0 := (hbwt.block ws.heap.size (by simp)).trans (unhide HS0)
  obtain ⟨k0, k1, k2, k3, kf, klt⟩ := c160 hp0
  have hc1 := (unhide HRwt).c1
  have hcz := (unhide HRwt).fz
  have hcl := (unhide HRwt).rlt
  clear hbwt hp0
  have HAt2 := hide ((unhide HAwt).alloc (unhide HAwt).size (.cells #[.int .i64 (tkA c.l i).kd, .string (tkA c.l i).tx, .int .i64 (tkA c.l i).n, .int .i64 ((tkA c.l i).pl : Int)] 123))
  have HRt2 := hide ((unhide HRwt).alloc (.cells #[.int .i64 (tkA c.l i).kd, .string (tkA c.l i).tx, .int .i64 (tkA c.l i).n, .int .i64 ((tkA c.l i).pl : Int)] 123))
  have hi := unhide HJ
  obtain ⟨hsr, hsa⟩ := stepped (unhide HRwt) (unhide HAwt) hi
  have HX := hide (madeN (hsr.alloc (.cells #[.int .i64 (tkA c.l i).kd, .string (tkA c.l i).tx, .int .i64 (tkA c.l i).n, .int .i64 ((tkA c.l i).pl : Int)] 123)) (hsa.alloc hsa.size (.cells #[.int .i64 (tkA c.l i).kd, .string (tkA c.l i).tx, .int .i64 (tkA c.l i).n, .int .i64 ((tkA c.l i).pl : Int)] 123)) x.kd noText 0 (wt.heap.size + 1) (by simp))
  clear hsr hsa
  have HC := hide (node_any x.kd noText (.slice none 0 0) (wt.alloc (.cells #[.int .i64 (tkA c.l i).kd, .string (tkA c.l i).tx, .int .i64 (tkA c.l i).n, .int .i64 ((tkA c.l i).pl : Int)] 123)) ⟨_, _, _, rfl⟩)
  go_wp2_with fail
  refine Calls.mono HC.out ?_
  rintro e wn ⟨rfl, rfl⟩
  clear HC
  go_wp2_with fail
  go_ret
  obtain ⟨m1, m2, m3⟩ := unhide HX
  exact ppOk rfl m1 m2 m3

theorem al_name {c : Ctx} (w : World) (d i : Nat) (hq : look2 vlKeys (fx c.l i) = none) (hsg : sgP 0 (fx c.l i) = none) (hk : (tkA c.l i).kd = 1) (h : Rdr c w i d) : Calls Tryz.prog 278 #[rPtr c] w (PPost c w d (NV w.heap.size) (.ok (.mk 23 (tkA c.l i).tx 0 []) (i + 1))) := by
  have HL : Hid (∀ W : World, Rdr c W i d → (Instr.lookup 168 (.map (some c.mV)) (.string (fx c.l i)) true).run Tryz.prog W = .ok (.tuple #[.nilFunc, .bool false]) W) := fun W hW => by
    have := look_vals c (fx c.l i) W hW.base.vals
    rw [hq] at this
    exact this
  clear hq
  have HR0 := hide h
  have HA0 := hide (Ap.refl c.R w.heap.size w)
  have HLT := hide h.rlt
  have HEN := hide h.base.ends
  have HLL := hide h.lt
  have hL := h.base.len
  have HSG := hide hsg
  clear hsg
  have HJ := hide (next_lt h.base.ends h.lt (by rw [hk]; decide))
  have b1 : ((tkA c.l i).kd == 1) = true := by rw [hk]; decide
  have b4 : ((tkA c.l i).kd == 4) = false := by rw [hk]; decide
  have b3 : ((tkA c.l i).kd == 3) = false := by rw [hk]; decide
  clear hk
  clear h
  go_enter Tryz.func278, Tryz.ntmps278
  go_wp2_with fail
  refine wp_region_held (S := fun W => Rdr c W i d) (by kernel_rfl) ?_
  change wpAnyH _ _ _ _ _ _ _ _ (World.drew _)
  refine wpAnyH_take (i := 0) (v := rPtr c) rfl (by kernel_rfl) (by kernel_rfl) (by kernel_rfl) (fun _ _ _ h => h) (Or.inl ⟨by kernel_rfl, fun W _ => by go_simp⟩) (unhide HR0).drew ?_
  refine wpAnyH_take (i := 1) (v := rPtr c) rfl (by kernel_rfl) (by kernel_rfl) (by kernel_rfl) (fun _ _ _ h => h) (Or.inl ⟨by kernel_rfl, fun W _ => by go_simp⟩) (unhide HR0).drew ?_
  refine wpAnyH_take (i := 2) (v := .pointer (some ⟨c.R, 5, none⟩)) rfl (by kernel_rfl) (by kernel_rfl) (by kernel_rfl) (fun _ _ _ h => h) (Or.inl ⟨by kernel_rfl, fun W _ => by go_simp⟩) (unhide HR0).drew ?_
  refine wpAnyH_take (i := 3) (v := .map (some c.mV)) rfl (by kernel_rfl) (by kernel_rfl) (by kernel_rfl) (fun _ _ _ h => h) (Or.inl ⟨by kernel_rfl, fun W hW => by have hh := Rdr.c5 hW; go_simp⟩) (unhide HR0).drew ?_
  refine wpAnyH_take (i := 4) (v := rPtr c) rfl (by kernel_rfl) (by kernel_rfl) (by kernel_rfl) (fun _ _ _ h => h) (Or.inl ⟨by kernel_rfl, fun W _ => by go_simp⟩) (unhide HR0).drew ?_
  refine wpAnyH_ready (rs := [5]) (by kernel_rfl) (by simp) (AllReadyH.cons rfl (fun K hK => ?_) AllReadyH.nil)
  go_simp
  refine Calls.mono (fixed_any c _ i d (unhide HR0).drew) ?_
  rintro e wq ⟨rfl, hbq⟩
  have HRq := hide ((unhide HR0).drew.later hbq)
  have HAq := hide ((unhide HA0).next (Ap.of ((Below.refl _ _).drew.trans hbq)))
  clear hbq
  refine hK.out _ _ (unhide HRq) (fun _ => ?_)
  clear hK K
  refine wpAnyH_take (i := 6) (v := .tuple #[.nilFunc, .bool false]) rfl (by kernel_rfl) (by kernel_rfl) (by kernel_rfl) (fun _ _ _ h => h) (Or.inl ⟨by kernel_rfl, fun W hW => by have hh := (unhide HL) W hW; go_simp⟩) (unhide HRq) ?_
  refine wpAnyH_take (i := 7) (v := .tuple #[.nilFunc, .bool false]) rfl (by kernel_rfl) (by kernel_rfl) (by kernel_rfl) (fun _ _ _ h => h) (Or.inl ⟨by kernel_rfl, fun W _ => by go_simp⟩) (unhide HRq) ?_
  refine wpAnyH_take (i := 8) (v := .nilFunc) rfl (by kernel_rfl) (by kernel_rfl) (by kernel_rfl) (fun _ _ _ h => h) (Or.inl ⟨by kernel_rfl, fun W _ => by go_simp⟩) (unhide HRq) ?_
  refine wpAnyH_take (i := 9) (v := .bool false) rfl (by kernel_rfl) (by kernel_rfl) (by kernel_rfl) (fun _ _ _ h => h) (Or.inl ⟨by kernel_rfl, fun W _ => by go_simp⟩) (unhide HRq) ?_
  refine wpAnyH_take (i := 10) (v := .nilFunc) rfl (by kernel_rfl) (by kernel_rfl) (by kernel_rfl) (fun _ _ _ h => h) (Or.inl ⟨by kernel_rfl, fun W _ => by go_simp⟩) (unhide HRq) ?_
  refine wpAnyH_take (i := 11) (v := .bool false) rfl (by kernel_rfl) (by kernel_rfl) (by kernel_rfl) (fun _ _ _ h => h) (Or.inl ⟨by kernel_rfl, fun W _ => by go_simp⟩) (unhide HRq) ?_
  refine wpAnyH_done (by kernel_rfl) ?_ _
  go_simp
  have HC := hide (sign_any c 0 wq i d (unhide HRq))
  rw [unhide HSG] at HC
  simp only [sgVO, noSg, Option.isSome] at HC
  go_wp2_with fail
  refine Calls.mono HC.out ?_
  rintro e ws ⟨rfl, hbws⟩
  clear HC
  have HAws := hide ((unhide HAq).next (Ap.of hbws))
  have HRws := hide ((unhide HRq).later hbws)
  clear hbws HRq HAq
  have HAs2 := hide ((unhide HAws).alloc (unhide HAws).size (.cells #[.string ⟨#[]⟩, .int .i64 0, .int .i64 0, .int .i64 0] 175))
  have HRs2 := hide ((unhide HRws).alloc (.cells #[.string ⟨#[]⟩, .int .i64 0, .int .i64 0, .int .i64 0] 175))
  have hs0 : (ws.alloc (.cells #[.string ⟨#[]⟩, .int .i64 0, .int .i64 0, .int .i64 0] 175)).heap[ws.heap.size]? = some (.cells #[.string ⟨#[]⟩, .int .i64 0, .int .i64 0, .int .i64 0] 175) := heap_new _ _
  have HS0 := hide hs0
  clear hs0
  have HC := hide (token_any c (ws.alloc (.cells #[.string ⟨#[]⟩, .int .i64 0, .int .i64 0, .int .i64 0] 175)) i d (unhide HRs2))
  unfold tkV at HC
  go_wp2_with fail
  refine Calls.mono HC.out ?_
  rintro e wt ⟨rfl, hbwt⟩
  clear HC
  have HAwt := hide ((unhide HAs2).next (Ap.of hbwt))
  have HRwt := hide ((unhide HRs2).later hbwt)
  have hp0 := (hbwt.block ws.heap.size (by simp)).trans (unhide HS0)
  obtain ⟨k0, k1, k2, k3, kf, klt⟩ := c160 hp0
  have hc1 := (unhide HRwt).c1
  have hcz := (unhide HRwt).fz
  have hcl := (unhide HRwt).rlt
  clear hbwt hp0
  have HAt2 := hide ((unhide HAwt).alloc (unhide HAwt).size (.cells #[.int .i64 (tkA c.l i).kd, .string (tkA c.l i).tx, .int .i64 (tkA c.l i).n, .int .i64 ((tkA c.l i).pl : Int)] 123))
  have HRt2 := hide ((unhide HRwt).alloc (.cells #[.int .i64 (tkA c.l i).kd, .string (tkA c.l i).tx, .int .i64 (tkA c.l i).n, .int .i64 ((tkA c.l i).pl : Int)] 123))
  have hi := unhide HJ
  obtain ⟨hsr, hsa⟩ := stepped (unhide HRwt) (unhide HAwt) hi
  have HX := hide (madeN (hsr.alloc (.cells #[.int .i64 (tkA c.l i).kd, .string (tkA c.l i).tx, .int .i64 (tkA c.l i).n, .int .i64 ((tkA c.l i).pl : Int)] 123)) (hsa.alloc hsa.size (.cells #[.int .i64 (tkA c.l i).kd, .string (tkA c.l i).tx, .int .i64 (tkA c.l i).n, .int .i64 ((tkA c.l i).pl : Int)] 123)) 23 (tkA c.l i).tx 0 (wt.heap.size + 1) (by simp))
  clear hsr hsa
  have HC := hide (node_any 23 (tkA c.l i).tx (.slice none 0 0) (wt.alloc (.cells #[.int .i64 (tkA c.l i).kd, .string (tkA c.l i).tx, .int .i64 (tkA c.l i).n, .int .i64 ((tkA c.l i).pl : Int)] 123)) ⟨_, _, _, rfl⟩)
  go_wp2_with fail
  refine Calls.mono HC.out ?_
  rintro e wn ⟨rfl, rfl⟩
  clear HC
  go_wp2_with fail
  go_ret
  obtain ⟨m1, m2, m3⟩ := unhide HX
  exact ppOk rfl m1 m2 m3

theorem al_str {c : Ctx} (w : World) (d i : Nat) (hq : look2 vlKeys (fx c.l i) = none) (hsg : sgP 0 (fx c.l i) = none) (hk : (tkA c.l i).kd = 4) (h : Rdr c w i d) : Calls Tryz.prog 278 #[rPtr c] w (PPost c w d (NV w.heap.size) (.ok (.mk 18 (tkA c.l i).tx 0 []) (i + 1))) := by
  have HL : Hid (∀ W : World, Rdr c W i d → (Instr.lookup 168 (.map (some c.mV)) (.string (fx c.l i)) true).run Tryz.prog W = .ok (.tuple #[.nilFunc, .bool false]) W) := fun W hW => by
    have := look_vals c (fx c.l i) W hW.base.vals
    rw [hq] at this
    exact this
  clear hq
  have HR0 := hide h
  have HA0 := hide (Ap.refl c.R w.heap.size w)
  have HLT := hide h.rlt
  have HEN := hide h.base.ends
  have HLL := hide h.lt
  have hL := h.base.len
  have HSG := hide hsg
  clear hsg
  have HJ := hide (next_lt h.base.ends h.lt (by rw [hk]; decide))
  have b1 : ((tkA c.l i).kd == 1) = false := by rw [hk]; decide
  have b4 : ((tkA c.l i).kd == 4) = true := by rw [hk]; decide
  have b3 : ((tkA c.l i).kd == 3) = false := by rw [hk]; decide
  clear hk
  clear h
  go_enter Tryz.func278, Tryz.ntmps278
  go_wp2_with fail
  refine wp_region_held (S := fun W => Rdr c W i d) (by kernel_rfl) ?_
  change wpAnyH _ _ _ _ _ _ _ _ (World.drew _)
  refine wpAnyH_take (i := 0) (v := rPtr c) rfl (by kernel_rfl) (by kernel_rfl) (by kernel_rfl) (fun _ _ _ h => h) (Or.inl ⟨by kernel_rfl, fun W _ => by go_simp⟩) (unhide HR0).drew ?_
  refine wpAnyH_take (i := 1) (v := rPtr c) rfl (by kernel_rfl) (by kernel_rfl) (by kernel_rfl) (fun _ _ _ h => h) (Or.inl ⟨by kernel_rfl, fun W _ => by go_simp⟩) (unhide HR0).drew ?_
  refine wpAnyH_take (i := 2) (v := .pointer (some ⟨c.R, 5, none⟩)) rfl (by kernel_rfl) (by kernel_rfl) (by kernel_rfl) (fun _ _ _ h => h) (Or.inl ⟨by kernel_rfl, fun W _ => by go_simp⟩) (unhide HR0).drew ?_
  refine wpAnyH_take (i := 3) (v := .map (some c.mV)) rfl (by kernel_rfl) (by kernel_rfl) (by kernel_rfl) (fun _ _ _ h => h) (Or.inl ⟨by kernel_rfl, fun W hW => by have hh := Rdr.c5 hW; go_simp⟩) (unhide HR0).drew ?_
  refine wpAnyH_take (i := 4) (v := rPtr c) rfl (by kernel_rfl) (by kernel_rfl) (by kernel_rfl) (fun _ _ _ h => h) (Or.inl ⟨by kernel_rfl, fun W _ => by go_simp⟩) (unhide HR0).drew ?_
  refine wpAnyH_ready (rs := [5]) (by kernel_rfl) (by simp) (AllReadyH.cons rfl (fun K hK => ?_) AllReadyH.nil)
  go_simp
  refine Calls.mono (fixed_any c _ i d (unhide HR0).drew) ?_
  rintro e wq ⟨rfl, hbq⟩
  have HRq := hide ((unhide HR0).drew.later hbq)
  have HAq := hide ((unhide HA0).next (Ap.of ((Below.refl _ _).drew.trans hbq)))
  clear hbq
  refine hK.out _ _ (unhide HRq) (fun _ => ?_)
  clear hK K
  refine wpAnyH_take (i := 6) (v := .tuple #[.nilFunc, .bool false]) rfl (by kernel_rfl) (by kernel_rfl) (by kernel_rfl) (fun _ _ _ h => h) (Or.inl ⟨by kernel_rfl, fun W hW => by have hh := (unhide HL) W hW; go_simp⟩) (unhide HRq) ?_
  refine wpAnyH_take (i := 7) (v := .tuple #[.nilFunc, .bool false]) rfl (by kernel_rfl) (by kernel_rfl) (by kernel_rfl) (fun _ _ _ h => h) (Or.inl ⟨by kernel_rfl, fun W _ => by go_simp⟩) (unhide HRq) ?_
  refine wpAnyH_take (i := 8) (v := .nilFunc) rfl (by kernel_rfl) (by kernel_rfl) (by kernel_rfl) (fun _ _ _ h => h) (Or.inl ⟨by kernel_rfl, fun W _ => by go_simp⟩) (unhide HRq) ?_
  refine wpAnyH_take (i := 9) (v := .bool false) rfl (by kernel_rfl) (by kernel_rfl) (by kernel_rfl) (fun _ _ _ h => h) (Or.inl ⟨by kernel_rfl, fun W _ => by go_simp⟩) (unhide HRq) ?_
  refine wpAnyH_take (i := 10) (v := .nilFunc) rfl (by kernel_rfl) (by kernel_rfl) (by kernel_rfl) (fun _ _ _ h => h) (Or.inl ⟨by kernel_rfl, fun W _ => by go_simp⟩) (unhide HRq) ?_
  refine wpAnyH_take (i := 11) (v := .bool false) rfl (by kernel_rfl) (by kernel_rfl) (by kernel_rfl) (fun _ _ _ h => h) (Or.inl ⟨by kernel_rfl, fun W _ => by go_simp⟩) (unhide HRq) ?_
  refine wpAnyH_done (by kernel_rfl) ?_ _
  go_simp
  have HC := hide (sign_any c 0 wq i d (unhide HRq))
  rw [unhide HSG] at HC
  simp only [sgVO, noSg, Option.isSome] at HC
  go_wp2_with fail
  refine Calls.mono HC.out ?_
  rintro e ws ⟨rfl, hbws⟩
  clear HC
  have HAws := hide ((unhide HAq).next (Ap.of hbws))
  have HRws := hide ((unhide HRq).later hbws)
  clear hbws HRq HAq
  have HAs2 := hide ((unhide HAws).alloc (unhide HAws).size (.cells #[.string ⟨#[]⟩, .int .i64 0, .int .i64 0, .int .i64 0] 175))
  have HRs2 := hide ((unhide HRws).alloc (.cells #[.string ⟨#[]⟩, .int .i64 0, .int .i64 0, .int .i64 0] 175))
  have hs0 : (ws.alloc (.cells #[.string ⟨#[]⟩, .int .i64 0, .int .i64 0, .int .i64 0] 175)).heap[ws.heap.size]? = some (.cells #[.string ⟨#[]⟩, .int .i64 0, .int .i64 0, .int .i64 0] 175) := heap_new _ _
  have HS0 := hide hs0
  clear hs0
  have HC := hide (token_any c (ws.alloc (.cells #[.string ⟨#[]⟩, .int .i64 0, .int .i64 0, .int .i64 0] 175)) i d (unhide HRs2))
  unfold tkV at HC
  go_wp2_with fail
  refine Calls.mono HC.out ?_
  rintro e wt ⟨rfl, hbwt⟩
  clear HC
  have HAwt := hide ((unhide HAs2).next (Ap.of hbwt))
  have HRwt := hide ((unhide HRs2).later hbwt)
  have hp0 := (hbwt.block ws.heap.size (by simp)).trans (unhide HS0)
  obtain ⟨k0, k1, k2, k3, kf, klt⟩ := c160 hp0
  have hc1 := (unhide HRwt).c1
  have hcz := (unhide HRwt).fz
  have hcl := (unhide HRwt).rlt
  clear hbwt hp0
  have HAt2 := hide ((unhide HAwt).alloc (unhide HAwt).size (.cells #[.int .i64 (tkA c.l i).kd, .string (tkA c.l i).tx, .int .i64 (tkA c.l i).n, .int .i64 ((tkA c.l i).pl : Int)] 123))
  have HRt2 := hide ((unhide HRwt).alloc (.cells #[.int .i64 (tkA c.l i).kd, .string (tkA c.l i).tx, .int .i64 (tkA c.l i).n, .int .i64 ((tkA c.l i).pl : Int)] 123))
  have hi := unhide HJ
  obtain ⟨hsr, hsa⟩ := stepped (unhide HRwt) (unhide HAwt) hi
  have HX := hide (madeN (hsr.alloc (.cells #[.int .i64 (tkA c.l i).kd, .string (tkA c.l i).tx, .int .i64 (tkA c.l i).n, .int .i64 ((tkA c.l i).pl : Int)] 123)) (hsa.alloc hsa.size (.cells #[.int .i64 (tkA c.l i).kd, .string (tkA c.l i).tx, .int .i64 (tkA c.l i).n, .int .i64 ((tkA c.l i).pl : Int)] 123)) 18 (tkA c.l i).tx 0 (wt.heap.size + 1) (by simp))
  clear hsr hsa
  have HC := hide (node_any 18 (tkA c.l i).tx (.slice none 0 0) (wt.alloc (.cells #[.int .i64 (tkA c.l i).kd, .string (tkA c.l i).tx, .int .i64 (tkA c.l i).n, .int .i64 ((tkA c.l i).pl : Int)] 123)) ⟨_, _, _, rfl⟩)
  go_wp2_with fail
  refine Calls.mono HC.out ?_
  rintro e wn ⟨rfl, rfl⟩
  clear HC
  go_wp2_with fail
  go_ret
  obtain ⟨m1, m2, m3⟩ := unhide HX
  exact ppOk rfl m1 m2 m3

theorem al_num {c : Ctx} (w : World) (d i : Nat) (hq : look2 vlKeys (fx c.l i) = none) (hsg : sgP 0 (fx c.l i) = none) (hk : (tkA c.l i).kd = 3) (h : Rdr c w i d) : Calls Tryz.prog 278 #[rPtr c] w (PPost c w d (NV w.heap.size) (.ok (.mk 17 noText (tkA c.l i).n []) (i + 1))) := by
  have HL : Hid (∀ W : World, Rdr c W i d → (Instr.lookup 168 (.map (some c.mV)) (.string (fx c.l i)) true).run Tryz.prog W = .ok (.tuple #[.nilFunc, .bool false]) W) := fun W hW => by
    have := look_vals c (fx c.l i) W hW.base.vals
    rw [hq] at this
    exact this
  clear hq
  have HR0 := hide h
  have HA0 := hide (Ap.refl c.R w.heap.size w)
  have HLT := hide h.rlt
  have HEN := hide h.base.ends
  have HLL := hide h.lt
  have hL := h.base.len
  have HSG := hide hsg
  clear hsg
  have HJ := hide (next_lt h.base.ends h.lt (by rw [hk]; decide))
  have b1 : ((tkA c.l i).kd == 1) = false := by rw [hk]; decide
  have b4 : ((tkA c.l i).kd == 4) = false := by rw [hk]; decide
  have b3 : ((tkA c.l i).kd == 3) = true := by rw [hk]; decide
  clear hk
  clear h
  go_enter Tryz.func278, Tryz.ntmps278
  go_wp2_with fail
  refine wp_region_held (S := fun W => Rdr c W i d) (by kernel_rfl) ?_
  change wpAnyH _ _ _ _ _ _ _ _ (World.drew _)
  refine wpAnyH_take (i := 0) (v := rPtr c) rfl (by kernel_rfl) (by kernel_rfl) (by kernel_rfl) (fun _ _ _ h => h) (Or.inl ⟨by kernel_rfl, fun W _ => by go_simp⟩) (unhide HR0).drew ?_
  refine wpAnyH_take (i := 1) (v := rPtr c) rfl (by kernel_rfl) (by kernel_rfl) (by kernel_rfl) (fun _ _ _ h => h) (Or.inl ⟨by kernel_rfl, fun W _ => by go_simp⟩) (unhide HR0).drew ?_
  refine wpAnyH_take (i := 2) (v := .pointer (some ⟨c.R, 5, none⟩)) rfl (by kernel_rfl) (by kernel_rfl) (by kernel_rfl) (fun _ _ _ h => h) (Or.inl ⟨by kernel_rfl, fun W _ => by go_simp⟩) (unhide HR0).drew ?_
  refine wpAnyH_take (i := 3) (v := .map (some c.mV)) rfl (by kernel_rfl) (by kernel_rfl) (by kernel_rfl) (fun _ _ _ h => h) (Or.inl ⟨by kernel_rfl, fun W hW => by have hh := Rdr.c5 hW; go_simp⟩) (unhide HR0).drew ?_
  refine wpAnyH_take (i := 4) (v := rPtr c) rfl (by kernel_rfl) (by kernel_rfl) (by kernel_rfl) (fun _ _ _ h => h) (Or.inl ⟨by kernel_rfl, fun W _ => by go_simp⟩) (unhide HR0).drew ?_
  refine wpAnyH_ready (rs := [5]) (by kernel_rfl) (by simp) (AllReadyH.cons rfl (fun K hK => ?_) AllReadyH.nil)
  go_simp
  refine Calls.mono (fixed_any c _ i d (unhide HR0).drew) ?_
  rintro e wq ⟨rfl, hbq⟩
  have HRq := hide ((unhide HR0).drew.later hbq)
  have HAq := hide ((unhide HA0).next (Ap.of ((Below.refl _ _).drew.trans hbq)))
  clear hbq
  refine hK.out _ _ (unhide HRq) (fun _ => ?_)
  clear hK K
  refine wpAnyH_take (i := 6) (v := .tuple #[.nilFunc, .bool false]) rfl (by kernel_rfl) (by kernel_rfl) (by kernel_rfl) (fun _ _ _ h => h) (Or.inl ⟨by kernel_rfl, fun W hW => by have hh := (unhide HL) W hW; go_simp⟩) (unhide HRq) ?_
  refine wpAnyH_take (i := 7) (v := .tuple #[.nilFunc, .bool false]) rfl (by kernel_rfl) (by kernel_rfl) (by kernel_rfl) (fun _ _ _ h => h) (Or.inl ⟨by kernel_rfl, fun W _ => by go_simp⟩) (unhide HRq) ?_
  refine wpAnyH_take (i := 8) (v := .nilFunc) rfl (by kernel_rfl) (by kernel_rfl) (by kernel_rfl) (fun _ _ _ h => h) (Or.inl ⟨by kernel_rfl, fun W _ => by go_simp⟩) (unhide HRq) ?_
  refine wpAnyH_take (i := 9) (v := .bool false) rfl (by kernel_rfl) (by kernel_rfl) (by kernel_rfl) (fun _ _ _ h => h) (Or.inl ⟨by kernel_rfl, fun W _ => by go_simp⟩) (unhide HRq) ?_
  refine wpAnyH_take (i := 10) (v := .nilFunc) rfl (by kernel_rfl) (by kernel_rfl) (by kernel_rfl) (fun _ _ _ h => h) (Or.inl ⟨by kernel_rfl, fun W _ => by go_simp⟩) (unhide HRq) ?_
  refine wpAnyH_take (i := 11) (v := .bool false) rfl (by kernel_rfl) (by kernel_rfl) (by kernel_rfl) (fun _ _ _ h => h) (Or.inl ⟨by kernel_rfl, fun W _ => by go_simp⟩) (unhide HRq) ?_
  refine wpAnyH_done (by kernel_rfl) ?_ _
  go_simp
  have HC := hide (sign_any c 0 wq i d (unhide HRq))
  rw [unhide HSG] at HC
  simp only [sgVO, noSg, Option.isSome] at HC
  go_wp2_with fail
  refine Calls.mono HC.out ?_
  rintro e ws ⟨rfl, hbws⟩
  clear HC
  have HAws := hide ((unhide HAq).next (Ap.of hbws))
  have HRws := hide ((unhide HRq).later hbws)
  clear hbws HRq HAq
  have HAs2 := hide ((unhide HAws).alloc (unhide HAws).size (.cells #[.string ⟨#[]⟩, .int .i64 0, .int .i64 0, .int .i64 0] 175))
  have HRs2 := hide ((unhide HRws).alloc (.cells #[.string ⟨#[]⟩, .int .i64 0, .int .i64 0, .int .i64 0] 175))
  have hs0 : (ws.alloc (.cells #[.string ⟨#[]⟩, .int .i64 0, .int .i64 0, .int .i64 0] 175)).heap[ws.heap.size]? = some (.cells #[.string ⟨#[]⟩, .int .i64 0, .int .i64 0, .int .i64 0] 175) := heap_new _ _
  have HS0 := hide hs0
  clear hs0
  have HC := hide (token_any c (ws.alloc (.cells #[.string ⟨#[]⟩, .int .i64 0, .int .i64 0, .int .i64 0] 175)) i d (unhide HRs2))
  unfold tkV at HC
  go_wp2_with fail
  refine Calls.mono HC.out ?_
  rintro e wt ⟨rfl, hbwt⟩
  clear HC
  have HAwt := hide ((unhide HAs2).next (Ap.of hbwt))
  have HRwt := hide ((unhide HRs2).later hbwt)
  have hp0 := (hbwt.block ws.heap.size (by simp)).trans (unhide HS0)
  obtain ⟨k0, k1, k2, k3, kf, klt⟩ := c160 hp0
  have hc1 := (unhide HRwt).c1
  have hcz := (unhide HRwt).fz
  have hcl := (unhide HRwt).rlt
  clear hbwt hp0
  have HAt2 := hide ((unhide HAwt).alloc (unhide HAwt).size (.cells #[.int .i64 (tkA c.l i).kd, .string (tkA c.l i).tx, .int .i64 (tkA c.l i).n, .int .i64 ((tkA c.l i).pl : Int)] 123))
  have HRt2 := hide ((unhide HRwt).alloc (.cells #[.int .i64 (tkA c.l i).kd, .string (tkA c.l i).tx, .int .i64 (tkA c.l i).n, .int .i64 ((tkA c.l i).pl : Int)] 123))
  have hi := unhide HJ
  obtain ⟨hsr, hsa⟩ := stepped (unhide HRwt) (unhide HAwt) hi
  have HX := hide (madeN (hsr.alloc (.cells #[.int .i64 (tkA c.l i).kd, .string (tkA c.l i).tx, .int .i64 (tkA c.l i).n, .int .i64 ((tkA c.l i).pl : Int)] 123)) (hsa.alloc hsa.size (.cells #[.int .i64 (tkA c.l i).kd, .string (tkA c.l i).tx, .int .i64 (tkA c.l i).n, .int .i64 ((tkA c.l i).pl : Int)] 123)) 17 noText (tkA c.l i).n (wt.heap.size + 1) (by simp))
  clear hsr hsa
  have HC := hide (node_any 17 noText (.slice none 0 0) (wt.alloc (.cells #[.int .i64 (tkA c.l i).kd, .string (tkA c.l i).tx, .int .i64 (tkA c.l i).n, .int .i64 ((tkA c.l i).pl : Int)] 123)) ⟨_, _, _, rfl⟩)
  go_wp2_with fail
  refine Calls.mono HC.out ?_
  rintro e wn ⟨rfl, rfl⟩
  clear HC
  go_wp2_with fail
  go_ret
  obtain ⟨m1, m2, m3⟩ := unhide HX
  exact ppOk rfl m1 m2 m3

theorem al_bad {c : Ctx} (w : World) (d i : Nat) (hq : look2 vlKeys (fx c.l i) = none) (hsg : sgP 0 (fx c.l i) = none) (h1 : (tkA c.l i).kd ≠ 1) (h4 : (tkA c.l i).kd ≠ 4) (h3 : (tkA c.l i).kd ≠ 3) (h : Rdr c w i d) : Calls Tryz.prog 278 #[rPtr c] w (PPost c w d (NV w.heap.size) (.bad 3 (tkA c.l i).pl)) := by
  have HL : Hid (∀ W : World, Rdr c W i d → (Instr.lookup 168 (.map (some c.mV)) (.string (fx c.l i)) true).run Tryz.prog W = .ok (.tuple #[.nilFunc, .bool false]) W) := fun W hW => by
    have := look_vals c (fx c.l i) W hW.base.vals
    rw [hq] at this
    exact this
  clear hq
  have HR0 := hide h
  have HA0 := hide (Ap.refl c.R w.heap.size w)
  have HLT := hide h.rlt
  have HEN := hide h.base.ends
  have HLL := hide h.lt
  have hL := h.base.len
  have HSG := hide hsg
  clear hsg
  have b1 : ((tkA c.l i).kd == 1) = false := beq_eq_false_iff_ne.2 h1
  have b4 : ((tkA c.l i).kd == 4) = false := beq_eq_false_iff_ne.2 h4
  have b3 : ((tkA c.l i).kd == 3) = false := beq_eq_false_iff_ne.2 h3
  clear h1 h3 h4
  clear h
  go_enter Tryz.func278, Tryz.ntmps278
  go_wp2_with fail
  refine wp_region_held (S := fun W => Rdr c W i d) (by kernel_rfl) ?_
  change wpAnyH _ _ _ _ _ _ _ _ (World.drew _)
  refine wpAnyH_take (i := 0) (v := rPtr c) rfl (by kernel_rfl) (by kernel_rfl) (by kernel_rfl) (fun _ _ _ h => h) (Or.inl ⟨by kernel_rfl, fun W _ => by go_simp⟩) (unhide HR0).drew ?_
  refine wpAnyH_take (i := 1) (v := rPtr c) rfl (by kernel_rfl) (by kernel_rfl) (by kernel_rfl) (fun _ _ _ h => h) (Or.inl ⟨by kernel_rfl, fun W _ => by go_simp⟩) (unhide HR0).drew ?_
  refine wpAnyH_take (i := 2) (v := .pointer (some ⟨c.R, 5, none⟩)) rfl (by kernel_rfl) (by kernel_rfl) (by kernel_rfl) (fun _ _ _ h => h) (Or.inl ⟨by kernel_rfl, fun W _ => by go_simp⟩) (unhide HR0).drew ?_
  refine wpAnyH_take (i := 3) (v := .map (some c.mV)) rfl (by kernel_rfl) (by kernel_rfl) (by kernel_rfl) (fun _ _ _ h => h) (Or.inl ⟨by kernel_rfl, fun W hW => by have hh := Rdr.c5 hW; go_simp⟩) (unhide HR0).drew ?_
  refine wpAnyH_take (i := 4) (v := rPtr c) rfl (by kernel_rfl) (by kernel_rfl) (by kernel_rfl) (fun _ _ _ h => h) (Or.inl ⟨by kernel_rfl, fun W _ => by go_simp⟩) (unhide HR0).drew ?_
  refine wpAnyH_ready (rs := [5]) (by kernel_rfl) (by simp) (AllReadyH.cons rfl (fun K hK => ?_) AllReadyH.nil)
  go_simp
  refine Calls.mono (fixed_any c _ i d (unhide HR0).drew) ?_
  rintro e wq ⟨rfl, hbq⟩
  have HRq := hide ((unhide HR0).drew.later hbq)
  have HAq := hide ((unhide HA0).next (Ap.of ((Below.refl _ _).drew.trans hbq)))
  clear hbq
  refine hK.out _ _ (unhide HRq) (fun _ => ?_)
  clear hK K
  refine wpAnyH_take (i := 6) (v := .tuple #[.nilFunc, .bool false]) rfl (by kernel_rfl) (by kernel_rfl) (by kernel_rfl) (fun _ _ _ h => h) (Or.inl ⟨by kernel_rfl, fun W hW => by have hh := (unhide HL) W hW; go_simp⟩) (unhide HRq) ?_
  refine wpAnyH_take (i := 7) (v := .tuple #[.nilFunc, .bool false]) rfl (by kernel_rfl) (by kernel_rfl) (by kernel_rfl) (fun _ _ _ h => h) (Or.inl ⟨by kernel_rfl, fun W _ => by go_simp⟩) (unhide HRq) ?_
  refine wpAnyH_take (i := 8) (v := .nilFunc) rfl (by kernel_rfl) (by kernel_rfl) (by kernel_rfl) (fun _ _ _ h => h) (Or.inl ⟨by kernel_rfl, fun W _ => by go_simp⟩) (unhide HRq) ?_
  refine wpAnyH_take (i := 9) (v := .bool false) rfl (by kernel_rfl) (by kernel_rfl) (by kernel_rfl) (fun _ _ _ h => h) (Or.inl ⟨by kernel_rfl, fun W _ => by go_simp⟩) (unhide HRq) ?_
  refine wpAnyH_take (i := 10) (v := .nilFunc) rfl (by kernel_rfl) (by kernel_rfl) (by kernel_rfl) (fun _ _ _ h => h) (Or.inl ⟨by kernel_rfl, fun W _ => by go_simp⟩) (unhide HRq) ?_
  refine wpAnyH_take (i := 11) (v := .bool false) rfl (by kernel_rfl) (by kernel_rfl) (by kernel_rfl) (fun _ _ _ h => h) (Or.inl ⟨by kernel_rfl, fun W _ => by go_simp⟩) (unhide HRq) ?_
  refine wpAnyH_done (by kernel_rfl) ?_ _
  go_simp
  have HC := hide (sign_any c 0 wq i d (unhide HRq))
  rw [unhide HSG] at HC
  simp only [sgVO, noSg, Option.isSome] at HC
  go_wp2_with fail
  refine Calls.mono HC.out ?_
  rintro e ws ⟨rfl, hbws⟩
  clear HC
  have HAws := hide ((unhide HAq).next (Ap.of hbws))
  have HRws := hide ((unhide HRq).later hbws)
  clear hbws HRq HAq
  have HAs2 := hide ((unhide HAws).alloc (unhide HAws).size (.cells #[.string ⟨#[]⟩, .int .i64 0, .int .i64 0, .int .i64 0] 175))
  have HRs2 := hide ((unhide HRws).alloc (.cells #[.string ⟨#[]⟩, .int .i64 0, .int .i64 0, .int .i64 0] 175))
  have hs0 : (ws.alloc (.cells #[.string ⟨#[]⟩, .int .i64 0, .int .i64 0, .int .i64 0] 175)).heap[ws.heap.size]? = some (.cells #[.string ⟨#[]⟩, .int .i64 0, .int .i64 0, .int .i64 0] 175) := heap_new _ _
  have HS0 := hide hs0
  clear hs0
  have HC := hide (token_any c (ws.alloc (.cells #[.string ⟨#[]⟩, .int .i64 0, .int .i64 0, .int .i64 0] 175)) i d (unhide HRs2))
  unfold tkV at HC
  go_wp2_with fail
  refine Calls.mono HC.out ?_
  rintro e wt ⟨rfl, hbwt⟩
  clear HC
  have HAwt := hide ((unhide HAs2).next (Ap.of hbwt))
  have HRwt := hide ((unhide HRs2).later hbwt)
  have hp0 := (hbwt.block ws.heap.size (by simp)).trans (unhide HS0)
  obtain ⟨k0, k1, k2, k3, kf, klt⟩ := c160 hp0
  have hc1 := (unhide HRwt).c1
  have hcz := (unhide HRwt).fz
  have hcl := (unhide HRwt).rlt
  clear hbwt hp0
  have HAt2 := hide ((unhide HAwt).alloc (unhide HAwt).size (.cells #[.int .i64 (tkA c.l i).kd, .string (tkA c.l i).tx, .int .i64 (tkA c.l i).n, .int .i64 ((tkA c.l i).pl : Int)] 123))
  have HRt2 := hide ((unhide HRwt).alloc (.cells #[.int .i64 (tkA c.l i).kd, .string (tkA c.l i).tx, .int .i64 (tkA c.l i).n, .int .i64 ((tkA c.l i).pl : Int)] 123))
  have HC := hide (fault_any c 3 (wt.alloc (.cells #[.int .i64 (tkA c.l i).kd, .string (tkA c.l i).tx, .int .i64 (tkA c.l i).n, .int .i64 ((tkA c.l i).pl : Int)] 123)) i d (unhide HRt2))
  go_wp2_with fail
  refine Calls.mono HC.out ?_
  rintro e w9 ⟨rfl, hb9⟩
  exact ⟨rfl, ppBad rfl ((unhide HAt2).next (Ap.of hb9))⟩

end Go.Proofs.YtodmgaikhbmlnaaGreatDoor
