/-
  Statements, and values alone: which part reads them.
-/
import Derived.Test.YtodmgaikhbmlnaaGreatDoorTk8
set_option maxRecDepth 100000
set_option maxHeartbeats 16000000
namespace Go.Proofs.YtodmgaikhbmlnaaGreatDoor
open Go.RowKit

theorem st_some {c : Ctx} (f : Nat) (hen : ∀ args W, (callFunc f args).run Tryz.prog W = .ok (.enter f args) W) (w : World) (d i : Nat) (r : PR Tr) (ho : r ≠ .out) (q : Nat) (hq : look2 stKeys (fx c.l i) = some q) (hf : stFn q = f) (hp : ∀ W, Rdr c W i d → Calls Tryz.prog f #[rPtr c] W (PPost c W d (NV W.heap.size) r)) (h : Rdr c w i d) :
    Calls Tryz.prog 170 #[rPtr c] w (PPost c w d (NV w.heap.size) r) := by
  have HL : Hid (∀ W : World, Rdr c W i d → (Instr.lookup 168 (.map (some c.mT)) (.string (fx c.l i)) true).run Tryz.prog W = .ok (.tuple #[.func (.func f) #[.pointer (some ⟨c.R, 0, none⟩)] #[], .bool true]) W) := fun W hW => by
    have := look_stms c (fx c.l i) W hW.base.stms
    rw [hq] at this
    simp only [stVO, hf] at this
    exact this
  have HR0 := hide h
  have HA0 := hide (Ap.refl c.R w.heap.size w)
  have HP := hide hp
  have HLT := hide h.rlt
  have HO := hide ho
  clear h ho hq hf hp
  go_enter Tryz.func170, Tryz.ntmps170
  go_wp2_with fail
  refine wp_region_held (S := fun W => Rdr c W i d) (by kernel_rfl) ?_
  change wpAnyH _ _ _ _ _ _ _ _ (World.drew _)
  refine wpAnyH_take (i := 0) (v := rPtr c) rfl (by kernel_rfl) (by kernel_rfl) (by kernel_rfl) (fun _ _ _ h => h) (Or.inl ⟨by kernel_rfl, fun W _ => by go_simp⟩) (unhide HR0).drew ?_
  refine wpAnyH_take (i := 1) (v := rPtr c) rfl (by kernel_rfl) (by kernel_rfl) (by kernel_rfl) (fun _ _ _ h => h) (Or.inl ⟨by kernel_rfl, fun W _ => by go_simp⟩) (unhide HR0).drew ?_
  refine wpAnyH_take (i := 2) (v := .pointer (some ⟨c.R, 4, none⟩)) rfl (by kernel_rfl) (by kernel_rfl) (by kernel_rfl) (fun _ _ _ h => h) (Or.inl ⟨by kernel_rfl, fun W _ => by go_simp⟩) (unhide HR0).drew ?_
  refine wpAnyH_take (i := 3) (v := .map (some c.mT)) rfl (by kernel_rfl) (by kernel_rfl) (by kernel_rfl) (fun _ _ _ h => h) (Or.inl ⟨by kernel_rfl, fun W hW => by have hh := Rdr.c4 hW; go_simp⟩) (unhide HR0).drew ?_
  refine wpAnyH_take (i := 4) (v := rPtr c) rfl (by kernel_rfl) (by kernel_rfl) (by kernel_rfl) (fun _ _ _ h => h) (Or.inl ⟨by kernel_rfl, fun W _ => by go_simp⟩) (unhide HR0).drew ?_
  refine wpAnyH_ready (rs := [5]) (by kernel_rfl) (by simp) (AllReadyH.cons rfl (fun K hK => ?_) AllReadyH.nil)
  go_simp
  refine Calls.mono (fixed_any c _ i d (unhide HR0).drew) ?_
  rintro e wq ⟨rfl, hbq⟩
  have HRq := hide ((unhide HR0).drew.later hbq)
  have HAq := hide ((unhide HA0).next (Ap.of ((Below.refl _ _).drew.trans hbq)))
  clear hbq
  refine hK.out _ _ (unhide HRq) (fun _ => ?_)
  clear hK K
  refine wpAnyH_take (i := 6) (v := .tuple #[.func (.func f) #[.pointer (some ⟨c.R, 0, none⟩)] #[], .bool true]) rfl (by kernel_rfl) (by kernel_rfl) (by kernel_rfl) (fun _ _ _ h => h) (Or.inl ⟨by kernel_rfl, fun W hW => by have hh := (unhide HL) W hW; go_simp⟩) (unhide HRq) ?_
  refine wpAnyH_take (i := 7) (v := .tuple #[.func (.func f) #[.pointer (some ⟨c.R, 0, none⟩)] #[], .bool true]) rfl (by kernel_rfl) (by kernel_rfl) (by kernel_rfl) (fun _ _ _ h => h) (Or.inl ⟨by kernel_rfl, fun W _ => by go_simp⟩) (unhide HRq) ?_
  refine wpAnyH_take (i := 8) (v := .func (.func f) #[.pointer (some ⟨c.R, 0, none⟩)] #[]) rfl (by kernel_rfl) (by kernel_rfl) (by kernel_rfl) (fun _ _ _ h => h) (Or.inl ⟨by kernel_rfl, fun W _ => by go_simp⟩) (unhide HRq) ?_
  refine wpAnyH_take (i := 9) (v := .bool true) rfl (by kernel_rfl) (by kernel_rfl) (by kernel_rfl) (fun _ _ _ h => h) (Or.inl ⟨by kernel_rfl, fun W _ => by go_simp⟩) (unhide HRq) ?_
  refine wpAnyH_take (i := 10) (v := .func (.func f) #[.pointer (some ⟨c.R, 0, none⟩)] #[]) rfl (by kernel_rfl) (by kernel_rfl) (by kernel_rfl) (fun _ _ _ h => h) (Or.inl ⟨by kernel_rfl, fun W _ => by go_simp⟩) (unhide HRq) ?_
  refine wpAnyH_take (i := 11) (v := .bool true) rfl (by kernel_rfl) (by kernel_rfl) (by kernel_rfl) (fun _ _ _ h => h) (Or.inl ⟨by kernel_rfl, fun W _ => by go_simp⟩) (unhide HRq) ?_
  refine wpAnyH_done (by kernel_rfl) ?_ _
  go_simp
  have HC : Hid _ := unhide HP wq (unhide HRq)
  go_wp2_with fail
  refine Calls.mono HC.out ?_
  intro e w2 hp
  cases r with
  | out => exact absurd rfl (unhide HO)
  | bad er p =>
    obtain ⟨rfl, ha⟩ := hp
    exact ⟨rfl, ppBad rfl ((unhide HAq).next ha)⟩
  | ok x j =>
    obtain ⟨⟨v, rfl, hv⟩, hrd, ha⟩ := hp
    have HV := hide (NV.mono hv (unhide HAq).size)
    have HR2 := hide hrd
    have HA2 := hide ((unhide HAq).next ha)
    clear hv hrd ha
    go_wp2_with fail
    go_ret
    exact ppOk rfl (unhide HV) (unhide HR2) (unhide HA2)

theorem st_none {c : Ctx} {F : Fns} (hF : FC c F) (w : World) (d i : Nat) (r : PR Tr) (hs : exprP c.l F d i = r) (ho : r ≠ .out) (hq : look2 stKeys (fx c.l i) = none) (h : Rdr c w i d) : Calls Tryz.prog 170 #[rPtr c] w (PPost c w d (NV w.heap.size) r) := by
  have hmf := mf_bound c.R 222
  have HL : Hid (∀ W : World, Rdr c W i d → (Instr.lookup 168 (.map (some c.mT)) (.string (fx c.l i)) true).run Tryz.prog W = .ok (.tuple #[.nilFunc, .bool false]) W) := fun W hW => by
    have := look_stms c (fx c.l i) W hW.base.stms
    rw [hq] at this
    exact this
  clear hq
  have HR0 := hide h
  have HA0 := hide (Ap.refl c.R w.heap.size w)
  have HLT := hide h.rlt
  unfold exprP at hs
  have HS := hide hs
  have HO := hide ho
  clear h hs ho
  go_enter Tryz.func170, Tryz.ntmps170
  go_wp2_with fail
  refine wp_region_held (S := fun W => Rdr c W i d) (by kernel_rfl) ?_
  change wpAnyH _ _ _ _ _ _ _ _ (World.drew _)
  refine wpAnyH_take (i := 0) (v := rPtr c) rfl (by kernel_rfl) (by kernel_rfl) (by kernel_rfl) (fun _ _ _ h => h) (Or.inl ⟨by kernel_rfl, fun W _ => by go_simp⟩) (unhide HR0).drew ?_
  refine wpAnyH_take (i := 1) (v := rPtr c) rfl (by kernel_rfl) (by kernel_rfl) (by kernel_rfl) (fun _ _ _ h => h) (Or.inl ⟨by kernel_rfl, fun W _ => by go_simp⟩) (unhide HR0).drew ?_
  refine wpAnyH_take (i := 2) (v := .pointer (some ⟨c.R, 4, none⟩)) rfl (by kernel_rfl) (by kernel_rfl) (by kernel_rfl) (fun _ _ _ h => h) (Or.inl ⟨by kernel_rfl, fun W _ => by go_simp⟩) (unhide HR0).drew ?_
  refine wpAnyH_take (i := 3) (v := .map (some c.mT)) rfl (by kernel_rfl) (by kernel_rfl) (by kernel_rfl) (fun _ _ _ h => h) (Or.inl ⟨by kernel_rfl, fun W hW => by have hh := Rdr.c4 hW; go_simp⟩) (unhide HR0).drew ?_
  refine wpAnyH_take (i := 4) (v := rPtr c) rfl (by kernel_rfl) (by kernel_rfl) (by kernel_rfl) (fun _ _ _ h => h) (Or.inl ⟨by kernel_rfl, fun W _ => by go_simp⟩) (unhide HR0).drew ?_
  refine wpAnyH_ready (rs := [5]) (by kernel_rfl) (by simp) (AllReadyH.cons rfl (fun K hK => ?_) AllReadyH.nil)
  go_simp
  refine Calls.mono (fixed_any c _ i d (unhide HR0).drew) ?_
  rintro e wq ⟨rfl, hbq⟩
  have HRq := hide ((unhide HR0).drew.later hbq)
  have HAq := hide ((unhide HA0).next (Ap.of ((Below.refl _ _).drew.trans hbq)))
  clear hbq
  refine hK.out _ _ (unhide HRq) (fun _ => ?_)
  clear hK K
  refine wpAnyH_take (i := 6) (v := .tuple #[.nilFunc, .bool false]) rfl (by kernel_rfl) (by kernel_rfl) (by kernel_rfl) (fun _ _ _ h => h) (Or.inl ⟨by kernel_rfl, fun W hW => by have hh := (unhide HL) W hW; go_simp⟩) (unhide HRq) ?_
  refine wpAnyH_take (i := 7) (v := .tuple #[.nilFunc, .bool false]) rfl (by kernel_rfl) (by kernel_rfl) (by kernel_rfl) (fun _ _ _ h => h) (Or.inl ⟨by kernel_rfl, fun W _ => by go_simp⟩) (unhide HRq) ?_
  refine wpAnyH_take (i := 8) (v := .nilFunc) rfl (by kernel_rfl) (by kernel_rfl) (by kernel_rfl) (fun _ _ _ h => h) (Or.inl ⟨by kernel_rfl, fun W _ => by go_simp⟩) (unhide HRq) ?_
  refine wpAnyH_take (i := 9) (v := .bool false) rfl (by kernel_rfl) (by kernel_rfl) (by kernel_rfl) (fun _ _ _ h => h) (Or.inl ⟨by kernel_rfl, fun W _ => by go_simp⟩) (unhide HRq) ?_
  refine wpAnyH_take (i := 10) (v := .nilFunc) rfl (by kernel_rfl) (by kernel_rfl) (by kernel_rfl) (fun _ _ _ h => h) (Or.inl ⟨by kernel_rfl, fun W _ => by go_simp⟩) (unhide HRq) ?_
  refine wpAnyH_take (i := 11) (v := .bool false) rfl (by kernel_rfl) (by kernel_rfl) (by kernel_rfl) (fun _ _ _ h => h) (Or.inl ⟨by kernel_rfl, fun W _ => by go_simp⟩) (unhide HRq) ?_
  refine wpAnyH_done (by kernel_rfl) ?_ _
  go_simp
  cases hr : deepP c.l F.vl d i with
  | out =>
    rw [hr] at HS
    simp only [bind_out] at HS
    exact absurd (unhide HS).symm (unhide HO)
  | bad er p =>
    have HC := hide (deepV hF wq d i (unhide HRq) (by rw [hr]; nofun))
    rw [hr] at HC HS
    simp only [bind_bad] at HS
    clear hr
    go_wp2_with fail
    refine Calls.mono HC.out ?_
    intro e w' hp
    obtain ⟨rfl, ha⟩ := hp
    exact ⟨rfl, ppBad (unhide HS).symm ((unhide HAq).next ha)⟩
  | ok x1 j1 =>
    have HC := hide (deepV hF wq d i (unhide HRq) (by rw [hr]; nofun))
    rw [hr] at HC HS
    simp only [bind_ok] at HS
    clear hr
    go_wp2_with fail
    refine Calls.mono HC.out ?_
    intro e w1 hp
    obtain ⟨⟨v1, rfl, p1, rfl, hn1⟩, hrd, ha⟩ := hp
    clear HC
    have HA1 := hide ((unhide HAq).next ha)
    have HR1 := hide hrd
    have HN1 := hide (nat_mono hn1 (unhide HAq).size)
    clear hn1
    clear hrd ha HAq HRq
    cases hr : mustP c.l tSemi j1 with
    | out =>
      rw [hr] at HS
      simp only [bind_out] at HS
      exact absurd (unhide HS).symm (unhide HO)
    | bad er p =>
      have HC := hide (must_any c tSemi w1 j1 d (unhide HR1) (by decide))
      rw [hr] at HC HS
      simp only [bind_bad] at HS
      clear hr
      go_wp2_with fail
      refine Calls.mono HC.out ?_
      intro e w' hp
      obtain ⟨rfl, ha⟩ := hp
      exact ⟨rfl, ppBad (unhide HS).symm ((unhide HA1).next ha)⟩
    | ok x2 j2 =>
      have HC := hide (must_any c tSemi w1 j1 d (unhide HR1) (by decide))
      rw [hr] at HC HS
      simp only [bind_ok] at HS
      clear hr
      go_wp2_with fail
      refine Calls.mono HC.out ?_
      intro e w2 hp
      obtain ⟨⟨v2, rfl, rfl⟩, hrd, ha⟩ := hp
      clear HC
      have HA2 := hide ((unhide HA1).next ha)
      have HR2 := hide hrd
      replace HN1 := hide (nat_later (unhide HN1) ha (unhide HLT))
      clear hrd ha HA1 HR1
      have HC := hide (node_any 15 noText (.slice (some ⟨w2.heap.size, 0, none⟩) 1 1) (w2.alloc (.cells #[nPtr p1] 22)) ⟨_, _, _, rfl⟩)
      go_wp2_with fail
      refine Calls.mono HC.out ?_
      rintro e wn ⟨rfl, rfl⟩
      clear HC
      go_wp2_with fail
      go_ret
      obtain ⟨m1, m2, m3⟩ := made (unhide HR2) (unhide HA2) (NAts.cons (unhide HN1) NAts.nil) (by simp [maxLen]) #[nPtr p1] rfl 1 rfl 15 noText (w2.heap.size + 1) rfl
      exact ppOk (unhide HS).symm m1.nv m2 m3

end Go.Proofs.YtodmgaikhbmlnaaGreatDoor
