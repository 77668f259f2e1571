/-
  Functions, with a name and without; what stands behind a head.
-/
import Derived.Test.YtodmgaikhbmlnaaGreatDoorTw0
import Derived.Test.YtodmgaikhbmlnaaGreatDoorTw4
set_option maxRecDepth 100000
set_option maxHeartbeats 16000000
namespace Go.Proofs.YtodmgaikhbmlnaaGreatDoor
open Go.RowKit
theorem params_at {c : Ctx} {F : Fns} (w : World) (d i : Nat) (ho : paramsP c.l F i ≠ .out) (h : Rdr c w i d) : Calls Tryz.prog 224 #[rPtr c] w (PPost c w d (NV w.heap.size) (paramsP c.l F i)) :=
 params_any (F := F) w d i _ rfl ho h
theorem func_any {c : Ctx} {F : Fns} (hF : FC c F) (hN : ∃ k, FNx c.l k F) (hK : FOk F) : Does c 158 NV (funcP c.l F) := by
 intro w d i r hs ho h
 have HR0 := hide h
 have HA0 := hide (Ap.refl c.R w.heap.size w)
 have HLT := hide h.rlt
 unfold funcP funcTail at hs
 have HS := hide hs
 have HO := hide ho
 clear h hs ho
 go_enter Tryz.func158, Tryz.ntmps158
 cases hr : mustP c.l tFunction i with
 | out =>
  rw [hr] at HS; simp only [bind_out] at HS; exact absurd HS.out.symm HO.out
 | bad er p =>
  have HC := hide (must_any c tFunction w i d HR0.out (by decide)); rw [hr] at HC HS; simp only [bind_bad] at HS; clear hr; go_wp2_with fail; refine cm HC.out ?_; intro e w' hp; obtain ⟨rfl, ha⟩ := hp
  exact ⟨rfl, ppBad HS.out.symm (HA0.out.next ha)⟩
 | ok x1 j1 =>
  have HC := hide (must_any c tFunction w i d HR0.out (by decide)); rw [hr] at HC HS; simp only [bind_ok] at HS; clear hr; go_wp2_with fail; refine cm HC.out ?_; intro e w1 hp; obtain ⟨⟨v1, rfl, rfl⟩, hrd, ha⟩ := hp
  clear HC; have HA1 := hide (HA0.out.next ha); have HR1 := hide hrd; clear hrd ha HA0 HR0
  cases hr : nameP c.l j1 with
  | out =>
   rw [hr] at HS; simp only [bind_out] at HS; exact absurd HS.out.symm HO.out
  | bad er p =>
   have HC := hide (name_any c w1 j1 d HR1.out); rw [hr] at HC HS; simp only [bind_bad] at HS; clear hr; go_wp2_with fail; refine cm HC.out ?_; intro e w' hp; obtain ⟨rfl, ha⟩ := hp
   exact ⟨rfl, ppBad HS.out.symm (HA1.out.next ha)⟩
  | ok x2 j2 =>
   have HC := hide (name_any c w1 j1 d HR1.out); rw [hr] at HC HS; simp only [bind_ok] at HS; clear hr; go_wp2_with fail; refine cm HC.out ?_; intro e w2 hp; obtain ⟨⟨v2, rfl, rfl⟩, hrd, ha⟩ := hp; clear HC
   have HA2 := hide (HA1.out.next ha); have HR2 := hide hrd; clear hrd ha HA1 HR1
   cases hr : paramsP c.l F j2 with
   | out =>
    rw [hr] at HS; simp only [bind_out] at HS; exact absurd HS.out.symm HO.out
   | bad er p =>
    have HC := hide (params_at (F := F) w2 d j2 (by rw [hr]; nofun) HR2.out)
    rw [hr] at HC HS; simp only [bind_bad] at HS; clear hr; go_wp2_with fail; refine cm HC.out ?_; intro e w' hp; obtain ⟨rfl, ha⟩ := hp; exact ⟨rfl, ppBad HS.out.symm (HA2.out.next ha)⟩
   | ok x3 j3 =>
    have HC := hide (params_at (F := F) w2 d j2 (by rw [hr]; nofun) HR2.out)
    rw [hr] at HC HS; simp only [bind_ok] at HS; clear hr; go_wp2_with fail; refine cm HC.out ?_; intro e w3 hp; obtain ⟨⟨v3, rfl, p3, rfl, hn3⟩, hrd, ha⟩ := hp; clear HC; have HA3 := hide (HA2.out.next ha)
    have HR3 := hide hrd; have HN3 := hide (nat_mono hn3 HA2.out.size); clear hn3; clear hrd ha HA2 HR2; have HNP := hide (NAt.mono (J := fun b => w.heap.size ≤ b ∧ b < w3.heap.size) (fun b hb hl => ⟨hb, hl⟩) _ _ HN3.out)
    cases hr : blockP c.l F d j3 with
    | out =>
     rw [hr] at HS; simp only [bind_out] at HS; exact absurd HS.out.symm HO.out
    | bad er p =>
     have HC := hide (block_any hF hN w3 d j3 _ rfl (by rw [hr]; nofun) HR3.out)
     rw [hr] at HC HS; simp only [bind_bad] at HS; clear hr; go_wp2_with fail; refine cm HC.out ?_; intro e w' hp; obtain ⟨rfl, ha⟩ := hp; exact ⟨rfl, ppBad HS.out.symm (HA3.out.next ha)⟩
    | ok tb jb =>
     have HX := hide (blockP_exprOk hK hr); have HC := hide (block_any hF hN w3 d j3 _ rfl (by rw [hr]; nofun) HR3.out)
     rw [hr] at HC HS; simp only [bind_ok] at HS; clear hr; go_wp2_with fail; refine cm HC.out ?_; intro e wb hp; obtain ⟨⟨vb, rfl, hn⟩, hrd, ha⟩ := hp; clear HC; have HAb := hide (HA3.out.next ha); have HRb := hide hrd
     have HLb := hide HLT.out; replace HNP := hide (NAt.later (fun b hb _ => ha.block b hb.2 (by have h1 := unhide HLT; have h2 := hb.1; omega)) _ _ HNP.out)
     have HC := hide (code_any w3.heap.size tb vb wb hn HX.out); clear hn hrd ha; go_wp2_with fail; refine cm HC.out ?_; rintro e wc ⟨rfl, hev, hbw⟩; clear HC
     have HAc := hide (HAb.out.trans ((Ap.of hbw).mono HA3.out.size)); have HRc := hide (HRb.out.ap hbw HR3.out.base.size)
     replace HNP := hide (NAt.mono (J := From w.heap.size) (fun b hb _ => hb.1) _ _ (NAt.later (fun b hb _ => hbw.block b hb.2) _ _ HNP.out)); obtain ⟨pb, rfl, hnb⟩ := hev.nv; have HNB := hide (nat_mono hnb HA3.out.size)
     clear hev hbw hnb; have HC := hide (node_any 5 x2 (.slice (some ⟨wc.heap.size, 0, none⟩) 2 2) (wc.alloc (.cells #[nPtr p3, nPtr pb] 22)) ⟨_, _, _, rfl⟩); go_wp2_with fail; refine cm HC.out ?_; rintro e wn ⟨rfl, rfl⟩
     clear HC; go_wp2_with fail; go_ret; obtain ⟨m1, m2, m3⟩ := made HRc.out HAc.out (NAts.cons HNP.out (NAts.cons HNB.out NAts.nil)) (by simp [maxLen]) #[nPtr p3, nPtr pb] rfl 2 rfl 5 x2 (wc.heap.size + 1) rfl
     exact ppOk HS.out.symm m1.nv m2 m3
theorem lambda_any {c : Ctx} {F : Fns} (hF : FC c F) (hN : ∃ k, FNx c.l k F) (hK : FOk F) : Does c 167 NV (lambdaP c.l F) := by
 intro w d i r hs ho h
 have HR0 := hide h
 have HA0 := hide (Ap.refl c.R w.heap.size w)
 have HLT := hide h.rlt
 unfold lambdaP funcTail at hs
 have HS := hide hs
 have HO := hide ho
 clear h hs ho
 go_enter Tryz.func167, Tryz.ntmps167
 cases hr : mustP c.l tFunction i with
 | out =>
  rw [hr] at HS; simp only [bind_out] at HS; exact absurd HS.out.symm HO.out
 | bad er p =>
  have HC := hide (must_any c tFunction w i d HR0.out (by decide)); rw [hr] at HC HS; simp only [bind_bad] at HS; clear hr; go_wp2_with fail; refine cm HC.out ?_; intro e w' hp; obtain ⟨rfl, ha⟩ := hp
  exact ⟨rfl, ppBad HS.out.symm (HA0.out.next ha)⟩
 | ok x1 j1 =>
  have HC := hide (must_any c tFunction w i d HR0.out (by decide)); rw [hr] at HC HS; simp only [bind_ok] at HS; clear hr; go_wp2_with fail; refine cm HC.out ?_; intro e w1 hp; obtain ⟨⟨v1, rfl, rfl⟩, hrd, ha⟩ := hp
  clear HC; have HA1 := hide (HA0.out.next ha); have HR1 := hide hrd; clear hrd ha HA0 HR0; have HC := hide (atName_any c w1 j1 d HR1.out)
  cases hb : isName c.l j1 with
  | true =>
   rw [hb] at HC HS; rw [if_pos rfl] at HS; clear hb; go_wp2_with fail; refine cm HC.out ?_; rintro e wq ⟨rfl, hbq⟩; clear HC; have HAq := hide (HA1.out.next (Ap.of hbq)); have HRq := hide (HR1.out.later hbq)
   clear hbq HA1 HR1
   cases hr : nameP c.l j1 with
   | out =>
    rw [hr] at HS; simp only [bind_out] at HS; exact absurd HS.out.symm HO.out
   | bad er p =>
    have HC := hide (name_any c wq j1 d HRq.out); rw [hr] at HC HS; simp only [bind_bad] at HS; clear hr; go_wp2_with fail; refine cm HC.out ?_; intro e w' hp; obtain ⟨rfl, ha⟩ := hp
    exact ⟨rfl, ppBad HS.out.symm (HAq.out.next ha)⟩
   | ok x2 j2 =>
    have HC := hide (name_any c wq j1 d HRq.out); rw [hr] at HC HS; simp only [bind_ok] at HS; clear hr; go_wp2_with fail; refine cm HC.out ?_; intro e w2 hp; obtain ⟨⟨v2, rfl, rfl⟩, hrd, ha⟩ := hp; clear HC
    have HA2 := hide (HAq.out.next ha); have HR2 := hide hrd; clear hrd ha HAq HRq
    cases hr : paramsP c.l F j2 with
    | out =>
     rw [hr] at HS; simp only [bind_out] at HS; exact absurd HS.out.symm HO.out
    | bad er p =>
     have HC := hide (params_at (F := F) w2 d j2 (by rw [hr]; nofun) HR2.out)
     rw [hr] at HC HS; simp only [bind_bad] at HS; clear hr; go_wp2_with fail; refine cm HC.out ?_; intro e w' hp; obtain ⟨rfl, ha⟩ := hp; exact ⟨rfl, ppBad HS.out.symm (HA2.out.next ha)⟩
    | ok x3 j3 =>
     have HC := hide (params_at (F := F) w2 d j2 (by rw [hr]; nofun) HR2.out)
     rw [hr] at HC HS; simp only [bind_ok] at HS; clear hr; go_wp2_with fail; refine cm HC.out ?_; intro e w3 hp; obtain ⟨⟨v3, rfl, p3, rfl, hn3⟩, hrd, ha⟩ := hp; clear HC; have HA3 := hide (HA2.out.next ha)
     have HR3 := hide hrd; have HN3 := hide (nat_mono hn3 HA2.out.size); clear hn3; clear hrd ha HA2 HR2; have HNP := hide (NAt.mono (J := fun b => w.heap.size ≤ b ∧ b < w3.heap.size) (fun b hb hl => ⟨hb, hl⟩) _ _ HN3.out)
     cases hr : blockP c.l F d j3 with
     | out =>
      rw [hr] at HS; simp only [bind_out] at HS; exact absurd HS.out.symm HO.out
     | bad er p =>
      have HC := hide (block_any hF hN w3 d j3 _ rfl (by rw [hr]; nofun) HR3.out)
      rw [hr] at HC HS; simp only [bind_bad] at HS; clear hr; go_wp2_with fail; refine cm HC.out ?_; intro e w' hp; obtain ⟨rfl, ha⟩ := hp; exact ⟨rfl, ppBad HS.out.symm (HA3.out.next ha)⟩
     | ok tb jb =>
      have HX := hide (blockP_exprOk hK hr); have HC := hide (block_any hF hN w3 d j3 _ rfl (by rw [hr]; nofun) HR3.out)
      rw [hr] at HC HS; simp only [bind_ok] at HS; clear hr; go_wp2_with fail; refine cm HC.out ?_; intro e wb hp; obtain ⟨⟨vb, rfl, hn⟩, hrd, ha⟩ := hp; clear HC; have HAb := hide (HA3.out.next ha); have HRb := hide hrd
      have HLb := hide HLT.out; replace HNP := hide (NAt.later (fun b hb _ => ha.block b hb.2 (by have h1 := unhide HLT; have h2 := hb.1; omega)) _ _ HNP.out)
      have HC := hide (code_any w3.heap.size tb vb wb hn HX.out); clear hn hrd ha; go_wp2_with fail; refine cm HC.out ?_; rintro e wc ⟨rfl, hev, hbw⟩; clear HC
      have HAc := hide (HAb.out.trans ((Ap.of hbw).mono HA3.out.size)); have HRc := hide (HRb.out.ap hbw HR3.out.base.size)
      replace HNP := hide (NAt.mono (J := From w.heap.size) (fun b hb _ => hb.1) _ _ (NAt.later (fun b hb _ => hbw.block b hb.2) _ _ HNP.out)); obtain ⟨pb, rfl, hnb⟩ := hev.nv; have HNB := hide (nat_mono hnb HA3.out.size)
      clear hev hbw hnb; have HC := hide (node_any 37 x2 (.slice (some ⟨wc.heap.size, 0, none⟩) 2 2) (wc.alloc (.cells #[nPtr p3, nPtr pb] 22)) ⟨_, _, _, rfl⟩); go_wp2_with fail; refine cm HC.out ?_; rintro e wn ⟨rfl, rfl⟩
      clear HC; go_wp2_with fail; go_ret; obtain ⟨m1, m2, m3⟩ := made HRc.out HAc.out (NAts.cons HNP.out (NAts.cons HNB.out NAts.nil)) (by simp [maxLen]) #[nPtr p3, nPtr pb] rfl 2 rfl 37 x2 (wc.heap.size + 1) rfl
      exact ppOk HS.out.symm m1.nv m2 m3
  | false =>
   rw [hb] at HC HS; rw [if_neg (by decide)] at HS; clear hb; go_wp2_with fail; refine cm HC.out ?_; rintro e wq ⟨rfl, hbq⟩; clear HC; have HAq := hide (HA1.out.next (Ap.of hbq)); have HRq := hide (HR1.out.later hbq)
   clear hbq HA1 HR1
   cases hr : paramsP c.l F j1 with
   | out =>
    rw [hr] at HS; simp only [bind_out] at HS; exact absurd HS.out.symm HO.out
   | bad er p =>
    have HC := hide (params_at (F := F) wq d j1 (by rw [hr]; nofun) HRq.out)
    rw [hr] at HC HS; simp only [bind_bad] at HS; clear hr; go_wp2_with fail; refine cm HC.out ?_; intro e w' hp; obtain ⟨rfl, ha⟩ := hp; exact ⟨rfl, ppBad HS.out.symm (HAq.out.next ha)⟩
   | ok x2 j2 =>
    have HC := hide (params_at (F := F) wq d j1 (by rw [hr]; nofun) HRq.out)
    rw [hr] at HC HS; simp only [bind_ok] at HS; clear hr; go_wp2_with fail; refine cm HC.out ?_; intro e w2 hp; obtain ⟨⟨v2, rfl, p2, rfl, hn2⟩, hrd, ha⟩ := hp; clear HC; have HA2 := hide (HAq.out.next ha)
    have HR2 := hide hrd; have HN2 := hide (nat_mono hn2 HAq.out.size); clear hn2; clear hrd ha HAq HRq; have HNP := hide (NAt.mono (J := fun b => w.heap.size ≤ b ∧ b < w2.heap.size) (fun b hb hl => ⟨hb, hl⟩) _ _ HN2.out)
    cases hr : blockP c.l F d j2 with
    | out =>
     rw [hr] at HS; simp only [bind_out] at HS; exact absurd HS.out.symm HO.out
    | bad er p =>
     have HC := hide (block_any hF hN w2 d j2 _ rfl (by rw [hr]; nofun) HR2.out)
     rw [hr] at HC HS; simp only [bind_bad] at HS; clear hr; go_wp2_with fail; refine cm HC.out ?_; intro e w' hp; obtain ⟨rfl, ha⟩ := hp; exact ⟨rfl, ppBad HS.out.symm (HA2.out.next ha)⟩
    | ok tb jb =>
     have HX := hide (blockP_exprOk hK hr); have HC := hide (block_any hF hN w2 d j2 _ rfl (by rw [hr]; nofun) HR2.out)
     rw [hr] at HC HS; simp only [bind_ok] at HS; clear hr; go_wp2_with fail; refine cm HC.out ?_; intro e wb hp; obtain ⟨⟨vb, rfl, hn⟩, hrd, ha⟩ := hp; clear HC; have HAb := hide (HA2.out.next ha); have HRb := hide hrd
     have HLb := hide HLT.out; replace HNP := hide (NAt.later (fun b hb _ => ha.block b hb.2 (by have h1 := unhide HLT; have h2 := hb.1; omega)) _ _ HNP.out)
     have HC := hide (code_any w2.heap.size tb vb wb hn HX.out); clear hn hrd ha; go_wp2_with fail; refine cm HC.out ?_; rintro e wc ⟨rfl, hev, hbw⟩; clear HC
     have HAc := hide (HAb.out.trans ((Ap.of hbw).mono HA2.out.size)); have HRc := hide (HRb.out.ap hbw HR2.out.base.size)
     replace HNP := hide (NAt.mono (J := From w.heap.size) (fun b hb _ => hb.1) _ _ (NAt.later (fun b hb _ => hbw.block b hb.2) _ _ HNP.out)); obtain ⟨pb, rfl, hnb⟩ := hev.nv; have HNB := hide (nat_mono hnb HA2.out.size)
     clear hev hbw hnb; have HC := hide (node_any 37 noText (.slice (some ⟨wc.heap.size, 0, none⟩) 2 2) (wc.alloc (.cells #[nPtr p2, nPtr pb] 22)) ⟨_, _, _, rfl⟩); go_wp2_with fail; refine cm HC.out ?_
     rintro e wn ⟨rfl, rfl⟩; clear HC; go_wp2_with fail; go_ret
     obtain ⟨m1, m2, m3⟩ := made HRc.out HAc.out (NAts.cons HNP.out (NAts.cons HNB.out NAts.nil)) (by simp [maxLen]) #[nPtr p2, nPtr pb] rfl 2 rfl 37 noText (wc.heap.size + 1) rfl; exact ppOk HS.out.symm m1.nv m2 m3
theorem st_some {c : Ctx} (f : Nat) (hen : ∀ args W, (callFunc f args).run Tryz.prog W = .ok (.enter f args) W) (w : World) (d i : Nat) (r : PR Tr) (ho : r ≠ .out) (q : Nat) (hq : look2 stKeys (fx c.l i) = some q) (hf : stFn q = f) (hp : ∀ W, Rdr c W i d → Calls Tryz.prog f #[rPtr c] W (PPost c W d (NV W.heap.size) r)) (h : Rdr c w i d) :
  Calls Tryz.prog 170 #[rPtr c] w (PPost c w d (NV w.heap.size) r) := by
 have HL : Hid (∀ W : World, Rdr c W i d → (Instr.lookup 168 (.map (some c.mT)) (.string (fx c.l i)) true).run Tryz.prog W = .ok (.tuple #[.func (.func f) #[.pointer (some ⟨c.R, 0, none⟩)] #[], .bool true]) W) := fun W hW => by
  have := look_stms c (fx c.l i) W hW.base.stms; rw [hq] at this; simp only [stVO, hf] at this; exact this
 have HR0 := hide h
 have HA0 := hide (Ap.refl c.R w.heap.size w)
 have HP := hide hp
 have HLT := hide h.rlt
 have HO := hide ho
 clear h ho hq hf hp
 go_enter Tryz.func170, Tryz.ntmps170
 go_wp2_with fail
 refine wp_region_held (S := fun W => Rdr c W i d) (by kernel_rfl) ?_
 change wpAnyH _ _ _ _ _ _ _ _ (World.drew _)
 refine wh 0 (rPtr c) HR0.out.drew ?_
 refine wh 1 (rPtr c) HR0.out.drew ?_
 refine wh 2 (.pointer (some ⟨c.R, 4, none⟩)) HR0.out.drew ?_
 refine wg 3 (.map (some c.mT)) rfl (Or.inl ⟨by kernel_rfl, fun W hW => by have hh := Rdr.c4 hW; go_simp⟩) HR0.out.drew ?_
 refine wh 4 (rPtr c) HR0.out.drew ?_
 refine wq1 5 fun K hK => ?_
 go_simp
 refine cm (fixed_any c _ i d HR0.out.drew) ?_
 rintro e wq ⟨rfl, hbq⟩
 have HRq := hide (HR0.out.drew.later hbq)
 have HAq := hide (HA0.out.next (Ap.of ((Below.refl _ _).drew.trans hbq)))
 clear hbq
 refine hK.out _ _ HRq.out (fun _ => ?_)
 clear hK K
 refine wg 6 (.tuple #[.func (.func f) #[.pointer (some ⟨c.R, 0, none⟩)] #[], .bool true]) rfl (Or.inl ⟨by kernel_rfl, fun W hW => by have hh := HL.out W hW; go_simp⟩) HRq.out ?_
 refine wh 7 (.tuple #[.func (.func f) #[.pointer (some ⟨c.R, 0, none⟩)] #[], .bool true]) HRq.out ?_
 refine wh 8 (.func (.func f) #[.pointer (some ⟨c.R, 0, none⟩)] #[]) HRq.out ?_
 refine wh 9 (.bool true) HRq.out ?_
 refine wh 10 (.func (.func f) #[.pointer (some ⟨c.R, 0, none⟩)] #[]) HRq.out ?_
 refine wh 11 (.bool true) HRq.out ?_
 refine wpAnyH_done (by kernel_rfl) ?_ _
 go_simp
 have HC : Hid _ := unhide HP wq HRq.out
 go_wp2_with fail
 refine cm HC.out ?_
 intro e w2 hp
 cases r with
 | out => exact absurd rfl HO.out
 | bad er p =>
  obtain ⟨rfl, ha⟩ := hp; exact ⟨rfl, ppBad rfl (HAq.out.next ha)⟩
 | ok x j =>
  obtain ⟨⟨v, rfl, hv⟩, hrd, ha⟩ := hp; have HV := hide (NV.mono hv HAq.out.size); have HR2 := hide hrd; have HA2 := hide (HAq.out.next ha); clear hv hrd ha; go_wp2_with fail; go_ret; exact ppOk rfl HV.out HR2.out HA2.out
theorem st_none {c : Ctx} {F : Fns} (hF : FC c F) (w : World) (d i : Nat) (r : PR Tr) (hs : exprP c.l F d i = r) (ho : r ≠ .out) (hq : look2 stKeys (fx c.l i) = none) (h : Rdr c w i d) : Calls Tryz.prog 170 #[rPtr c] w (PPost c w d (NV w.heap.size) r) := by
 have hmf := mf_bound c.R 222
 have HL : Hid (∀ W : World, Rdr c W i d → (Instr.lookup 168 (.map (some c.mT)) (.string (fx c.l i)) true).run Tryz.prog W = .ok (.tuple #[.nilFunc, .bool false]) W) := fun W hW => by
  have := look_stms c (fx c.l i) W hW.base.stms; rw [hq] at this; exact this
 clear hq
 have HR0 := hide h
 have HA0 := hide (Ap.refl c.R w.heap.size w)
 have HLT := hide h.rlt
 unfold exprP at hs
 have HS := hide hs
 have HO := hide ho
 clear h hs ho
 go_enter Tryz.func170, Tryz.ntmps170
 go_wp2_with fail
 refine wp_region_held (S := fun W => Rdr c W i d) (by kernel_rfl) ?_
 change wpAnyH _ _ _ _ _ _ _ _ (World.drew _)
 refine wh 0 (rPtr c) HR0.out.drew ?_
 refine wh 1 (rPtr c) HR0.out.drew ?_
 refine wh 2 (.pointer (some ⟨c.R, 4, none⟩)) HR0.out.drew ?_
 refine wg 3 (.map (some c.mT)) rfl (Or.inl ⟨by kernel_rfl, fun W hW => by have hh := Rdr.c4 hW; go_simp⟩) HR0.out.drew ?_
 refine wh 4 (rPtr c) HR0.out.drew ?_
 refine wq1 5 fun K hK => ?_
 go_simp
 refine cm (fixed_any c _ i d HR0.out.drew) ?_
 rintro e wq ⟨rfl, hbq⟩
 have HRq := hide (HR0.out.drew.later hbq)
 have HAq := hide (HA0.out.next (Ap.of ((Below.refl _ _).drew.trans hbq)))
 clear hbq
 refine hK.out _ _ HRq.out (fun _ => ?_)
 clear hK K
 refine wg 6 (.tuple #[.nilFunc, .bool false]) rfl (Or.inl ⟨by kernel_rfl, fun W hW => by have hh := HL.out W hW; go_simp⟩) HRq.out ?_
 refine wh 7 (.tuple #[.nilFunc, .bool false]) HRq.out ?_
 refine wh 8 .nilFunc HRq.out ?_
 refine wh 9 (.bool false) HRq.out ?_
 refine wh 10 .nilFunc HRq.out ?_
 refine wh 11 (.bool false) HRq.out ?_
 refine wpAnyH_done (by kernel_rfl) ?_ _
 go_simp
 cases hr : deepP c.l F.vl d i with
 | out =>
  rw [hr] at HS; simp only [bind_out] at HS; exact absurd HS.out.symm HO.out
 | bad er p =>
  have HC := hide (deepV hF wq d i HRq.out (by rw [hr]; nofun))
  rw [hr] at HC HS; simp only [bind_bad] at HS; clear hr; go_wp2_with fail; refine cm HC.out ?_; intro e w' hp; obtain ⟨rfl, ha⟩ := hp; exact ⟨rfl, ppBad HS.out.symm (HAq.out.next ha)⟩
 | ok x1 j1 =>
  have HC := hide (deepV hF wq d i HRq.out (by rw [hr]; nofun))
  rw [hr] at HC HS; simp only [bind_ok] at HS; clear hr; go_wp2_with fail; refine cm HC.out ?_; intro e w1 hp; obtain ⟨⟨v1, rfl, p1, rfl, hn1⟩, hrd, ha⟩ := hp; clear HC; have HA1 := hide (HAq.out.next ha)
  have HR1 := hide hrd; have HN1 := hide (nat_mono hn1 HAq.out.size); clear hn1; clear hrd ha HAq HRq
  cases hr : mustP c.l tSemi j1 with
  | out =>
   rw [hr] at HS; simp only [bind_out] at HS; exact absurd HS.out.symm HO.out
  | bad er p =>
   have HC := hide (must_any c tSemi w1 j1 d HR1.out (by decide)); rw [hr] at HC HS; simp only [bind_bad] at HS; clear hr; go_wp2_with fail; refine cm HC.out ?_; intro e w' hp; obtain ⟨rfl, ha⟩ := hp
   exact ⟨rfl, ppBad HS.out.symm (HA1.out.next ha)⟩
  | ok x2 j2 =>
   have HC := hide (must_any c tSemi w1 j1 d HR1.out (by decide)); rw [hr] at HC HS; simp only [bind_ok] at HS; clear hr; go_wp2_with fail; refine cm HC.out ?_; intro e w2 hp; obtain ⟨⟨v2, rfl, rfl⟩, hrd, ha⟩ := hp
   clear HC; have HA2 := hide (HA1.out.next ha); have HR2 := hide hrd; replace HN1 := hide (nat_later HN1.out ha HLT.out); clear hrd ha HA1 HR1
   have HC := hide (node_any 15 noText (.slice (some ⟨w2.heap.size, 0, none⟩) 1 1) (w2.alloc (.cells #[nPtr p1] 22)) ⟨_, _, _, rfl⟩); go_wp2_with fail; refine cm HC.out ?_; rintro e wn ⟨rfl, rfl⟩; clear HC
   go_wp2_with fail; go_ret; obtain ⟨m1, m2, m3⟩ := made HR2.out HA2.out (NAts.cons HN1.out NAts.nil) (by simp [maxLen]) #[nPtr p1] rfl 1 rfl 15 noText (w2.heap.size + 1) rfl; exact ppOk HS.out.symm m1.nv m2 m3
theorem madeN {c : Ctx} {w W : World} {j d : Nat} (hR : Rdr c W j d) (hA : Ap c.R w.heap.size w W) (kd : Int) (tx : ByteArray) (n : Int) (q : Nat) (hq : q = W.heap.size) :
  NV w.heap.size (W.alloc (nodeObj kd tx n (.slice none 0 0))) (.mk kd tx n []) (nPtr q) ∧ Rdr c (W.alloc (nodeObj kd tx n (.slice none 0 0))) j d ∧ Ap c.R w.heap.size w (W.alloc (nodeObj kd tx n (.slice none 0 0))) := by
 subst hq
 exact ⟨(EV.new (KV.nil _ _) hA.size kd tx n).nv, hR.alloc _, hA.alloc hA.size _⟩
theorem stepped {c : Ctx} {w W : World} {i d : Nat} (hR : Rdr c W i d) (hA : Ap c.R w.heap.size w W) (hj : i + 1 < c.l.length) :
  Rdr c (W.setCell ⟨c.R, 1, none⟩ (.int .i64 ((i : Int) + 1))) (i + 1) d ∧ Ap c.R w.heap.size w (W.setCell ⟨c.R, 1, none⟩ (.int .i64 ((i : Int) + 1))) :=
 ⟨hR.go2 (i + 1) hj (by omega), hA.setCell (p := ⟨c.R, 1, none⟩) (Or.inr rfl) _⟩
theorem al_some {c : Ctx} (f : Nat) (hen : ∀ args W, (callFunc f args).run Tryz.prog W = .ok (.enter f args) W) (w : World) (d i : Nat) (r : PR Tr) (ho : r ≠ .out) (q : Nat) (hq : look2 vlKeys (fx c.l i) = some q) (hf : vlFn q = f) (hp : ∀ W, Rdr c W i d → Calls Tryz.prog f #[rPtr c] W (PPost c W d (NV W.heap.size) r)) (h : Rdr c w i d) :
  Calls Tryz.prog 278 #[rPtr c] w (PPost c w d (NV w.heap.size) r) := by
 have HL : Hid (∀ W : World, Rdr c W i d → (Instr.lookup 168 (.map (some c.mV)) (.string (fx c.l i)) true).run Tryz.prog W = .ok (.tuple #[.func (.func f) #[.pointer (some ⟨c.R, 0, none⟩)] #[], .bool true]) W) := fun W hW => by
  have := look_vals c (fx c.l i) W hW.base.vals; rw [hq] at this; simp only [vlVO, hf] at this; exact this
 have HR0 := hide h
 have HA0 := hide (Ap.refl c.R w.heap.size w)
 have HP := hide hp
 have HLT := hide h.rlt
 have HO := hide ho
 clear h ho hq hf hp
 go_enter Tryz.func278, Tryz.ntmps278
 go_wp2_with fail
 refine wp_region_held (S := fun W => Rdr c W i d) (by kernel_rfl) ?_
 change wpAnyH _ _ _ _ _ _ _ _ (World.drew _)
 refine wh 0 (rPtr c) HR0.out.drew ?_
 refine wh 1 (rPtr c) HR0.out.drew ?_
 refine wh 2 (.pointer (some ⟨c.R, 5, none⟩)) HR0.out.drew ?_
 refine wg 3 (.map (some c.mV)) rfl (Or.inl ⟨by kernel_rfl, fun W hW => by have hh := Rdr.c5 hW; go_simp⟩) HR0.out.drew ?_
 refine wh 4 (rPtr c) HR0.out.drew ?_
 refine wq1 5 fun K hK => ?_
 go_simp
 refine cm (fixed_any c _ i d HR0.out.drew) ?_
 rintro e wq ⟨rfl, hbq⟩
 have HRq := hide (HR0.out.drew.later hbq)
 have HAq := hide (HA0.out.next (Ap.of ((Below.refl _ _).drew.trans hbq)))
 clear hbq
 refine hK.out _ _ HRq.out (fun _ => ?_)
 clear hK K
 refine wg 6 (.tuple #[.func (.func f) #[.pointer (some ⟨c.R, 0, none⟩)] #[], .bool true]) rfl (Or.inl ⟨by kernel_rfl, fun W hW => by have hh := HL.out W hW; go_simp⟩) HRq.out ?_
 refine wh 7 (.tuple #[.func (.func f) #[.pointer (some ⟨c.R, 0, none⟩)] #[], .bool true]) HRq.out ?_
 refine wh 8 (.func (.func f) #[.pointer (some ⟨c.R, 0, none⟩)] #[]) HRq.out ?_
 refine wh 9 (.bool true) HRq.out ?_
 refine wh 10 (.func (.func f) #[.pointer (some ⟨c.R, 0, none⟩)] #[]) HRq.out ?_
 refine wh 11 (.bool true) HRq.out ?_
 refine wpAnyH_done (by kernel_rfl) ?_ _
 go_simp
 have HC : Hid _ := unhide HP wq HRq.out
 go_wp2_with fail
 refine cm HC.out ?_
 intro e w2 hp
 cases r with
 | out => exact absurd rfl HO.out
 | bad er p =>
  obtain ⟨rfl, ha⟩ := hp; exact ⟨rfl, ppBad rfl (HAq.out.next ha)⟩
 | ok x j =>
  obtain ⟨⟨v, rfl, hv⟩, hrd, ha⟩ := hp; have HV := hide (NV.mono hv HAq.out.size); have HR2 := hide hrd; have HA2 := hide (HAq.out.next ha); clear hv hrd ha; go_wp2_with fail; go_ret; exact ppOk rfl HV.out HR2.out HA2.out
theorem al_sign {c : Ctx} (w : World) (d i : Nat) (x : Sg) (hq : look2 vlKeys (fx c.l i) = none) (hsg : sgP 0 (fx c.l i) = some x) (h : Rdr c w i d) : Calls Tryz.prog 278 #[rPtr c] w (PPost c w d (NV w.heap.size) (.ok (.mk x.kd noText 0 []) (i + 1))) := by
 have HL : Hid (∀ W : World, Rdr c W i d → (Instr.lookup 168 (.map (some c.mV)) (.string (fx c.l i)) true).run Tryz.prog W = .ok (.tuple #[.nilFunc, .bool false]) W) := fun W hW => by
  have := look_vals c (fx c.l i) W hW.base.vals; rw [hq] at this; exact this
 clear hq
 have HR0 := hide h
 have HA0 := hide (Ap.refl c.R w.heap.size w)
 have HLT := hide h.rlt
 have HEN := hide h.base.ends
 have HLL := hide h.lt
 have hL := h.base.len
 have HSG := hide hsg
 have HJ := hide (sgP_lt h.base.ends h.lt hsg)
 clear hsg
 clear h
 go_enter Tryz.func278, Tryz.ntmps278
 go_wp2_with fail
 refine wp_region_held (S := fun W => Rdr c W i d) (by kernel_rfl) ?_
 change wpAnyH _ _ _ _ _ _ _ _ (World.drew _)
 refine wh 0 (rPtr c) HR0.out.drew ?_
 refine wh 1 (rPtr c) HR0.out.drew ?_
 refine wh 2 (.pointer (some ⟨c.R, 5, none⟩)) HR0.out.drew ?_
 refine wg 3 (.map (some c.mV)) rfl (Or.inl ⟨by kernel_rfl, fun W hW => by have hh := Rdr.c5 hW; go_simp⟩) HR0.out.drew ?_
 refine wh 4 (rPtr c) HR0.out.drew ?_
 refine wq1 5 fun K hK => ?_
 go_simp
 refine cm (fixed_any c _ i d HR0.out.drew) ?_
 rintro e wq ⟨rfl, hbq⟩
 have HRq := hide (HR0.out.drew.later hbq)
 have HAq := hide (HA0.out.next (Ap.of ((Below.refl _ _).drew.trans hbq)))
 clear hbq
 refine hK.out _ _ HRq.out (fun _ => ?_)
 clear hK K
 refine wg 6 (.tuple #[.nilFunc, .bool false]) rfl (Or.inl ⟨by kernel_rfl, fun W hW => by have hh := HL.out W hW; go_simp⟩) HRq.out ?_
 refine wh 7 (.tuple #[.nilFunc, .bool false]) HRq.out ?_
 refine wh 8 .nilFunc HRq.out ?_
 refine wh 9 (.bool false) HRq.out ?_
 refine wh 10 .nilFunc HRq.out ?_
 refine wh 11 (.bool false) HRq.out ?_
 refine wpAnyH_done (by kernel_rfl) ?_ _
 go_simp
 have HC := hide (sign_any c 0 wq i d HRq.out)
 rw [HSG.out] at HC
 simp only [sgVO, sgV, Option.isSome] at HC
 go_wp2_with fail
 refine cm HC.out ?_
 rintro e ws ⟨rfl, hbws⟩
 clear HC
 have HAws := hide (HAq.out.next (Ap.of hbws))
 have HRws := hide (HRq.out.later hbws)
 clear hbws HRq HAq
 have HAs2 := hide (HAws.out.alloc HAws.out.size (.cells #[.string x.tx, .int .i64 x.kd, .int .i64 x.parts, .int .i64 x.str] 175))
 have HRs2 := hide (HRws.out.alloc (.cells #[.string x.tx, .int .i64 x.kd, .int .i64 x.parts, .int .i64 x.str] 175))
 have hs0 : (ws.alloc (.cells #[.string x.tx, .int .i64 x.kd, .int .i64 x.parts, .int .i64 x.str] 175)).heap[ws.heap.size]? = some (.cells #[.string x.tx, .int .i64 x.kd, .int .i64 x.parts, .int .i64 x.str] 175) := heap_new _ _
 have HS0 := hide hs0
 clear hs0
 have HC := hide (token_any c (ws.alloc (.cells #[.string x.tx, .int .i64 x.kd, .int .i64 x.parts, .int .i64 x.str] 175)) i d HRs2.out)
 unfold tkV at HC
 go_wp2_with fail
 refine cm HC.out ?_
 rintro e wt ⟨rfl, hbwt⟩
 clear HC
 have HAwt := hide (HAs2.out.next (Ap.of hbwt))
 have HRwt := hide (HRs2.out.later hbwt)
 have hp0 := (hbwt.block ws.heap.size (by simp)).trans HS0.out
 obtain ⟨k0, k1, k2, k3, kf, klt⟩ := c160 hp0
 have hc1 := HRwt.out.c1
 have hcz := HRwt.out.fz
 have hcl := HRwt.out.rlt
 clear hbwt hp0
 have HAt2 := hide (HAwt.out.alloc HAwt.out.size (.cells #[.int .i64 (tkA c.l i).kd, .string (tkA c.l i).tx, .int .i64 (tkA c.l i).n, .int .i64 ((tkA c.l i).pl : Int)] 123))
 have HRt2 := hide (HRwt.out.alloc (.cells #[.int .i64 (tkA c.l i).kd, .string (tkA c.l i).tx, .int .i64 (tkA c.l i).n, .int .i64 ((tkA c.l i).pl : Int)] 123))
 have hi := unhide HJ
 obtain ⟨hsr, hsa⟩ := stepped HRwt.out HAwt.out hi
 have HX := hide (madeN (hsr.alloc (.cells #[.int .i64 (tkA c.l i).kd, .string (tkA c.l i).tx, .int .i64 (tkA c.l i).n, .int .i64 ((tkA c.l i).pl : Int)] 123)) (hsa.alloc hsa.size (.cells #[.int .i64 (tkA c.l i).kd, .string (tkA c.l i).tx, .int .i64 (tkA c.l i).n, .int .i64 ((tkA c.l i).pl : Int)] 123)) x.kd noText 0 (wt.heap.size + 1) (by simp))
 clear hsr hsa
 have HC := hide (node_any x.kd noText (.slice none 0 0) (wt.alloc (.cells #[.int .i64 (tkA c.l i).kd, .string (tkA c.l i).tx, .int .i64 (tkA c.l i).n, .int .i64 ((tkA c.l i).pl : Int)] 123)) ⟨_, _, _, rfl⟩)
 go_wp2_with fail
 refine cm HC.out ?_
 rintro e wn ⟨rfl, rfl⟩
 clear HC
 go_wp2_with fail
 go_ret
 obtain ⟨m1, m2, m3⟩ := unhide HX
 exact ppOk rfl m1 m2 m3
theorem al_name {c : Ctx} (w : World) (d i : Nat) (hq : look2 vlKeys (fx c.l i) = none) (hsg : sgP 0 (fx c.l i) = none) (hk : (tkA c.l i).kd = 1) (h : Rdr c w i d) : Calls Tryz.prog 278 #[rPtr c] w (PPost c w d (NV w.heap.size) (.ok (.mk 23 (tkA c.l i).tx 0 []) (i + 1))) := by
 have HL : Hid (∀ W : World, Rdr c W i d → (Instr.lookup 168 (.map (some c.mV)) (.string (fx c.l i)) true).run Tryz.prog W = .ok (.tuple #[.nilFunc, .bool false]) W) := fun W hW => by
  have := look_vals c (fx c.l i) W hW.base.vals; rw [hq] at this; exact this
 clear hq
 have HR0 := hide h
 have HA0 := hide (Ap.refl c.R w.heap.size w)
 have HLT := hide h.rlt
 have HEN := hide h.base.ends
 have HLL := hide h.lt
 have hL := h.base.len
 have HSG := hide hsg
 clear hsg
 have HJ := hide (next_lt h.base.ends h.lt (by rw [hk]; decide))
 have b1 : ((tkA c.l i).kd == 1) = true := by rw [hk]; decide
 have b4 : ((tkA c.l i).kd == 4) = false := by rw [hk]; decide
 have b3 : ((tkA c.l i).kd == 3) = false := by rw [hk]; decide
 clear hk
 clear h
 go_enter Tryz.func278, Tryz.ntmps278
 go_wp2_with fail
 refine wp_region_held (S := fun W => Rdr c W i d) (by kernel_rfl) ?_
 change wpAnyH _ _ _ _ _ _ _ _ (World.drew _)
 refine wh 0 (rPtr c) HR0.out.drew ?_
 refine wh 1 (rPtr c) HR0.out.drew ?_
 refine wh 2 (.pointer (some ⟨c.R, 5, none⟩)) HR0.out.drew ?_
 refine wg 3 (.map (some c.mV)) rfl (Or.inl ⟨by kernel_rfl, fun W hW => by have hh := Rdr.c5 hW; go_simp⟩) HR0.out.drew ?_
 refine wh 4 (rPtr c) HR0.out.drew ?_
 refine wq1 5 fun K hK => ?_
 go_simp
 refine cm (fixed_any c _ i d HR0.out.drew) ?_
 rintro e wq ⟨rfl, hbq⟩
 have HRq := hide (HR0.out.drew.later hbq)
 have HAq := hide (HA0.out.next (Ap.of ((Below.refl _ _).drew.trans hbq)))
 clear hbq
 refine hK.out _ _ HRq.out (fun _ => ?_)
 clear hK K
 refine wg 6 (.tuple #[.nilFunc, .bool false]) rfl (Or.inl ⟨by kernel_rfl, fun W hW => by have hh := HL.out W hW; go_simp⟩) HRq.out ?_
 refine wh 7 (.tuple #[.nilFunc, .bool false]) HRq.out ?_
 refine wh 8 .nilFunc HRq.out ?_
 refine wh 9 (.bool false) HRq.out ?_
 refine wh 10 .nilFunc HRq.out ?_
 refine wh 11 (.bool false) HRq.out ?_
 refine wpAnyH_done (by kernel_rfl) ?_ _
 go_simp
 have HC := hide (sign_any c 0 wq i d HRq.out)
 rw [HSG.out] at HC
 simp only [sgVO, noSg, Option.isSome] at HC
 go_wp2_with fail
 refine cm HC.out ?_
 rintro e ws ⟨rfl, hbws⟩
 clear HC
 have HAws := hide (HAq.out.next (Ap.of hbws))
 have HRws := hide (HRq.out.later hbws)
 clear hbws HRq HAq
 have HAs2 := hide (HAws.out.alloc HAws.out.size (.cells #[.string ⟨#[]⟩, .int .i64 0, .int .i64 0, .int .i64 0] 175))
 have HRs2 := hide (HRws.out.alloc (.cells #[.string ⟨#[]⟩, .int .i64 0, .int .i64 0, .int .i64 0] 175))
 have hs0 : (ws.alloc (.cells #[.string ⟨#[]⟩, .int .i64 0, .int .i64 0, .int .i64 0] 175)).heap[ws.heap.size]? = some (.cells #[.string ⟨#[]⟩, .int .i64 0, .int .i64 0, .int .i64 0] 175) := heap_new _ _
 have HS0 := hide hs0
 clear hs0
 have HC := hide (token_any c (ws.alloc (.cells #[.string ⟨#[]⟩, .int .i64 0, .int .i64 0, .int .i64 0] 175)) i d HRs2.out)
 unfold tkV at HC
 go_wp2_with fail
 refine cm HC.out ?_
 rintro e wt ⟨rfl, hbwt⟩
 clear HC
 have HAwt := hide (HAs2.out.next (Ap.of hbwt))
 have HRwt := hide (HRs2.out.later hbwt)
 have hp0 := (hbwt.block ws.heap.size (by simp)).trans HS0.out
 obtain ⟨k0, k1, k2, k3, kf, klt⟩ := c160 hp0
 have hc1 := HRwt.out.c1
 have hcz := HRwt.out.fz
 have hcl := HRwt.out.rlt
 clear hbwt hp0
 have HAt2 := hide (HAwt.out.alloc HAwt.out.size (.cells #[.int .i64 (tkA c.l i).kd, .string (tkA c.l i).tx, .int .i64 (tkA c.l i).n, .int .i64 ((tkA c.l i).pl : Int)] 123))
 have HRt2 := hide (HRwt.out.alloc (.cells #[.int .i64 (tkA c.l i).kd, .string (tkA c.l i).tx, .int .i64 (tkA c.l i).n, .int .i64 ((tkA c.l i).pl : Int)] 123))
 have hi := unhide HJ
 obtain ⟨hsr, hsa⟩ := stepped HRwt.out HAwt.out hi
 have HX := hide (madeN (hsr.alloc (.cells #[.int .i64 (tkA c.l i).kd, .string (tkA c.l i).tx, .int .i64 (tkA c.l i).n, .int .i64 ((tkA c.l i).pl : Int)] 123)) (hsa.alloc hsa.size (.cells #[.int .i64 (tkA c.l i).kd, .string (tkA c.l i).tx, .int .i64 (tkA c.l i).n, .int .i64 ((tkA c.l i).pl : Int)] 123)) 23 (tkA c.l i).tx 0 (wt.heap.size + 1) (by simp))
 clear hsr hsa
 have HC := hide (node_any 23 (tkA c.l i).tx (.slice none 0 0) (wt.alloc (.cells #[.int .i64 (tkA c.l i).kd, .string (tkA c.l i).tx, .int .i64 (tkA c.l i).n, .int .i64 ((tkA c.l i).pl : Int)] 123)) ⟨_, _, _, rfl⟩)
 go_wp2_with fail
 refine cm HC.out ?_
 rintro e wn ⟨rfl, rfl⟩
 clear HC
 go_wp2_with fail
 go_ret
 obtain ⟨m1, m2, m3⟩ := unhide HX
 exact ppOk rfl m1 m2 m3
theorem al_str {c : Ctx} (w : World) (d i : Nat) (hq : look2 vlKeys (fx c.l i) = none) (hsg : sgP 0 (fx c.l i) = none) (hk : (tkA c.l i).kd = 4) (h : Rdr c w i d) : Calls Tryz.prog 278 #[rPtr c] w (PPost c w d (NV w.heap.size) (.ok (.mk 18 (tkA c.l i).tx 0 []) (i + 1))) := by
 have HL : Hid (∀ W : World, Rdr c W i d → (Instr.lookup 168 (.map (some c.mV)) (.string (fx c.l i)) true).run Tryz.prog W = .ok (.tuple #[.nilFunc, .bool false]) W) := fun W hW => by
  have := look_vals c (fx c.l i) W hW.base.vals; rw [hq] at this; exact this
 clear hq
 have HR0 := hide h
 have HA0 := hide (Ap.refl c.R w.heap.size w)
 have HLT := hide h.rlt
 have HEN := hide h.base.ends
 have HLL := hide h.lt
 have hL := h.base.len
 have HSG := hide hsg
 clear hsg
 have HJ := hide (next_lt h.base.ends h.lt (by rw [hk]; decide))
 have b1 : ((tkA c.l i).kd == 1) = false := by rw [hk]; decide
 have b4 : ((tkA c.l i).kd == 4) = true := by rw [hk]; decide
 have b3 : ((tkA c.l i).kd == 3) = false := by rw [hk]; decide
 clear hk
 clear h
 go_enter Tryz.func278, Tryz.ntmps278
 go_wp2_with fail
 refine wp_region_held (S := fun W => Rdr c W i d) (by kernel_rfl) ?_
 change wpAnyH _ _ _ _ _ _ _ _ (World.drew _)
 refine wh 0 (rPtr c) HR0.out.drew ?_
 refine wh 1 (rPtr c) HR0.out.drew ?_
 refine wh 2 (.pointer (some ⟨c.R, 5, none⟩)) HR0.out.drew ?_
 refine wg 3 (.map (some c.mV)) rfl (Or.inl ⟨by kernel_rfl, fun W hW => by have hh := Rdr.c5 hW; go_simp⟩) HR0.out.drew ?_
 refine wh 4 (rPtr c) HR0.out.drew ?_
 refine wq1 5 fun K hK => ?_
 go_simp
 refine cm (fixed_any c _ i d HR0.out.drew) ?_
 rintro e wq ⟨rfl, hbq⟩
 have HRq := hide (HR0.out.drew.later hbq)
 have HAq := hide (HA0.out.next (Ap.of ((Below.refl _ _).drew.trans hbq)))
 clear hbq
 refine hK.out _ _ HRq.out (fun _ => ?_)
 clear hK K
 refine wg 6 (.tuple #[.nilFunc, .bool false]) rfl (Or.inl ⟨by kernel_rfl, fun W hW => by have hh := HL.out W hW; go_simp⟩) HRq.out ?_
 refine wh 7 (.tuple #[.nilFunc, .bool false]) HRq.out ?_
 refine wh 8 .nilFunc HRq.out ?_
 refine wh 9 (.bool false) HRq.out ?_
 refine wh 10 .nilFunc HRq.out ?_
 refine wh 11 (.bool false) HRq.out ?_
 refine wpAnyH_done (by kernel_rfl) ?_ _
 go_simp
 have HC := hide (sign_any c 0 wq i d HRq.out)
 rw [HSG.out] at HC
 simp only [sgVO, noSg, Option.isSome] at HC
 go_wp2_with fail
 refine cm HC.out ?_
 rintro e ws ⟨rfl, hbws⟩
 clear HC
 have HAws := hide (HAq.out.next (Ap.of hbws))
 have HRws := hide (HRq.out.later hbws)
 clear hbws HRq HAq
 have HAs2 := hide (HAws.out.alloc HAws.out.size (.cells #[.string ⟨#[]⟩, .int .i64 0, .int .i64 0, .int .i64 0] 175))
 have HRs2 := hide (HRws.out.alloc (.cells #[.string ⟨#[]⟩, .int .i64 0, .int .i64 0, .int .i64 0] 175))
 have hs0 : (ws.alloc (.cells #[.string ⟨#[]⟩, .int .i64 0, .int .i64 0, .int .i64 0] 175)).heap[ws.heap.size]? = some (.cells #[.string ⟨#[]⟩, .int .i64 0, .int .i64 0, .int .i64 0] 175) := heap_new _ _
 have HS0 := hide hs0
 clear hs0
 have HC := hide (token_any c (ws.alloc (.cells #[.string ⟨#[]⟩, .int .i64 0, .int .i64 0, .int .i64 0] 175)) i d HRs2.out)
 unfold tkV at HC
 go_wp2_with fail
 refine cm HC.out ?_
 rintro e wt ⟨rfl, hbwt⟩
 clear HC
 have HAwt := hide (HAs2.out.next (Ap.of hbwt))
 have HRwt := hide (HRs2.out.later hbwt)
 have hp0 := (hbwt.block ws.heap.size (by simp)).trans HS0.out
 obtain ⟨k0, k1, k2, k3, kf, klt⟩ := c160 hp0
 have hc1 := HRwt.out.c1
 have hcz := HRwt.out.fz
 have hcl := HRwt.out.rlt
 clear hbwt hp0
 have HAt2 := hide (HAwt.out.alloc HAwt.out.size (.cells #[.int .i64 (tkA c.l i).kd, .string (tkA c.l i).tx, .int .i64 (tkA c.l i).n, .int .i64 ((tkA c.l i).pl : Int)] 123))
 have HRt2 := hide (HRwt.out.alloc (.cells #[.int .i64 (tkA c.l i).kd, .string (tkA c.l i).tx, .int .i64 (tkA c.l i).n, .int .i64 ((tkA c.l i).pl : Int)] 123))
 have hi := unhide HJ
 obtain ⟨hsr, hsa⟩ := stepped HRwt.out HAwt.out hi
 have HX := hide (madeN (hsr.alloc (.cells #[.int .i64 (tkA c.l i).kd, .string (tkA c.l i).tx, .int .i64 (tkA c.l i).n, .int .i64 ((tkA c.l i).pl : Int)] 123)) (hsa.alloc hsa.size (.cells #[.int .i64 (tkA c.l i).kd, .string (tkA c.l i).tx, .int .i64 (tkA c.l i).n, .int .i64 ((tkA c.l i).pl : Int)] 123)) 18 (tkA c.l i).tx 0 (wt.heap.size + 1) (by simp))
 clear hsr hsa
 have HC := hide (node_any 18 (tkA c.l i).tx (.slice none 0 0) (wt.alloc (.cells #[.int .i64 (tkA c.l i).kd, .string (tkA c.l i).tx, .int .i64 (tkA c.l i).n, .int .i64 ((tkA c.l i).pl : Int)] 123)) ⟨_, _, _, rfl⟩)
 go_wp2_with fail
 refine cm HC.out ?_
 rintro e wn ⟨rfl, rfl⟩
 clear HC
 go_wp2_with fail
 go_ret
 obtain ⟨m1, m2, m3⟩ := unhide HX
 exact ppOk rfl m1 m2 m3
theorem al_num {c : Ctx} (w : World) (d i : Nat) (hq : look2 vlKeys (fx c.l i) = none) (hsg : sgP 0 (fx c.l i) = none) (hk : (tkA c.l i).kd = 3) (h : Rdr c w i d) : Calls Tryz.prog 278 #[rPtr c] w (PPost c w d (NV w.heap.size) (.ok (.mk 17 noText (tkA c.l i).n []) (i + 1))) := by
 have HL : Hid (∀ W : World, Rdr c W i d → (Instr.lookup 168 (.map (some c.mV)) (.string (fx c.l i)) true).run Tryz.prog W = .ok (.tuple #[.nilFunc, .bool false]) W) := fun W hW => by
  have := look_vals c (fx c.l i) W hW.base.vals; rw [hq] at this; exact this
 clear hq
 have HR0 := hide h
 have HA0 := hide (Ap.refl c.R w.heap.size w)
 have HLT := hide h.rlt
 have HEN := hide h.base.ends
 have HLL := hide h.lt
 have hL := h.base.len
 have HSG := hide hsg
 clear hsg
 have HJ := hide (next_lt h.base.ends h.lt (by rw [hk]; decide))
 have b1 : ((tkA c.l i).kd == 1) = false := by rw [hk]; decide
 have b4 : ((tkA c.l i).kd == 4) = false := by rw [hk]; decide
 have b3 : ((tkA c.l i).kd == 3) = true := by rw [hk]; decide
 clear hk
 clear h
 go_enter Tryz.func278, Tryz.ntmps278
 go_wp2_with fail
 refine wp_region_held (S := fun W => Rdr c W i d) (by kernel_rfl) ?_
 change wpAnyH _ _ _ _ _ _ _ _ (World.drew _)
 refine wh 0 (rPtr c) HR0.out.drew ?_
 refine wh 1 (rPtr c) HR0.out.drew ?_
 refine wh 2 (.pointer (some ⟨c.R, 5, none⟩)) HR0.out.drew ?_
 refine wg 3 (.map (some c.mV)) rfl (Or.inl ⟨by kernel_rfl, fun W hW => by have hh := Rdr.c5 hW; go_simp⟩) HR0.out.drew ?_
 refine wh 4 (rPtr c) HR0.out.drew ?_
 refine wq1 5 fun K hK => ?_
 go_simp
 refine cm (fixed_any c _ i d HR0.out.drew) ?_
 rintro e wq ⟨rfl, hbq⟩
 have HRq := hide (HR0.out.drew.later hbq)
 have HAq := hide (HA0.out.next (Ap.of ((Below.refl _ _).drew.trans hbq)))
 clear hbq
 refine hK.out _ _ HRq.out (fun _ => ?_)
 clear hK K
 refine wg 6 (.tuple #[.nilFunc, .bool false]) rfl (Or.inl ⟨by kernel_rfl, fun W hW => by have hh := HL.out W hW; go_simp⟩) HRq.out ?_
 refine wh 7 (.tuple #[.nilFunc, .bool false]) HRq.out ?_
 refine wh 8 .nilFunc HRq.out ?_
 refine wh 9 (.bool false) HRq.out ?_
 refine wh 10 .nilFunc HRq.out ?_
 refine wh 11 (.bool false) HRq.out ?_
 refine wpAnyH_done (by kernel_rfl) ?_ _
 go_simp
 have HC := hide (sign_any c 0 wq i d HRq.out)
 rw [HSG.out] at HC
 simp only [sgVO, noSg, Option.isSome] at HC
 go_wp2_with fail
 refine cm HC.out ?_
 rintro e ws ⟨rfl, hbws⟩
 clear HC
 have HAws := hide (HAq.out.next (Ap.of hbws))
 have HRws := hide (HRq.out.later hbws)
 clear hbws HRq HAq
 have HAs2 := hide (HAws.out.alloc HAws.out.size (.cells #[.string ⟨#[]⟩, .int .i64 0, .int .i64 0, .int .i64 0] 175))
 have HRs2 := hide (HRws.out.alloc (.cells #[.string ⟨#[]⟩, .int .i64 0, .int .i64 0, .int .i64 0] 175))
 have hs0 : (ws.alloc (.cells #[.string ⟨#[]⟩, .int .i64 0, .int .i64 0, .int .i64 0] 175)).heap[ws.heap.size]? = some (.cells #[.string ⟨#[]⟩, .int .i64 0, .int .i64 0, .int .i64 0] 175) := heap_new _ _
 have HS0 := hide hs0
 clear hs0
 have HC := hide (token_any c (ws.alloc (.cells #[.string ⟨#[]⟩, .int .i64 0, .int .i64 0, .int .i64 0] 175)) i d HRs2.out)
 unfold tkV at HC
 go_wp2_with fail
 refine cm HC.out ?_
 rintro e wt ⟨rfl, hbwt⟩
 clear HC
 have HAwt := hide (HAs2.out.next (Ap.of hbwt))
 have HRwt := hide (HRs2.out.later hbwt)
 have hp0 := (hbwt.block ws.heap.size (by simp)).trans HS0.out
 obtain ⟨k0, k1, k2, k3, kf, klt⟩ := c160 hp0
 have hc1 := HRwt.out.c1
 have hcz := HRwt.out.fz
 have hcl := HRwt.out.rlt
 clear hbwt hp0
 have HAt2 := hide (HAwt.out.alloc HAwt.out.size (.cells #[.int .i64 (tkA c.l i).kd, .string (tkA c.l i).tx, .int .i64 (tkA c.l i).n, .int .i64 ((tkA c.l i).pl : Int)] 123))
 have HRt2 := hide (HRwt.out.alloc (.cells #[.int .i64 (tkA c.l i).kd, .string (tkA c.l i).tx, .int .i64 (tkA c.l i).n, .int .i64 ((tkA c.l i).pl : Int)] 123))
 have hi := unhide HJ
 obtain ⟨hsr, hsa⟩ := stepped HRwt.out HAwt.out hi
 have HX := hide (madeN (hsr.alloc (.cells #[.int .i64 (tkA c.l i).kd, .string (tkA c.l i).tx, .int .i64 (tkA c.l i).n, .int .i64 ((tkA c.l i).pl : Int)] 123)) (hsa.alloc hsa.size (.cells #[.int .i64 (tkA c.l i).kd, .string (tkA c.l i).tx, .int .i64 (tkA c.l i).n, .int .i64 ((tkA c.l i).pl : Int)] 123)) 17 noText (tkA c.l i).n (wt.heap.size + 1) (by simp))
 clear hsr hsa
 have HC := hide (node_any 17 noText (.slice none 0 0) (wt.alloc (.cells #[.int .i64 (tkA c.l i).kd, .string (tkA c.l i).tx, .int .i64 (tkA c.l i).n, .int .i64 ((tkA c.l i).pl : Int)] 123)) ⟨_, _, _, rfl⟩)
 go_wp2_with fail
 refine cm HC.out ?_
 rintro e wn ⟨rfl, rfl⟩
 clear HC
 go_wp2_with fail
 go_ret
 obtain ⟨m1, m2, m3⟩ := unhide HX
 exact ppOk rfl m1 m2 m3
theorem al_bad {c : Ctx} (w : World) (d i : Nat) (hq : look2 vlKeys (fx c.l i) = none) (hsg : sgP 0 (fx c.l i) = none) (h1 : (tkA c.l i).kd ≠ 1) (h4 : (tkA c.l i).kd ≠ 4) (h3 : (tkA c.l i).kd ≠ 3) (h : Rdr c w i d) : Calls Tryz.prog 278 #[rPtr c] w (PPost c w d (NV w.heap.size) (.bad 3 (tkA c.l i).pl)) := by
 have HL : Hid (∀ W : World, Rdr c W i d → (Instr.lookup 168 (.map (some c.mV)) (.string (fx c.l i)) true).run Tryz.prog W = .ok (.tuple #[.nilFunc, .bool false]) W) := fun W hW => by
  have := look_vals c (fx c.l i) W hW.base.vals; rw [hq] at this; exact this
 clear hq
 have HR0 := hide h
 have HA0 := hide (Ap.refl c.R w.heap.size w)
 have HLT := hide h.rlt
 have HEN := hide h.base.ends
 have HLL := hide h.lt
 have hL := h.base.len
 have HSG := hide hsg
 clear hsg
 have b1 : ((tkA c.l i).kd == 1) = false := beq_eq_false_iff_ne.2 h1
 have b4 : ((tkA c.l i).kd == 4) = false := beq_eq_false_iff_ne.2 h4
 have b3 : ((tkA c.l i).kd == 3) = false := beq_eq_false_iff_ne.2 h3
 clear h1 h3 h4
 clear h
 go_enter Tryz.func278, Tryz.ntmps278
 go_wp2_with fail
 refine wp_region_held (S := fun W => Rdr c W i d) (by kernel_rfl) ?_
 change wpAnyH _ _ _ _ _ _ _ _ (World.drew _)
 refine wh 0 (rPtr c) HR0.out.drew ?_
 refine wh 1 (rPtr c) HR0.out.drew ?_
 refine wh 2 (.pointer (some ⟨c.R, 5, none⟩)) HR0.out.drew ?_
 refine wg 3 (.map (some c.mV)) rfl (Or.inl ⟨by kernel_rfl, fun W hW => by have hh := Rdr.c5 hW; go_simp⟩) HR0.out.drew ?_
 refine wh 4 (rPtr c) HR0.out.drew ?_
 refine wq1 5 fun K hK => ?_
 go_simp
 refine cm (fixed_any c _ i d HR0.out.drew) ?_
 rintro e wq ⟨rfl, hbq⟩
 have HRq := hide (HR0.out.drew.later hbq)
 have HAq := hide (HA0.out.next (Ap.of ((Below.refl _ _).drew.trans hbq)))
 clear hbq
 refine hK.out _ _ HRq.out (fun _ => ?_)
 clear hK K
 refine wg 6 (.tuple #[.nilFunc, .bool false]) rfl (Or.inl ⟨by kernel_rfl, fun W hW => by have hh := HL.out W hW; go_simp⟩) HRq.out ?_
 refine wh 7 (.tuple #[.nilFunc, .bool false]) HRq.out ?_
 refine wh 8 .nilFunc HRq.out ?_
 refine wh 9 (.bool false) HRq.out ?_
 refine wh 10 .nilFunc HRq.out ?_
 refine wh 11 (.bool false) HRq.out ?_
 refine wpAnyH_done (by kernel_rfl) ?_ _
 go_simp
 have HC := hide (sign_any c 0 wq i d HRq.out)
 rw [HSG.out] at HC
 simp only [sgVO, noSg, Option.isSome] at HC
 go_wp2_with fail
 refine cm HC.out ?_
 rintro e ws ⟨rfl, hbws⟩
 clear HC
 have HAws := hide (HAq.out.next (Ap.of hbws))
 have HRws := hide (HRq.out.later hbws)
 clear hbws HRq HAq
 have HAs2 := hide (HAws.out.alloc HAws.out.size (.cells #[.string ⟨#[]⟩, .int .i64 0, .int .i64 0, .int .i64 0] 175))
 have HRs2 := hide (HRws.out.alloc (.cells #[.string ⟨#[]⟩, .int .i64 0, .int .i64 0, .int .i64 0] 175))
 have hs0 : (ws.alloc (.cells #[.string ⟨#[]⟩, .int .i64 0, .int .i64 0, .int .i64 0] 175)).heap[ws.heap.size]? = some (.cells #[.string ⟨#[]⟩, .int .i64 0, .int .i64 0, .int .i64 0] 175) := heap_new _ _
 have HS0 := hide hs0
 clear hs0
 have HC := hide (token_any c (ws.alloc (.cells #[.string ⟨#[]⟩, .int .i64 0, .int .i64 0, .int .i64 0] 175)) i d HRs2.out)
 unfold tkV at HC
 go_wp2_with fail
 refine cm HC.out ?_
 rintro e wt ⟨rfl, hbwt⟩
 clear HC
 have HAwt := hide (HAs2.out.next (Ap.of hbwt))
 have HRwt := hide (HRs2.out.later hbwt)
 have hp0 := (hbwt.block ws.heap.size (by simp)).trans HS0.out
 obtain ⟨k0, k1, k2, k3, kf, klt⟩ := c160 hp0
 have hc1 := HRwt.out.c1
 have hcz := HRwt.out.fz
 have hcl := HRwt.out.rlt
 clear hbwt hp0
 have HAt2 := hide (HAwt.out.alloc HAwt.out.size (.cells #[.int .i64 (tkA c.l i).kd, .string (tkA c.l i).tx, .int .i64 (tkA c.l i).n, .int .i64 ((tkA c.l i).pl : Int)] 123))
 have HRt2 := hide (HRwt.out.alloc (.cells #[.int .i64 (tkA c.l i).kd, .string (tkA c.l i).tx, .int .i64 (tkA c.l i).n, .int .i64 ((tkA c.l i).pl : Int)] 123))
 have HC := hide (fault_any c 3 (wt.alloc (.cells #[.int .i64 (tkA c.l i).kd, .string (tkA c.l i).tx, .int .i64 (tkA c.l i).n, .int .i64 ((tkA c.l i).pl : Int)] 123)) i d HRt2.out)
 go_wp2_with fail
 refine cm HC.out ?_
 rintro e w9 ⟨rfl, hb9⟩
 exact ⟨rfl, ppBad rfl (HAt2.out.next (Ap.of hb9))⟩
end Go.Proofs.YtodmgaikhbmlnaaGreatDoor
