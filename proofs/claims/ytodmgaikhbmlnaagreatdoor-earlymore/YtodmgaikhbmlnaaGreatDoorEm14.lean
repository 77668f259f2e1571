/-
  Functions, with a name and without; what stands behind a head.
-/
import Derived.Test.YtodmgaikhbmlnaaGreatDoorEm11
set_option maxRecDepth 100000
set_option maxHeartbeats 16000000
namespace Go.Proofs.YtodmgaikhbmlnaaGreatDoor
open Go.RowKit

theorem params_at {c : Ctx} {F : Fns} (w : World) (d i : Nat) (ho : paramsP c.l F i ≠ .out) (h : Rdr c w i d) : Calls Tryz.prog 224 #[rPtr c] w (PPost c w d (NV w.heap.size) (paramsP c.l F i)) :=
  params_any (F := F) w d i _ rfl ho h

theorem func_any {c : Ctx} {F : Fns} (hF : FC c F) (hN : ∃ k, FNx c.l k F) (hK : FOk F) : Does c 158 NV (funcP c.l F) := by
  intro w d i r hs ho h
  have HR0 := hide h
  have HA0 := hide (Ap.refl c.R w.heap.size w)
  have HLT := hide h.rlt
  unfold funcP funcTail at hs
  have HS := hide hs
  have HO := hide ho
  clear h hs ho
  go_enter Tryz.func158, Tryz.ntmps158
  cases hr : mustP c.l tFunction i with
  | out =>
    rw [hr] at HS
    simp only [bind_out] at HS
    exact absurd (unhide HS).symm (unhide HO)
  | bad er p =>
    have HC := hide (must_any c tFunction w i d (unhide HR0) (by decide))
    rw [hr] at HC HS
    simp only [bind_bad] at HS
    clear hr
    go_wp2_with fail
    refine Calls.mono HC.out ?_
    intro e w' hp
    obtain ⟨rfl, ha⟩ := hp
    exact ⟨rfl, ppBad (unhide HS).symm ((unhide HA0).next ha)⟩
  | ok x1 j1 =>
    have HC := hide (must_any c tFunction w i d (unhide HR0) (by decide))
    rw [hr] at HC HS
    simp only [bind_ok] at HS
    clear hr
    go_wp2_with fail
    refine Calls.mono HC.out ?_
    intro e w1 hp
    obtain ⟨⟨v1, rfl, rfl⟩, hrd, ha⟩ := hp
    clear HC
    have HA1 := hide ((unhide HA0).next ha)
    have HR1 := hide hrd
    clear hrd ha HA0 HR0
    cases hr : nameP c.l j1 with
    | out =>
      rw [hr] at HS
      simp only [bind_out] at HS
      exact absurd (unhide HS).symm (unhide HO)
    | bad er p =>
      have HC := hide (name_any c w1 j1 d (unhide HR1))
      rw [hr] at HC HS
      simp only [bind_bad] at HS
      clear hr
      go_wp2_with fail
      refine Calls.mono HC.out ?_
      intro e w' hp
      obtain ⟨rfl, ha⟩ := hp
      exact ⟨rfl, ppBad (unhide HS).symm ((unhide HA1).next ha)⟩
    | ok x2 j2 =>
      have HC := hide (name_any c w1 j1 d (unhide HR1))
      rw [hr] at HC HS
      simp only [bind_ok] at HS
      clear hr
      go_wp2_with fail
      refine Calls.mono HC.out ?_
      intro e w2 hp
      obtain ⟨⟨v2, rfl, rfl⟩, hrd, ha⟩ := hp
      clear HC
      have HA2 := hide ((unhide HA1).next ha)
      have HR2 := hide hrd
      clear hrd ha HA1 HR1
      cases hr : paramsP c.l F j2 with
      | out =>
        rw [hr] at HS
        simp only [bind_out] at HS
        exact absurd (unhide HS).symm (unhide HO)
      | bad er p =>
        have HC := hide (params_at (F := F) w2 d j2 (by rw [hr]; nofun) (unhide HR2))
        rw [hr] at HC HS
        simp only [bind_bad] at HS
        clear hr
        go_wp2_with fail
        refine Calls.mono HC.out ?_
        intro e w' hp
        obtain ⟨rfl, ha⟩ := hp
        exact ⟨rfl, ppBad (unhide HS).symm ((unhide HA2).next ha)⟩
      | ok x3 j3 =>
        have HC := hide (params_at (F := F) w2 d j2 (by rw [hr]; nofun) (unhide HR2))
        rw [hr] at HC HS
        simp only [bind_ok] at HS
        clear hr
        go_wp2_with fail
        refine Calls.mono HC.out ?_
        intro e w3 hp
        obtain ⟨⟨v3, rfl, p3, rfl, hn3⟩, hrd, ha⟩ := hp
        clear HC
        have HA3 := hide ((unhide HA2).next ha)
        have HR3 := hide hrd
        have HN3 := hide (nat_mono hn3 (unhide HA2).size)
        clear hn3
        clear hrd ha HA2 HR2
        have HNP := hide (NAt.mono (J := fun b => w.heap.size ≤ b ∧ b < w3.heap.size) (fun b hb hl => ⟨hb, hl⟩) _ _ (unhide HN3))
        cases hr : blockP c.l F d j3 with
        | out =>
          rw [hr] at HS
          simp only [bind_out] at HS
          exact absurd (unhide HS).symm (unhide HO)
        | bad er p =>
          have HC := hide (block_any hF hN w3 d j3 _ rfl (by rw [hr]; nofun) (unhide HR3))
          rw [hr] at HC HS
          simp only [bind_bad] at HS
          clear hr
          go_wp2_with fail
          refine Calls.mono HC.out ?_
          intro e w' hp
          obtain ⟨rfl, ha⟩ := hp
          exact ⟨rfl, ppBad (unhide HS).symm ((unhide HA3).next ha)⟩
        | ok tb jb =>
          have HX := hide (blockP_exprOk hK hr)
          have HC := hide (block_any hF hN w3 d j3 _ rfl (by rw [hr]; nofun) (unhide HR3))
          rw [hr] at HC HS
          simp only [bind_ok] at HS
          clear hr
          go_wp2_with fail
          refine Calls.mono HC.out ?_
          intro e wb hp
          obtain ⟨⟨vb, rfl, hn⟩, hrd, ha⟩ := hp
          clear HC
          have HAb := hide ((unhide HA3).next ha)
          have HRb := hide hrd
          have HLb := hide (unhide HLT)
          replace HNP := hide (NAt.later (fun b hb _ => ha.block b hb.2 (by have h1 := unhide HLT; have h2 := hb.1; omega)) _ _ (unhide HNP))
          have HC := hide (code_any w3.heap.size tb vb wb hn (unhide HX))
          clear hn hrd ha
          go_wp2_with fail
          refine Calls.mono HC.out ?_
          rintro e wc ⟨rfl, hev, hbw⟩
          clear HC
          have HAc := hide ((unhide HAb).trans ((Ap.of hbw).mono (unhide HA3).size))
          have HRc := hide ((unhide HRb).ap hbw (unhide HR3).base.size)
          replace HNP := hide (NAt.mono (J := From w.heap.size) (fun b hb _ => hb.1) _ _ (NAt.later (fun b hb _ => hbw.block b hb.2) _ _ (unhide HNP)))
          obtain ⟨pb, rfl, hnb⟩ := hev.nv
          have HNB := hide (nat_mono hnb (unhide HA3).size)
          clear hev hbw hnb
          have HC := hide (node_any 5 x2 (.slice (some ⟨wc.heap.size, 0, none⟩) 2 2) (wc.alloc (.cells #[nPtr p3, nPtr pb] 22)) ⟨_, _, _, rfl⟩)
          go_wp2_with fail
          refine Calls.mono HC.out ?_
          rintro e wn ⟨rfl, rfl⟩
          clear HC
          go_wp2_with fail
          go_ret
          obtain ⟨m1, m2, m3⟩ := made (unhide HRc) (unhide HAc) (NAts.cons (unhide HNP) (NAts.cons (unhide HNB) NAts.nil)) (by simp [maxLen]) #[nPtr p3, nPtr pb] rfl 2 rfl 5 x2 (wc.heap.size + 1) rfl
          exact ppOk (unhide HS).symm m1.nv m2 m3

theorem lambda_any {c : Ctx} {F : Fns} (hF : FC c F) (hN : ∃ k, FNx c.l k F) (hK : FOk F) : Does c 167 NV (lambdaP c.l F) := by
  intro w d i r hs ho h
  have HR0 := hide h
  have HA0 := hide (Ap.refl c.R w.heap.size w)
  have HLT := hide h.rlt
  unfold lambdaP funcTail at hs
  have HS := hide hs
  have HO := hide ho
  clear h hs ho
  go_enter Tryz.func167, Tryz.ntmps167
  cases hr : mustP c.l tFunction i with
  | out =>
    rw [hr] at HS
    simp only [bind_out] at HS
    exact absurd (unhide HS).symm (unhide HO)
  | bad er p =>
    have HC := hide (must_any c tFunction w i d (unhide HR0) (by decide))
    rw [hr] at HC HS
    simp only [bind_bad] at HS
    clear hr
    go_wp2_with fail
    refine Calls.mono HC.out ?_
    intro e w' hp
    obtain ⟨rfl, ha⟩ := hp
    exact ⟨rfl, ppBad (unhide HS).symm ((unhide HA0).next ha)⟩
  | ok x1 j1 =>
    have HC := hide (must_any c tFunction w i d (unhide HR0) (by decide))
    rw [hr] at HC HS
    simp only [bind_ok] at HS
    clear hr
    go_wp2_with fail
    refine Calls.mono HC.out ?_
    intro e w1 hp
    obtain ⟨⟨v1, rfl, rfl⟩, hrd, ha⟩ := hp
    clear HC
    have HA1 := hide ((unhide HA0).next ha)
    have HR1 := hide hrd
    clear hrd ha HA0 HR0
    have HC := hide (atName_any c w1 j1 d (unhide HR1))
    cases hb : isName c.l j1 with
    | true =>
      rw [hb] at HC HS
      rw [if_pos rfl] at HS
      clear hb
      go_wp2_with fail
      refine Calls.mono HC.out ?_
      rintro e wq ⟨rfl, hbq⟩
      clear HC
      have HAq := hide ((unhide HA1).next (Ap.of hbq))
      have HRq := hide ((unhide HR1).later hbq)
      clear hbq HA1 HR1
      cases hr : nameP c.l j1 with
      | out =>
        rw [hr] at HS
        simp only [bind_out] at HS
        exact absurd (unhide HS).symm (unhide HO)
      | bad er p =>
        have HC := hide (name_any c wq j1 d (unhide HRq))
        rw [hr] at HC HS
        simp only [bind_bad] at HS
        clear hr
        go_wp2_with fail
        refine Calls.mono HC.out ?_
        intro e w' hp
        obtain ⟨rfl, ha⟩ := hp
        exact ⟨rfl, ppBad (unhide HS).symm ((unhide HAq).next ha)⟩
      | ok x2 j2 =>
        have HC := hide (name_any c wq j1 d (unhide HRq))
        rw [hr] at HC HS
        simp only [bind_ok] at HS
        clear hr
        go_wp2_with fail
        refine Calls.mono HC.out ?_
        intro e w2 hp
        obtain ⟨⟨v2, rfl, rfl⟩, hrd, ha⟩ := hp
        clear HC
        have HA2 := hide ((unhide HAq).next ha)
        have HR2 := hide hrd
        clear hrd ha HAq HRq
        cases hr : paramsP c.l F j2 with
        | out =>
          rw [hr] at HS
          simp only [bind_out] at HS
          exact absurd (unhide HS).symm (unhide HO)
        | bad er p =>
          have HC := hide (params_at (F := F) w2 d j2 (by rw [hr]; nofun) (unhide HR2))
          rw [hr] at HC HS
          simp only [bind_bad] at HS
          clear hr
          go_wp2_with fail
          refine Calls.mono HC.out ?_
          intro e w' hp
          obtain ⟨rfl, ha⟩ := hp
          exact ⟨rfl, ppBad (unhide HS).symm ((unhide HA2).next ha)⟩
        | ok x3 j3 =>
          have HC := hide (params_at (F := F) w2 d j2 (by rw [hr]; nofun) (unhide HR2))
          rw [hr] at HC HS
          simp only [bind_ok] at HS
          clear hr
          go_wp2_with fail
          refine Calls.mono HC.out ?_
          intro e w3 hp
          obtain ⟨⟨v3, rfl, p3, rfl, hn3⟩, hrd, ha⟩ := hp
          clear HC
          have HA3 := hide ((unhide HA2).next ha)
          have HR3 := hide hrd
          have HN3 := hide (nat_mono hn3 (unhide HA2).size)
          clear hn3
          clear hrd ha HA2 HR2
          have HNP := hide (NAt.mono (J := fun b => w.heap.size ≤ b ∧ b < w3.heap.size) (fun b hb hl => ⟨hb, hl⟩) _ _ (unhide HN3))
          cases hr : blockP c.l F d j3 with
          | out =>
            rw [hr] at HS
            simp only [bind_out] at HS
            exact absurd (unhide HS).symm (unhide HO)
          | bad er p =>
            have HC := hide (block_any hF hN w3 d j3 _ rfl (by rw [hr]; nofun) (unhide HR3))
            rw [hr] at HC HS
            simp only [bind_bad] at HS
            clear hr
            go_wp2_with fail
            refine Calls.mono HC.out ?_
            intro e w' hp
            obtain ⟨rfl, ha⟩ := hp
            exact ⟨rfl, ppBad (unhide HS).symm ((unhide HA3).next ha)⟩
          | ok tb jb =>
            have HX := hide (blockP_exprOk hK hr)
            have HC := hide (block_any hF hN w3 d j3 _ rfl (by rw [hr]; nofun) (unhide HR3))
            rw [hr] at HC HS
            simp only [bind_ok] at HS
            clear hr
            go_wp2_with fail
            refine Calls.mono HC.out ?_
            intro e wb hp
            obtain ⟨⟨vb, rfl, hn⟩, hrd, ha⟩ := hp
            clear HC
            have HAb := hide ((unhide HA3).next ha)
            have HRb := hide hrd
            have HLb := hide (unhide HLT)
            replace HNP := hide (NAt.later (fun b hb _ => ha.block b hb.2 (by have h1 := unhide HLT; have h2 := hb.1; omega)) _ _ (unhide HNP))
            have HC := hide (code_any w3.heap.size tb vb wb hn (unhide HX))
            clear hn hrd ha
            go_wp2_with fail
            refine Calls.mono HC.out ?_
            rintro e wc ⟨rfl, hev, hbw⟩
            clear HC
            have HAc := hide ((unhide HAb).trans ((Ap.of hbw).mono (unhide HA3).size))
            have HRc := hide ((unhide HRb).ap hbw (unhide HR3).base.size)
            replace HNP := hide (NAt.mono (J := From w.heap.size) (fun b hb _ => hb.1) _ _ (NAt.later (fun b hb _ => hbw.block b hb.2) _ _ (unhide HNP)))
            obtain ⟨pb, rfl, hnb⟩ := hev.nv
            have HNB := hide (nat_mono hnb (unhide HA3).size)
            clear hev hbw hnb
            have HC := hide (node_any 37 x2 (.slice (some ⟨wc.heap.size, 0, none⟩) 2 2) (wc.alloc (.cells #[nPtr p3, nPtr pb] 22)) ⟨_, _, _, rfl⟩)
            go_wp2_with fail
            refine Calls.mono HC.out ?_
            rintro e wn ⟨rfl, rfl⟩
            clear HC
            go_wp2_with fail
            go_ret
            obtain ⟨m1, m2, m3⟩ := made (unhide HRc) (unhide HAc) (NAts.cons (unhide HNP) (NAts.cons (unhide HNB) NAts.nil)) (by simp [maxLen]) #[nPtr p3, nPtr pb] rfl 2 rfl 37 x2 (wc.heap.size + 1) rfl
            exact ppOk (unhide HS).symm m1.nv m2 m3
    | false =>
      rw [hb] at HC HS
      rw [if_neg (by decide)] at HS
      clear hb
      go_wp2_with fail
      refine Calls.mono HC.out ?_
      rintro e wq ⟨rfl, hbq⟩
      clear HC
      have HAq := hide ((unhide HA1).next (Ap.of hbq))
      have HRq := hide ((unhide HR1).later hbq)
      clear hbq HA1 HR1
      cases hr : paramsP c.l F j1 with
      | out =>
        rw [hr] at HS
        simp only [bind_out] at HS
        exact absurd (unhide HS).symm (unhide HO)
      | bad er p =>
        have HC := hide (params_at (F := F) wq d j1 (by rw [hr]; nofun) (unhide HRq))
        rw [hr] at HC HS
        simp only [bind_bad] at HS
        clear hr
        go_wp2_with fail
        refine Calls.mono HC.out ?_
        intro e w' hp
        obtain ⟨rfl, ha⟩ := hp
        exact ⟨rfl, ppBad (unhide HS).symm ((unhide HAq).next ha)⟩
      | ok x2 j2 =>
        have HC := hide (params_at (F := F) wq d j1 (by rw [hr]; nofun) (unhide HRq))
        rw [hr] at HC HS
        simp only [bind_ok] at HS
        clear hr
        go_wp2_with fail
        refine Calls.mono HC.out ?_
        intro e w2 hp
        obtain ⟨⟨v2, rfl, p2, rfl, hn2⟩, hrd, ha⟩ := hp
        clear HC
        have HA2 := hide ((unhide HAq).next ha)
        have HR2 := hide hrd
        have HN2 := hide (nat_mono hn2 (unhide HAq).size)
        clear hn2
        clear hrd ha HAq HRq
        have HNP := hide (NAt.mono (J := fun b => w.heap.size ≤ b ∧ b < w2.heap.size) (fun b hb hl => ⟨hb, hl⟩) _ _ (unhide HN2))
        cases hr : blockP c.l F d j2 with
        | out =>
          rw [hr] at HS
          simp only [bind_out] at HS
          exact absurd (unhide HS).symm (unhide HO)
        | bad er p =>
          have HC := hide (block_any hF hN w2 d j2 _ rfl (by rw [hr]; nofun) (unhide HR2))
          rw [hr] at HC HS
          simp only [bind_bad] at HS
          clear hr
          go_wp2_with fail
          refine Calls.mono HC.out ?_
          intro e w' hp
          obtain ⟨rfl, ha⟩ := hp
          exact ⟨rfl, ppBad (unhide HS).symm ((unhide HA2).next ha)⟩
        | ok tb jb =>
          have HX := hide (blockP_exprOk hK hr)
          have HC := hide (block_any hF hN w2 d j2 _ rfl (by rw [hr]; nofun) (unhide HR2))
          rw [hr] at HC HS
          simp only [bind_ok] at HS
          clear hr
          go_wp2_with fail
          refine Calls.mono HC.out ?_
          intro e wb hp
          obtain ⟨⟨vb, rfl, hn⟩, hrd, ha⟩ := hp
          clear HC
          have HAb := hide ((unhide HA2).next ha)
          have HRb := hide hrd
          have HLb := hide (unhide HLT)
          replace HNP := hide (NAt.later (fun b hb _ => ha.block b hb.2 (by have h1 := unhide HLT; have h2 := hb.1; omega)) _ _ (unhide HNP))
          have HC := hide (code_any w2.heap.size tb vb wb hn (unhide HX))
          clear hn hrd ha
          go_wp2_with fail
          refine Calls.mono HC.out ?_
          rintro e wc ⟨rfl, hev, hbw⟩
          clear HC
          have HAc := hide ((unhide HAb).trans ((Ap.of hbw).mono (unhide HA2).size))
          have HRc := hide ((unhide HRb).ap hbw (unhide HR2).base.size)
          replace HNP := hide (NAt.mono (J := From w.heap.size) (fun b hb _ => hb.1) _ _ (NAt.later (fun b hb _ => hbw.block b hb.2) _ _ (unhide HNP)))
          obtain ⟨pb, rfl, hnb⟩ := hev.nv
          have HNB := hide (nat_mono hnb (unhide HA2).size)
          clear hev hbw hnb
          have HC := hide (node_any 37 noText (.slice (some ⟨wc.heap.size, 0, none⟩) 2 2) (wc.alloc (.cells #[nPtr p2, nPtr pb] 22)) ⟨_, _, _, rfl⟩)
          go_wp2_with fail
          refine Calls.mono HC.out ?_
          rintro e wn ⟨rfl, rfl⟩
          clear HC
          go_wp2_with fail
          go_ret
          obtain ⟨m1, m2, m3⟩ := made (unhide HRc) (unhide HAc) (NAts.cons (unhide HNP) (NAts.cons (unhide HNB) NAts.nil)) (by simp [maxLen]) #[nPtr p2, nPtr pb] rfl 2 rfl 37 noText (wc.heap.size + 1) rfl
          exact ppOk (unhide HS).symm m1.nv m2 m3


theorem st_some {c : Ctx} (f : Nat) (hen : ∀ args W, (callFunc f args).run Tryz.prog W = .ok (.enter f args) W) (w : World) (d i : Nat) (r : PR Tr) (ho : r ≠ .out) (q : Nat) (hq : look2 stKeys (fx c.l i) = some q) (hf : stFn q = f) (hp : ∀ W, Rdr c W i d → Calls Tryz.prog f #[rPtr c] W (PPost c W d (NV W.heap.size) r)) (h : Rdr c w i d) :
    Calls Tryz.prog 170 #[rPtr c] w (PPost c w d (NV w.heap.size) r) := by
  have HL : Hid (∀ W : World, Rdr c W i d → (Instr.lookup 168 (.map (some c.mT)) (.string (fx c.l i)) true).run Tryz.prog W = .ok (.tuple #[.func (.func f) #[.pointer (some ⟨c.R, 0, none⟩)] #[], .bool true]) W) := fun W hW => by
    have := look_stms c (fx c.l i) W hW.base.stms
    rw [hq] at this
    simp only [stVO, hf] at this
    exact this
  have HR0 := hide h
  have HA0 := hide (Ap.refl c.R w.heap.size w)
  have HP := hide hp
  have HLT := hide h.rlt
  have HO := hide ho
  clear h ho hq hf hp
  go_enter Tryz.func170, Tryz.ntmps170
  go_wp2_with fail
  refine wp_region_held (S := fun W => Rdr c W i d) (by kernel_rfl) ?_
  change wpAnyH _ _ _ _ _ _ _ _ (World.drew _)
  refine wpAnyH_take (i := 0) (v := rPtr c) rfl (by kernel_rfl) (by kernel_rfl) (by kernel_rfl) (fun _ _ _ h => h) (Or.inl ⟨by kernel_rfl, fun W _ => by go_simp⟩) (unhide HR0).drew ?_
  refine wpAnyH_take (i := 1) (v := rPtr c) rfl (by kernel_rfl) (by kernel_rfl) (by kernel_rfl) (fun _ _ _ h => h) (Or.inl ⟨by kernel_rfl, fun W _ => by go_simp⟩) (unhide HR0).drew ?_
  refine wpAnyH_take (i := 2) (v := .pointer (some ⟨c.R, 4, none⟩)) rfl (by kernel_rfl) (by kernel_rfl) (by kernel_rfl) (fun _ _ _ h => h) (Or.inl ⟨by kernel_rfl, fun W _ => by go_simp⟩) (unhide HR0).drew ?_
  refine wpAnyH_take (i := 3) (v := .map (some c.mT)) rfl (by kernel_rfl) (by kernel_rfl) (by kernel_rfl) (fun _ _ _ h => h) (Or.inl ⟨by kernel_rfl, fun W hW => by have hh := Rdr.c4 hW; go_simp⟩) (unhide HR0).drew ?_
  refine wpAnyH_take (i := 4) (v := rPtr c) rfl (by kernel_rfl) (by kernel_rfl) (by kernel_rfl) (fun _ _ _ h => h) (Or.inl ⟨by kernel_rfl, fun W _ => by go_simp⟩) (unhide HR0).drew ?_
  refine wpAnyH_ready (rs := [5]) (by kernel_rfl) (by simp) (AllReadyH.cons rfl (fun K hK => ?_) AllReadyH.nil)
  go_simp
  refine Calls.mono (fixed_any c _ i d (unhide HR0).drew) ?_
  rintro e wq ⟨rfl, hbq⟩
  have HRq := hide ((unhide HR0).drew.later hbq)
  have HAq := hide ((unhide HA0).next (Ap.of ((Below.refl _ _).drew.trans hbq)))
  clear hbq
  refine hK.out _ _ (unhide HRq) (fun _ => ?_)
  clear hK K
  refine wpAnyH_take (i := 6) (v := .tuple #[.func (.func f) #[.pointer (some ⟨c.R, 0, none⟩)] #[], .bool true]) rfl (by kernel_rfl) (by kernel_rfl) (by kernel_rfl) (fun _ _ _ h => h) (Or.inl ⟨by kernel_rfl, fun W hW => by have hh := (unhide HL) W hW; go_simp⟩) (unhide HRq) ?_
  refine wpAnyH_take (i := 7) (v := .tuple #[.func (.func f) #[.pointer (some ⟨c.R, 0, none⟩)] #[], .bool true]) rfl (by kernel_rfl) (by kernel_rfl) (by kernel_rfl) (fun _ _ _ h => h) (Or.inl ⟨by kernel_rfl, fun W _ => by go_simp⟩) (unhide HRq) ?_
  refine wpAnyH_take (i := 8) (v := .func (.func f) #[.pointer (some ⟨c.R, 0, none⟩)] #[]) rfl (by kernel_rfl) (by kernel_rfl) (by kernel_rfl) (fun _ _ _ h => h) (Or.inl ⟨by kernel_rfl, fun W _ => by go_simp⟩) (unhide HRq) ?_
  refine wpAnyH_take (i := 9) (v := .bool true) rfl (by kernel_rfl) (by kernel_rfl) (by kernel_rfl) (fun _ _ _ h => h) (Or.inl ⟨by kernel_rfl, fun W _ => by go_simp⟩) (unhide HRq) ?_
  refine wpAnyH_take (i := 10) (v := .func (.func f) #[.pointer (some ⟨c.R, 0, none⟩)] #[]) rfl (by kernel_rfl) (by kernel_rfl) (by kernel_rfl) (fun _ _ _ h => h) (Or.inl ⟨by kernel_rfl, fun W _ => by go_simp⟩) (unhide HRq) ?_
  refine wpAnyH_take (i := 11) (v := .bool true) rfl (by kernel_rfl) (by kernel_rfl) (by kernel_rfl) (fun _ _ _ h => h) (Or.inl ⟨by kernel_rfl, fun W _ => by go_simp⟩) (unhide HRq) ?_
  refine wpAnyH_done (by kernel_rfl) ?_ _
  go_simp
  have HC : Hid _ := unhide HP wq (unhide HRq)
  go_wp2_with fail
  refine Calls.mono HC.out ?_
  intro e w2 hp
  cases r with
  | out => exact absurd rfl (unhide HO)
  | bad er p =>
    obtain ⟨rfl, ha⟩ := hp
    exact ⟨rfl, ppBad rfl ((unhide HAq).next ha)⟩
  | ok x j =>
    obtain ⟨⟨v, rfl, hv⟩, hrd, ha⟩ := hp
    have HV := hide (NV.mono hv (unhide HAq).size)
    have HR2 := hide hrd
    have HA2 := hide ((unhide HAq).next ha)
    clear hv hrd ha
    go_wp2_with fail
    go_ret
    exact ppOk rfl (unhide HV) (unhide HR2) (unhide HA2)

theorem st_none {c : Ctx} {F : Fns} (hF : FC c F) (w : World) (d i : Nat) (r : PR Tr) (hs : exprP c.l F d i = r) (ho : r ≠ .out) (hq : look2 stKeys (fx c.l i) = none) (h : Rdr c w i d) : Calls Tryz.prog 170 #[rPtr c] w (PPost c w d (NV w.heap.size) r) := by
  have hmf := mf_bound c.R 222
  have HL : Hid (∀ W : World, Rdr c W i d → (Instr.lookup 168 (.map (some c.mT)) (.string (fx c.l i)) true).run Tryz.prog W = .ok (.tuple #[.nilFunc, .bool false]) W) := fun W hW => by
    have := look_stms c (fx c.l i) W hW.base.stms
    rw [hq] at this
    exact this
  clear hq
  have HR0 := hide h
  have HA0 := hide (Ap.refl c.R w.heap.size w)
  have HLT := hide h.rlt
  unfold exprP at hs
  have HS := hide hs
  have HO := hide ho
  clear h hs ho
  go_enter Tryz.func170, Tryz.ntmps170
  go_wp2_with fail
  refine wp_region_held (S := fun W => Rdr c W i d) (by kernel_rfl) ?_
  change wpAnyH _ _ _ _ _ _ _ _ (World.drew _)
  refine wpAnyH_take (i := 0) (v := rPtr c) rfl (by kernel_rfl) (by kernel_rfl) (by kernel_rfl) (fun _ _ _ h => h) (Or.inl ⟨by kernel_rfl, fun W _ => by go_simp⟩) (unhide HR0).drew ?_
  refine wpAnyH_take (i := 1) (v := rPtr c) rfl (by kernel_rfl) (by kernel_rfl) (by kernel_rfl) (fun _ _ _ h => h) (Or.inl ⟨by kernel_rfl, fun W _ => by go_simp⟩) (unhide HR0).drew ?_
  refine wpAnyH_take (i := 2) (v := .pointer (some ⟨c.R, 4, none⟩)) rfl (by kernel_rfl) (by kernel_rfl) (by kernel_rfl) (fun _ _ _ h => h) (Or.inl ⟨by kernel_rfl, fun W _ => by go_simp⟩) (unhide HR0).drew ?_
  refine wpAnyH_take (i := 3) (v := .map (some c.mT)) rfl (by kernel_rfl) (by kernel_rfl) (by kernel_rfl) (fun _ _ _ h => h) (Or.inl ⟨by kernel_rfl, fun W hW => by have hh := Rdr.c4 hW; go_simp⟩) (unhide HR0).drew ?_
  refine wpAnyH_take (i := 4) (v := rPtr c) rfl (by kernel_rfl) (by kernel_rfl) (by kernel_rfl) (fun _ _ _ h => h) (Or.inl ⟨by kernel_rfl, fun W _ => by go_simp⟩) (unhide HR0).drew ?_
  refine wpAnyH_ready (rs := [5]) (by kernel_rfl) (by simp) (AllReadyH.cons rfl (fun K hK => ?_) AllReadyH.nil)
  go_simp
  refine Calls.mono (fixed_any c _ i d (unhide HR0).drew) ?_
  rintro e wq ⟨rfl, hbq⟩
  have HRq := hide ((unhide HR0).drew.later hbq)
  have HAq := hide ((unhide HA0).next (Ap.of ((Below.refl _ _).drew.trans hbq)))
  clear hbq
  refine hK.out _ _ (unhide HRq) (fun _ => ?_)
  clear hK K
  refine wpAnyH_take (i := 6) (v := .tuple #[.nilFunc, .bool false]) rfl (by kernel_rfl) (by kernel_rfl) (by kernel_rfl) (fun _ _ _ h => h) (Or.inl ⟨by kernel_rfl, fun W hW => by have hh := (unhide HL) W hW; go_simp⟩) (unhide HRq) ?_
  refine wpAnyH_take (i := 7) (v := .tuple #[.nilFunc, .bool false]) rfl (by kernel_rfl) (by kernel_rfl) (by kernel_rfl) (fun _ _ _ h => h) (Or.inl ⟨by kernel_rfl, fun W _ => by go_simp⟩) (unhide HRq) ?_
  refine wpAnyH_take (i := 8) (v := .nilFunc) rfl (by kernel_rfl) (by kernel_rfl) (by kernel_rfl) (fun _ _ _ h => h) (Or.inl ⟨by kernel_rfl, fun W _ => by go_simp⟩) (unhide HRq) ?_
  refine wpAnyH_take (i := 9) (v := .bool false) rfl (by kernel_rfl) (by kernel_rfl) (by kernel_rfl) (fun _ _ _ h => h) (Or.inl ⟨by kernel_rfl, fun W _ => by go_simp⟩) (unhide HRq) ?_
  refine wpAnyH_take (i := 10) (v := .nilFunc) rfl (by kernel_rfl) (by kernel_rfl) (by kernel_rfl) (fun _ _ _ h => h) (Or.inl ⟨by kernel_rfl, fun W _ => by go_simp⟩) (unhide HRq) ?_
  refine wpAnyH_take (i := 11) (v := .bool false) rfl (by kernel_rfl) (by kernel_rfl) (by kernel_rfl) (fun _ _ _ h => h) (Or.inl ⟨by kernel_rfl, fun W _ => by go_simp⟩) (unhide HRq) ?_
  refine wpAnyH_done (by kernel_rfl) ?_ _
  go_simp
  cases hr : deepP c.l F.vl d i with
  | out =>
    rw [hr] at HS
    simp only [bind_out] at HS
    exact absurd (unhide HS).symm (unhide HO)
  | bad er p =>
    have HC := hide (deepV hF wq d i (unhide HRq) (by rw [hr]; nofun))
    rw [hr] at HC HS
    simp only [bind_bad] at HS
    clear hr
    go_wp2_with fail
    refine Calls.mono HC.out ?_
    intro e w' hp
    obtain ⟨rfl, ha⟩ := hp
    exact ⟨rfl, ppBad (unhide HS).symm ((unhide HAq).next ha)⟩
  | ok x1 j1 =>
    have HC := hide (deepV hF wq d i (unhide HRq) (by rw [hr]; nofun))
    rw [hr] at HC HS
    simp only [bind_ok] at HS
    clear hr
    go_wp2_with fail
    refine Calls.mono HC.out ?_
    intro e w1 hp
    obtain ⟨⟨v1, rfl, p1, rfl, hn1⟩, hrd, ha⟩ := hp
    clear HC
    have HA1 := hide ((unhide HAq).next ha)
    have HR1 := hide hrd
    have HN1 := hide (nat_mono hn1 (unhide HAq).size)
    clear hn1
    clear hrd ha HAq HRq
    cases hr : mustP c.l tSemi j1 with
    | out =>
      rw [hr] at HS
      simp only [bind_out] at HS
      exact absurd (unhide HS).symm (unhide HO)
    | bad er p =>
      have HC := hide (must_any c tSemi w1 j1 d (unhide HR1) (by decide))
      rw [hr] at HC HS
      simp only [bind_bad] at HS
      clear hr
      go_wp2_with fail
      refine Calls.mono HC.out ?_
      intro e w' hp
      obtain ⟨rfl, ha⟩ := hp
      exact ⟨rfl, ppBad (unhide HS).symm ((unhide HA1).next ha)⟩
    | ok x2 j2 =>
      have HC := hide (must_any c tSemi w1 j1 d (unhide HR1) (by decide))
      rw [hr] at HC HS
      simp only [bind_ok] at HS
      clear hr
      go_wp2_with fail
      refine Calls.mono HC.out ?_
      intro e w2 hp
      obtain ⟨⟨v2, rfl, rfl⟩, hrd, ha⟩ := hp
      clear HC
      have HA2 := hide ((unhide HA1).next ha)
      have HR2 := hide hrd
      replace HN1 := hide (nat_later (unhide HN1) ha (unhide HLT))
      clear hrd ha HA1 HR1
      have HC := hide (node_any 15 noText (.slice (some ⟨w2.heap.size, 0, none⟩) 1 1) (w2.alloc (.cells #[nPtr p1] 22)) ⟨_, _, _, rfl⟩)
      go_wp2_with fail
      refine Calls.mono HC.out ?_
      rintro e wn ⟨rfl, rfl⟩
      clear HC
      go_wp2_with fail
      go_ret
      obtain ⟨m1, m2, m3⟩ := made (unhide HR2) (unhide HA2) (NAts.cons (unhide HN1) NAts.nil) (by simp [maxLen]) #[nPtr p1] rfl 1 rfl 15 noText (w2.heap.size + 1) rfl
      exact ppOk (unhide HS).symm m1.nv m2 m3

end Go.Proofs.YtodmgaikhbmlnaaGreatDoor
