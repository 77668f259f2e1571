/-
  Statements that declare a name.
-/
import Derived.Test.YtodmgaikhbmlnaaGreatDoorTk14
import Derived.Test.YtodmgaikhbmlnaaGreatDoorTk8
set_option maxRecDepth 100000
set_option maxHeartbeats 16000000
namespace Go.Proofs.YtodmgaikhbmlnaaGreatDoor
open Go.RowKit

theorem decl_any {c : Ctx} {F : Fns} (hF : FC c F) (w : World) (d i : Nat) (r : PR Tr) (hk : (tkA c.l i).kd ≠ 6) (hs : declP c.l F d i = r) (ho : r ≠ .out) (h : Rdr c w i d) : Calls Tryz.prog 157 #[rPtr c] w (PPost c w d (NV w.heap.size) r) := by
  have hmf := mf_bound c.R 222
  have HKD := hide hk
  have HLO := hide h.base.size
  obtain ⟨i0, hi0, hz0, hz1, hz2⟩ := info_parts info22
  clear hk
  have HR0 := hide h
  have HA0 := hide (Ap.refl c.R w.heap.size w)
  have HLT := hide h.rlt
  unfold declP at hs
  have HS := hide hs
  have HO := hide ho
  clear h hs ho
  go_enter Tryz.func157, Tryz.ntmps157
  obtain ⟨hd, hhd⟩ : ∃ hd, hd = hdKind (tkA c.l i).tx := ⟨_, rfl⟩
  rw [← hhd] at HS
  have HC := hide (kind_any c w i d (unhide HR0) (unhide HKD))
  rw [← hhd] at HC
  clear hhd
  go_wp2_with fail
  refine Calls.mono HC.out ?_
  rintro e wk ⟨rfl, hrk, hak⟩
  clear HC
  have HRk := hide hrk
  have HAk := hide ((unhide HA0).next hak)
  clear hrk hak HR0 HA0
  cases hr : nameP c.l (i + 1) with
  | out =>
    rw [hr] at HS
    simp only [bind_out] at HS
    exact absurd (unhide HS).symm (unhide HO)
  | bad er p =>
    have HC := hide (name_any c wk (i + 1) d (unhide HRk))
    rw [hr] at HC HS
    simp only [bind_bad] at HS
    clear hr
    go_wp2_with fail
    refine Calls.mono HC.out ?_
    intro e w' hp
    obtain ⟨rfl, ha⟩ := hp
    exact ⟨rfl, ppBad (unhide HS).symm ((unhide HAk).next ha)⟩
  | ok x1 j1 =>
    have HC := hide (name_any c wk (i + 1) d (unhide HRk))
    rw [hr] at HC HS
    simp only [bind_ok] at HS
    clear hr
    go_wp2_with fail
    refine Calls.mono HC.out ?_
    intro e w1 hp
    obtain ⟨⟨v1, rfl, rfl⟩, hrd, ha⟩ := hp
    clear HC
    have HA1 := hide ((unhide HAk).next ha)
    have HR1 := hide hrd
    clear hrd ha HAk HRk
    have HC := hide (node_any hd x1 (.slice none 0 0) w1 ⟨_, _, _, rfl⟩)
    go_wp2_with fail
    refine Calls.mono HC.out ?_
    rintro e wn0 ⟨rfl, rfl⟩
    clear HC
    obtain ⟨m1, m2, m3⟩ := made0 (unhide HR1) (unhide HA1) (KV.nil _ _) hd x1 _ rfl
    obtain ⟨t0, ht0⟩ : ∃ t0 : Tr, t0 = .mk hd x1 0 [] := ⟨_, rfl⟩
    rw [← ht0] at m1
    have HKL : Hid (t0.kids.length = 0) := by
      show _ = _
      rw [ht0]; rfl
    have HTK : Hid (t0.kd = hd) := by
      show _ = _
      rw [ht0]; rfl
    have HT0 := hide ht0
    obtain ⟨p0, u0, ps0, hpe, hop⟩ := m1.opens
    have hpe2 : p0 = w1.heap.size := by simpa [nPtr] using hpe.symm
    obtain ⟨hk0, _, _, _, _⟩ := node_cells hop.blk
    rw [unhide HTK] at hk0
    have hkl0 := lt_of_heap hop.blk
    rw [hpe2] at hop hk0 hkl0
    have HOP0 := hide hop
    have HRn := hide m2
    have HAn := hide m3
    clear m1 m2 m3 hop hpe ht0
    obtain ⟨wn, hwn⟩ : ∃ wn, wn = w1.alloc (nodeObj hd x1 0 (.slice none 0 0)) := ⟨_, rfl⟩
    rw [← hwn] at HOP0 HRn HAn hk0 hkl0
    rw [← hpe2] at HOP0 hk0 hkl0
    rw [← hwn, ← hpe2]
    clear hwn hpe2
    by_cases h4 : hd = 4
    · have b4 : (hd == 4) = true := beq_iff_eq.2 h4
      have HC := hide (fixed_any c wn j1 d (unhide HRn))
      by_cases hx : fx c.l j1 = tEq
      · rw [if_neg (fun hh => hh.2 hx)] at HS
        have bx : ((fx c.l j1).toList == [61]) = true := tl_eqL (b := tEq) rfl hx
        clear h4
        go_wp2_with fail
        refine Calls.mono HC.out ?_
        rintro e wf ⟨rfl, hbf⟩
        clear HC
        have HRf := hide ((unhide HRn).later hbf)
        have HAf := hide ((unhide HAn).next (Ap.of hbf))
        have HOP := hide (Open.later (unhide HOP0) (Ap.of hbf) (unhide HLT))
        clear hbf hk0 hkl0
        clear hx
        by_cases hy : fx c.l j1 = tEq
        · rw [if_pos hy] at HS
          have HC := hide (take_yes c tEq wf j1 d (unhide HRf) hy (by decide))
          clear hy
          go_wp2_with fail
          refine Calls.mono HC.out ?_
          rintro e wy ⟨rfl, hry, hay⟩
          clear HC
          have HRy := hide hry
          have HAy := hide ((unhide HAf).next hay)
          replace HOP := hide (Open.later (unhide HOP) hay (unhide HLT))
          clear hry hay
          obtain ⟨hc3, hcf, hcl⟩ := (unhide HOP).cell
          obtain ⟨ua, uc, hue⟩ := (unhide HOP).shape
          subst hue
          cases hr : deepP c.l F.vl d (j1 + 1) with
          | out =>
            rw [hr] at HS
            simp only [bind_out] at HS
            exact absurd (unhide HS).symm (unhide HO)
          | bad er p =>
            have HC := hide (deepV hF wy.drew d (j1 + 1) (unhide HRy).drew (by rw [hr]; nofun))
            rw [hr] at HC HS
            simp only [bind_bad] at HS
            clear hr
            go_wp2_with fail
            refine wp_region_any (by kernel_rfl) ?_
            change wpAny _ _ _ _ _ _ _ (World.drew _)
            refine wpAny_take (i := 0) (v := nPtr p0) rfl (by kernel_rfl) (by kernel_rfl) (by kernel_rfl) (fun _ _ _ h => h) (Or.inl ⟨by kernel_rfl, fun w => by go_simp⟩) ?_
            refine wpAny_take (i := 1) (v := nPtr p0) rfl (by kernel_rfl) (by kernel_rfl) (by kernel_rfl) (fun _ _ _ h => h) (Or.inl ⟨by kernel_rfl, fun w => by go_simp⟩) ?_
            refine wpAny_take (i := 2) (v := nPtr p0) rfl (by kernel_rfl) (by kernel_rfl) (by kernel_rfl) (fun _ _ _ h => h) (Or.inl ⟨by kernel_rfl, fun w => by go_simp⟩) ?_
            refine wpAny_take (i := 3) (v := .pointer (some ⟨p0, 3, none⟩)) rfl (by kernel_rfl) (by kernel_rfl) (by kernel_rfl) (fun _ _ _ h => h) (Or.inl ⟨by kernel_rfl, fun w => by go_simp⟩) ?_
            refine wpAny_take (i := 5) (v := rPtr c) rfl (by kernel_rfl) (by kernel_rfl) (by kernel_rfl) (fun _ _ _ h => h) (Or.inl ⟨by kernel_rfl, fun w => by go_simp⟩) ?_
            refine wpAny_take (i := 6) (v := rPtr c) rfl (by kernel_rfl) (by kernel_rfl) (by kernel_rfl) (fun _ _ _ h => h) (Or.inl ⟨by kernel_rfl, fun w => by go_simp⟩) ?_
            refine wpAny_take (i := 7) (v := .func (.func 222) #[rPtr c] #[]) rfl (by kernel_rfl) (by kernel_rfl) (by kernel_rfl) (fun _ _ _ h => h) (Or.inl ⟨by kernel_rfl, fun w => by go_simp⟩) ?_
            refine wpAny_ready (rs := [4, 8]) (by kernel_rfl) (by simp) (AllReady.cons rfl (fun K hK => ?_) (AllReady.cons rfl (fun K hK => ?_) AllReady.nil))
            · go_simp
              refine hK _ _ ?_
              clear hK K
              refine wpAny_ready (rs := [8]) (by kernel_rfl) (by simp) (AllReady.cons rfl (fun K hK => ?_) AllReady.nil)
              go_simp
              refine Calls.mono HC.out ?_
              intro e w' hp
              obtain ⟨rfl, ha⟩ := hp
              exact ⟨rfl, ppBad (unhide HS).symm ((unhide HAy).drew.next ha)⟩
            · go_simp
              refine Calls.mono HC.out ?_
              intro e w' hp
              obtain ⟨rfl, ha⟩ := hp
              exact ⟨rfl, ppBad (unhide HS).symm ((unhide HAy).drew.next ha)⟩
          | ok tx1 jx =>
            have HC := hide (deepV hF wy.drew d (j1 + 1) (unhide HRy).drew (by rw [hr]; nofun))
            rw [hr] at HC HS
            simp only [bind_ok] at HS
            clear hr
            go_wp2_with fail
            refine via2 (H := fun wc pc => Ap c.R wy.heap.size wy wc ∧ Rdr c wc jx d ∧ NAt (From wy.heap.size) wc tx1 pc) (G := ?G1) (fun CONT => ?_) ?_
            rotate_left
            ·
              refine wp_region_any (by kernel_rfl) ?_
              change wpAny _ _ _ _ _ _ _ (World.drew _)
              refine wpAny_take (i := 0) (v := nPtr p0) rfl (by kernel_rfl) (by kernel_rfl) (by kernel_rfl) (fun _ _ _ h => h) (Or.inl ⟨by kernel_rfl, fun w => by go_simp⟩) ?_
              refine wpAny_take (i := 1) (v := nPtr p0) rfl (by kernel_rfl) (by kernel_rfl) (by kernel_rfl) (fun _ _ _ h => h) (Or.inl ⟨by kernel_rfl, fun w => by go_simp⟩) ?_
              refine wpAny_take (i := 2) (v := nPtr p0) rfl (by kernel_rfl) (by kernel_rfl) (by kernel_rfl) (fun _ _ _ h => h) (Or.inl ⟨by kernel_rfl, fun w => by go_simp⟩) ?_
              refine wpAny_take (i := 3) (v := .pointer (some ⟨p0, 3, none⟩)) rfl (by kernel_rfl) (by kernel_rfl) (by kernel_rfl) (fun _ _ _ h => h) (Or.inl ⟨by kernel_rfl, fun w => by go_simp⟩) ?_
              refine wpAny_take (i := 5) (v := rPtr c) rfl (by kernel_rfl) (by kernel_rfl) (by kernel_rfl) (fun _ _ _ h => h) (Or.inl ⟨by kernel_rfl, fun w => by go_simp⟩) ?_
              refine wpAny_take (i := 6) (v := rPtr c) rfl (by kernel_rfl) (by kernel_rfl) (by kernel_rfl) (fun _ _ _ h => h) (Or.inl ⟨by kernel_rfl, fun w => by go_simp⟩) ?_
              refine wpAny_take (i := 7) (v := .func (.func 222) #[rPtr c] #[]) rfl (by kernel_rfl) (by kernel_rfl) (by kernel_rfl) (fun _ _ _ h => h) (Or.inl ⟨by kernel_rfl, fun w => by go_simp⟩) ?_
              refine wpAny_ready (rs := [4, 8]) (by kernel_rfl) (by simp) (AllReady.cons rfl (fun K hK => ?_) (AllReady.cons rfl (fun K hK => ?_) AllReady.nil))
              · go_simp
                refine hK _ _ ?_
                clear hK K
                refine wpAny_ready (rs := [8]) (by kernel_rfl) (by simp) (AllReady.cons rfl (fun K hK => ?_) AllReady.nil)
                go_simp
                refine Calls.mono HC.out ?_
                intro e wc hp
                obtain ⟨⟨vc, rfl, pc, rfl, hnc⟩, hrd, ha⟩ := hp
                have ha0 := ((Ap.refl c.R wy.heap.size wy).drew).next ha
                have HY : Hid (Ap c.R wy.heap.size wy wc ∧ Rdr c wc jx d ∧ NAt (From wy.heap.size) wc tx1 pc) := ⟨ha0, hrd, hnc⟩
                obtain ⟨gc3, gcf, gcl⟩ := (Open.later (unhide HOP) ha0 (unhide HLT)).cell
                clear hrd ha ha0 hnc
                refine hK _ _ ?_
                clear hK K
                refine wpAny_ready (rs := [9]) (by kernel_rfl) (by simp) (AllReady.cons rfl (fun K hK => ?_) AllReady.nil)
                go_simp
                refine hK _ _ ?_
                clear hK K
                refine wpAny_same (listed' := #[true, true, true, true, true, true, true, true, true, true, false, false, false, false]) (by kernel_rfl) rfl ?_
                exact CONT wc pc HY.out
              · go_simp
                refine Calls.mono HC.out ?_
                intro e wc hp
                obtain ⟨⟨vc, rfl, pc, rfl, hnc⟩, hrd, ha⟩ := hp
                have ha0 := ((Ap.refl c.R wy.heap.size wy).drew).next ha
                have HY : Hid (Ap c.R wy.heap.size wy wc ∧ Rdr c wc jx d ∧ NAt (From wy.heap.size) wc tx1 pc) := ⟨ha0, hrd, hnc⟩
                obtain ⟨gc3, gcf, gcl⟩ := (Open.later (unhide HOP) ha0 (unhide HLT)).cell
                clear hrd ha ha0 hnc
                refine hK _ _ ?_
                clear hK K
                refine wpAny_ready (rs := [4, 9]) (by kernel_rfl) (by simp) (AllReady.cons rfl (fun K hK => ?_) (AllReady.cons rfl (fun K hK => ?_) AllReady.nil))
                · go_simp
                  refine hK _ _ ?_
                  clear hK K
                  refine wpAny_ready (rs := [9]) (by kernel_rfl) (by simp) (AllReady.cons rfl (fun K hK => ?_) AllReady.nil)
                  go_simp
                  refine hK _ _ ?_
                  clear hK K
                  exact wpAny_same (listed' := #[true, true, true, true, true, true, true, true, true, true, false, false, false, false]) (by kernel_rfl) (by kernel_rfl) (CONT wc pc HY.out)
                · go_simp
                  refine hK _ _ ?_
                  clear hK K
                  refine wpAny_ready (rs := [4]) (by kernel_rfl) (by simp) (AllReady.cons rfl (fun K hK => ?_) AllReady.nil)
                  go_simp
                  refine hK _ _ ?_
                  clear hK K
                  exact wpAny_same (listed' := #[true, true, true, true, true, true, true, true, true, true, false, false, false, false]) (by kernel_rfl) (by kernel_rfl) (CONT wc pc HY.out)
            intro wc pc hY
            obtain ⟨ha0, hrd, hnc⟩ := hY
            have HAc := hide ((unhide HAy).next ha0)
            have HRc := hide hrd
            have HOc := hide (Open.later (unhide HOP) ha0 (unhide HLT))
            have HNc := hide (Open.apart (unhide HOP) (unhide HAy).size (NAts.cons hnc NAts.nil))
            obtain ⟨gc3, gcf, gcl⟩ := (unhide HOc).cell
            clear hrd ha0 hnc
            have hlen := NAts.length _ _ (unhide HOc).kids
            have hown := (unhide HOc).row
            rw [hlen] at hown
            have HOWN := hide hown
            have hsz := (unhide HAc).size
            have hkl : t0.kids.length ≤ 3 := by rw [unhide HKL]; decide
            clear hown hlen
            refine wpAny_ready (rs := [10]) (by kernel_rfl) (by simp) (AllReady.cons rfl (fun K hK => ?_) AllReady.nil)
            refine step_append_lies _ rfl _ _ 36 rfl w.heap.size 22 i0 (.pointer none) 1 8 Tryz.underlying36 hi0 hz0 hz1 hz2 rfl (by decide) _ _ _ rfl ((unhide HOWN).alloc _) ⟨wc.heap.size, 0, none⟩ 1 1 [nPtr pc] rfl rfl (one_cells wc pc _ rfl) (one_one pc) (by decide) (by unfold maxLen; omega) (by omega) (by simp; omega) (wc.heap.size + 1) (by simp) ?_
            intro g cap w3 hown3 hgr3 hg3 _
            refine hK _ _ ?_
            clear hK K
            have HP1 := hide (push1 (unhide HOc) (unhide HNc) (unhide HRc) (unhide HAc) (unhide HLO) hown3 hgr3 hg3)
            have hp3 : w3.cell? ⟨p0, 3, none⟩ = wc.cell? ⟨p0, 3, none⟩ ∧ w3.frozen? ⟨p0, 3, none⟩ = wc.frozen? ⟨p0, 3, none⟩ := by
              have hbb : w3.heap[p0]? = wc.heap[p0]? := (hgr3.block p0 (by simp; omega) (fun e => (unhide HOc).own e.symm)).trans (Below.heap_alloc wc _ p0 gcl)
              exact ⟨World.cell?_of_block (w := wc) hbb, World.frozen?_of_block (w := wc) hbb⟩
            obtain ⟨hp3c, hp3f⟩ := hp3
            rw [gc3] at hp3c
            rw [gcf 3] at hp3f
            clear hown3 hgr3 hg3
            refine wpAny_take (i := 11) (v := nPtr p0) rfl (by kernel_rfl) (by kernel_rfl) (by kernel_rfl) (fun _ _ _ h => h) (Or.inl ⟨by kernel_rfl, fun w => by go_simp⟩) ?_
            refine wpAny_take (i := 12) (v := .pointer (some ⟨p0, 3, none⟩)) rfl (by kernel_rfl) (by kernel_rfl) (by kernel_rfl) (fun _ _ _ h => h) (Or.inl ⟨by kernel_rfl, fun w => by go_simp⟩) ?_
            refine wpAny_ready (rs := [13]) (by kernel_rfl) (by simp) (AllReady.cons rfl (fun K hK => ?_) AllReady.nil)
            go_simp
            refine hK _ _ ?_
            clear hK K hp3c hp3f gc3 gcf gcl HOWN
            refine wpAny_done (by kernel_rfl) ?_ _
            go_simp
            obtain ⟨m1, m2, m3⟩ := unhide HP1
            have HM1 := hide m1
            have HM2 := hide m2
            have HM3 := hide m3
            clear m1 m2 m3
            cases hr : mustP c.l tSemi jx with
            | out =>
              rw [hr] at HS
              simp only [bind_out] at HS
              exact absurd (unhide HS).symm (unhide HO)
            | bad er p =>
              have HC := hide (must_any c tSemi (w3.setCell ⟨p0, 3, none⟩ (.slice (some ⟨g, 0, none⟩) (t0.kids.length + 1) cap)) jx d (unhide HM2) (by decide))
              rw [hr] at HC HS
              simp only [bind_bad] at HS
              clear hr
              go_wp2_with fail
              refine Calls.mono HC.out ?_
              intro e w' hp
              obtain ⟨rfl, ha⟩ := hp
              exact ⟨rfl, ppBad (unhide HS).symm ((unhide HM3).next ha)⟩
            | ok x2 j2 =>
              have HC := hide (must_any c tSemi (w3.setCell ⟨p0, 3, none⟩ (.slice (some ⟨g, 0, none⟩) (t0.kids.length + 1) cap)) jx d (unhide HM2) (by decide))
              rw [hr] at HC HS
              simp only [bind_ok] at HS
              clear hr
              go_wp2_with fail
              refine Calls.mono HC.out ?_
              intro e w2 hp
              obtain ⟨⟨v2, rfl, rfl⟩, hrd, ha⟩ := hp
              clear HC
              have HA2 := hide ((unhide HM3).next ha)
              have HR2 := hide hrd
              replace HM1 := hide (EV.later (unhide HM1) ha (unhide HLT))
              clear hrd ha HM3 HM2
              have ht0 := unhide HT0
              subst ht0
              go_wp2_with fail
              go_ret
              exact ppOk (unhide HS).symm (unhide HM1).nv (unhide HR2) (unhide HA2)
        · rw [if_neg hy] at HS
          have HC := hide (take_not c tEq wf j1 d (unhide HRf) hy)
          clear hy
          go_wp2_with fail
          refine Calls.mono HC.out ?_
          rintro e wy ⟨rfl, hby⟩
          clear HC
          have HRy := hide ((unhide HRf).later hby)
          have HAy := hide ((unhide HAf).next (Ap.of hby))
          have HM1 := hide (Open.later (unhide HOP) (Ap.of hby) (unhide HLT)).ev
          clear hby
          cases hr : mustP c.l tSemi j1 with
          | out =>
            rw [hr] at HS
            simp only [bind_out] at HS
            exact absurd (unhide HS).symm (unhide HO)
          | bad er p =>
            have HC := hide (must_any c tSemi wy j1 d (unhide HRy) (by decide))
            rw [hr] at HC HS
            simp only [bind_bad] at HS
            clear hr
            go_wp2_with fail
            refine Calls.mono HC.out ?_
            intro e w' hp
            obtain ⟨rfl, ha⟩ := hp
            exact ⟨rfl, ppBad (unhide HS).symm ((unhide HAy).next ha)⟩
          | ok x2 j2 =>
            have HC := hide (must_any c tSemi wy j1 d (unhide HRy) (by decide))
            rw [hr] at HC HS
            simp only [bind_ok] at HS
            clear hr
            go_wp2_with fail
            refine Calls.mono HC.out ?_
            intro e w2 hp
            obtain ⟨⟨v2, rfl, rfl⟩, hrd, ha⟩ := hp
            clear HC
            have HA2 := hide ((unhide HAy).next ha)
            have HR2 := hide hrd
            replace HM1 := hide (EV.later (unhide HM1) ha (unhide HLT))
            clear hrd ha HAy HRy
            have ht0 := unhide HT0
            subst ht0
            go_wp2_with fail
            go_ret
            exact ppOk (unhide HS).symm (unhide HM1).nv (unhide HR2) (unhide HA2)
      · rw [if_pos ⟨h4, hx⟩] at HS
        have bx : ((fx c.l j1).toList == [61]) = false := tl_neL (b := tEq) rfl hx
        clear h4 hx
        go_wp2_with fail
        refine Calls.mono HC.out ?_
        rintro e wf ⟨rfl, hbf⟩
        clear HC
        have HRf := hide ((unhide HRn).later hbf)
        have HAf := hide ((unhide HAn).next (Ap.of hbf))
        have HOP := hide (Open.later (unhide HOP0) (Ap.of hbf) (unhide HLT))
        clear hbf hk0 hkl0
        have HC := hide (fault_any c 3 wf j1 d (unhide HRf))
        go_wp2_with fail
        refine Calls.mono HC.out ?_
        rintro e w9 ⟨rfl, hb9⟩
        exact ⟨rfl, ppBad (unhide HS).symm ((unhide HAf).next (Ap.of hb9))⟩
    · have b4 : (hd == 4) = false := beq_eq_false_iff_ne.2 h4
      rw [if_neg (fun hh => h4 hh.1)] at HS
      clear h4
      have HOP := hide (unhide HOP0)
      by_cases hy : fx c.l j1 = tEq
      · rw [if_pos hy] at HS
        have HC := hide (take_yes c tEq wn j1 d (unhide HRn) hy (by decide))
        clear hy
        go_wp2_with fail
        refine Calls.mono HC.out ?_
        rintro e wy ⟨rfl, hry, hay⟩
        clear HC
        have HRy := hide hry
        have HAy := hide ((unhide HAn).next hay)
        replace HOP := hide (Open.later (unhide HOP) hay (unhide HLT))
        clear hry hay
        obtain ⟨hc3, hcf, hcl⟩ := (unhide HOP).cell
        obtain ⟨ua, uc, hue⟩ := (unhide HOP).shape
        subst hue
        cases hr : deepP c.l F.vl d (j1 + 1) with
        | out =>
          rw [hr] at HS
          simp only [bind_out] at HS
          exact absurd (unhide HS).symm (unhide HO)
        | bad er p =>
          have HC := hide (deepV hF wy.drew d (j1 + 1) (unhide HRy).drew (by rw [hr]; nofun))
          rw [hr] at HC HS
          simp only [bind_bad] at HS
          clear hr
          go_wp2_with fail
          refine wp_region_any (by kernel_rfl) ?_
          change wpAny _ _ _ _ _ _ _ (World.drew _)
          refine wpAny_take (i := 0) (v := nPtr p0) rfl (by kernel_rfl) (by kernel_rfl) (by kernel_rfl) (fun _ _ _ h => h) (Or.inl ⟨by kernel_rfl, fun w => by go_simp⟩) ?_
          refine wpAny_take (i := 1) (v := nPtr p0) rfl (by kernel_rfl) (by kernel_rfl) (by kernel_rfl) (fun _ _ _ h => h) (Or.inl ⟨by kernel_rfl, fun w => by go_simp⟩) ?_
          refine wpAny_take (i := 2) (v := nPtr p0) rfl (by kernel_rfl) (by kernel_rfl) (by kernel_rfl) (fun _ _ _ h => h) (Or.inl ⟨by kernel_rfl, fun w => by go_simp⟩) ?_
          refine wpAny_take (i := 3) (v := .pointer (some ⟨p0, 3, none⟩)) rfl (by kernel_rfl) (by kernel_rfl) (by kernel_rfl) (fun _ _ _ h => h) (Or.inl ⟨by kernel_rfl, fun w => by go_simp⟩) ?_
          refine wpAny_take (i := 5) (v := rPtr c) rfl (by kernel_rfl) (by kernel_rfl) (by kernel_rfl) (fun _ _ _ h => h) (Or.inl ⟨by kernel_rfl, fun w => by go_simp⟩) ?_
          refine wpAny_take (i := 6) (v := rPtr c) rfl (by kernel_rfl) (by kernel_rfl) (by kernel_rfl) (fun _ _ _ h => h) (Or.inl ⟨by kernel_rfl, fun w => by go_simp⟩) ?_
          refine wpAny_take (i := 7) (v := .func (.func 222) #[rPtr c] #[]) rfl (by kernel_rfl) (by kernel_rfl) (by kernel_rfl) (fun _ _ _ h => h) (Or.inl ⟨by kernel_rfl, fun w => by go_simp⟩) ?_
          refine wpAny_ready (rs := [4, 8]) (by kernel_rfl) (by simp) (AllReady.cons rfl (fun K hK => ?_) (AllReady.cons rfl (fun K hK => ?_) AllReady.nil))
          · go_simp
            refine hK _ _ ?_
            clear hK K
            refine wpAny_ready (rs := [8]) (by kernel_rfl) (by simp) (AllReady.cons rfl (fun K hK => ?_) AllReady.nil)
            go_simp
            refine Calls.mono HC.out ?_
            intro e w' hp
            obtain ⟨rfl, ha⟩ := hp
            exact ⟨rfl, ppBad (unhide HS).symm ((unhide HAy).drew.next ha)⟩
          · go_simp
            refine Calls.mono HC.out ?_
            intro e w' hp
            obtain ⟨rfl, ha⟩ := hp
            exact ⟨rfl, ppBad (unhide HS).symm ((unhide HAy).drew.next ha)⟩
        | ok tx1 jx =>
          have HC := hide (deepV hF wy.drew d (j1 + 1) (unhide HRy).drew (by rw [hr]; nofun))
          rw [hr] at HC HS
          simp only [bind_ok] at HS
          clear hr
          go_wp2_with fail
          refine via2 (H := fun wc pc => Ap c.R wy.heap.size wy wc ∧ Rdr c wc jx d ∧ NAt (From wy.heap.size) wc tx1 pc) (G := ?G2) (fun CONT => ?_) ?_
          rotate_left
          ·
            refine wp_region_any (by kernel_rfl) ?_
            change wpAny _ _ _ _ _ _ _ (World.drew _)
            refine wpAny_take (i := 0) (v := nPtr p0) rfl (by kernel_rfl) (by kernel_rfl) (by kernel_rfl) (fun _ _ _ h => h) (Or.inl ⟨by kernel_rfl, fun w => by go_simp⟩) ?_
            refine wpAny_take (i := 1) (v := nPtr p0) rfl (by kernel_rfl) (by kernel_rfl) (by kernel_rfl) (fun _ _ _ h => h) (Or.inl ⟨by kernel_rfl, fun w => by go_simp⟩) ?_
            refine wpAny_take (i := 2) (v := nPtr p0) rfl (by kernel_rfl) (by kernel_rfl) (by kernel_rfl) (fun _ _ _ h => h) (Or.inl ⟨by kernel_rfl, fun w => by go_simp⟩) ?_
            refine wpAny_take (i := 3) (v := .pointer (some ⟨p0, 3, none⟩)) rfl (by kernel_rfl) (by kernel_rfl) (by kernel_rfl) (fun _ _ _ h => h) (Or.inl ⟨by kernel_rfl, fun w => by go_simp⟩) ?_
            refine wpAny_take (i := 5) (v := rPtr c) rfl (by kernel_rfl) (by kernel_rfl) (by kernel_rfl) (fun _ _ _ h => h) (Or.inl ⟨by kernel_rfl, fun w => by go_simp⟩) ?_
            refine wpAny_take (i := 6) (v := rPtr c) rfl (by kernel_rfl) (by kernel_rfl) (by kernel_rfl) (fun _ _ _ h => h) (Or.inl ⟨by kernel_rfl, fun w => by go_simp⟩) ?_
            refine wpAny_take (i := 7) (v := .func (.func 222) #[rPtr c] #[]) rfl (by kernel_rfl) (by kernel_rfl) (by kernel_rfl) (fun _ _ _ h => h) (Or.inl ⟨by kernel_rfl, fun w => by go_simp⟩) ?_
            refine wpAny_ready (rs := [4, 8]) (by kernel_rfl) (by simp) (AllReady.cons rfl (fun K hK => ?_) (AllReady.cons rfl (fun K hK => ?_) AllReady.nil))
            · go_simp
              refine hK _ _ ?_
              clear hK K
              refine wpAny_ready (rs := [8]) (by kernel_rfl) (by simp) (AllReady.cons rfl (fun K hK => ?_) AllReady.nil)
              go_simp
              refine Calls.mono HC.out ?_
              intro e wc hp
              obtain ⟨⟨vc, rfl, pc, rfl, hnc⟩, hrd, ha⟩ := hp
              have ha0 := ((Ap.refl c.R wy.heap.size wy).drew).next ha
              have HY : Hid (Ap c.R wy.heap.size wy wc ∧ Rdr c wc jx d ∧ NAt (From wy.heap.size) wc tx1 pc) := ⟨ha0, hrd, hnc⟩
              obtain ⟨gc3, gcf, gcl⟩ := (Open.later (unhide HOP) ha0 (unhide HLT)).cell
              clear hrd ha ha0 hnc
              refine hK _ _ ?_
              clear hK K
              refine wpAny_ready (rs := [9]) (by kernel_rfl) (by simp) (AllReady.cons rfl (fun K hK => ?_) AllReady.nil)
              go_simp
              refine hK _ _ ?_
              clear hK K
              refine wpAny_same (listed' := #[true, true, true, true, true, true, true, true, true, true, false, false, false, false]) (by kernel_rfl) rfl ?_
              exact CONT wc pc HY.out
            · go_simp
              refine Calls.mono HC.out ?_
              intro e wc hp
              obtain ⟨⟨vc, rfl, pc, rfl, hnc⟩, hrd, ha⟩ := hp
              have ha0 := ((Ap.refl c.R wy.heap.size wy).drew).next ha
              have HY : Hid (Ap c.R wy.heap.size wy wc ∧ Rdr c wc jx d ∧ NAt (From wy.heap.size) wc tx1 pc) := ⟨ha0, hrd, hnc⟩
              obtain ⟨gc3, gcf, gcl⟩ := (Open.later (unhide HOP) ha0 (unhide HLT)).cell
              clear hrd ha ha0 hnc
              refine hK _ _ ?_
              clear hK K
              refine wpAny_ready (rs := [4, 9]) (by kernel_rfl) (by simp) (AllReady.cons rfl (fun K hK => ?_) (AllReady.cons rfl (fun K hK => ?_) AllReady.nil))
              · go_simp
                refine hK _ _ ?_
                clear hK K
                refine wpAny_ready (rs := [9]) (by kernel_rfl) (by simp) (AllReady.cons rfl (fun K hK => ?_) AllReady.nil)
                go_simp
                refine hK _ _ ?_
                clear hK K
                exact wpAny_same (listed' := #[true, true, true, true, true, true, true, true, true, true, false, false, false, false]) (by kernel_rfl) (by kernel_rfl) (CONT wc pc HY.out)
              · go_simp
                refine hK _ _ ?_
                clear hK K
                refine wpAny_ready (rs := [4]) (by kernel_rfl) (by simp) (AllReady.cons rfl (fun K hK => ?_) AllReady.nil)
                go_simp
                refine hK _ _ ?_
                clear hK K
                exact wpAny_same (listed' := #[true, true, true, true, true, true, true, true, true, true, false, false, false, false]) (by kernel_rfl) (by kernel_rfl) (CONT wc pc HY.out)
          intro wc pc hY
          obtain ⟨ha0, hrd, hnc⟩ := hY
          have HAc := hide ((unhide HAy).next ha0)
          have HRc := hide hrd
          have HOc := hide (Open.later (unhide HOP) ha0 (unhide HLT))
          have HNc := hide (Open.apart (unhide HOP) (unhide HAy).size (NAts.cons hnc NAts.nil))
          obtain ⟨gc3, gcf, gcl⟩ := (unhide HOc).cell
          clear hrd ha0 hnc
          have hlen := NAts.length _ _ (unhide HOc).kids
          have hown := (unhide HOc).row
          rw [hlen] at hown
          have HOWN := hide hown
          have hsz := (unhide HAc).size
          have hkl : t0.kids.length ≤ 3 := by rw [unhide HKL]; decide
          clear hown hlen
          refine wpAny_ready (rs := [10]) (by kernel_rfl) (by simp) (AllReady.cons rfl (fun K hK => ?_) AllReady.nil)
          refine step_append_lies _ rfl _ _ 36 rfl w.heap.size 22 i0 (.pointer none) 1 8 Tryz.underlying36 hi0 hz0 hz1 hz2 rfl (by decide) _ _ _ rfl ((unhide HOWN).alloc _) ⟨wc.heap.size, 0, none⟩ 1 1 [nPtr pc] rfl rfl (one_cells wc pc _ rfl) (one_one pc) (by decide) (by unfold maxLen; omega) (by omega) (by simp; omega) (wc.heap.size + 1) (by simp) ?_
          intro g cap w3 hown3 hgr3 hg3 _
          refine hK _ _ ?_
          clear hK K
          have HP1 := hide (push1 (unhide HOc) (unhide HNc) (unhide HRc) (unhide HAc) (unhide HLO) hown3 hgr3 hg3)
          have hp3 : w3.cell? ⟨p0, 3, none⟩ = wc.cell? ⟨p0, 3, none⟩ ∧ w3.frozen? ⟨p0, 3, none⟩ = wc.frozen? ⟨p0, 3, none⟩ := by
            have hbb : w3.heap[p0]? = wc.heap[p0]? := (hgr3.block p0 (by simp; omega) (fun e => (unhide HOc).own e.symm)).trans (Below.heap_alloc wc _ p0 gcl)
            exact ⟨World.cell?_of_block (w := wc) hbb, World.frozen?_of_block (w := wc) hbb⟩
          obtain ⟨hp3c, hp3f⟩ := hp3
          rw [gc3] at hp3c
          rw [gcf 3] at hp3f
          clear hown3 hgr3 hg3
          refine wpAny_take (i := 11) (v := nPtr p0) rfl (by kernel_rfl) (by kernel_rfl) (by kernel_rfl) (fun _ _ _ h => h) (Or.inl ⟨by kernel_rfl, fun w => by go_simp⟩) ?_
          refine wpAny_take (i := 12) (v := .pointer (some ⟨p0, 3, none⟩)) rfl (by kernel_rfl) (by kernel_rfl) (by kernel_rfl) (fun _ _ _ h => h) (Or.inl ⟨by kernel_rfl, fun w => by go_simp⟩) ?_
          refine wpAny_ready (rs := [13]) (by kernel_rfl) (by simp) (AllReady.cons rfl (fun K hK => ?_) AllReady.nil)
          go_simp
          refine hK _ _ ?_
          clear hK K hp3c hp3f gc3 gcf gcl HOWN
          refine wpAny_done (by kernel_rfl) ?_ _
          go_simp
          obtain ⟨m1, m2, m3⟩ := unhide HP1
          have HM1 := hide m1
          have HM2 := hide m2
          have HM3 := hide m3
          clear m1 m2 m3
          cases hr : mustP c.l tSemi jx with
          | out =>
            rw [hr] at HS
            simp only [bind_out] at HS
            exact absurd (unhide HS).symm (unhide HO)
          | bad er p =>
            have HC := hide (must_any c tSemi (w3.setCell ⟨p0, 3, none⟩ (.slice (some ⟨g, 0, none⟩) (t0.kids.length + 1) cap)) jx d (unhide HM2) (by decide))
            rw [hr] at HC HS
            simp only [bind_bad] at HS
            clear hr
            go_wp2_with fail
            refine Calls.mono HC.out ?_
            intro e w' hp
            obtain ⟨rfl, ha⟩ := hp
            exact ⟨rfl, ppBad (unhide HS).symm ((unhide HM3).next ha)⟩
          | ok x2 j2 =>
            have HC := hide (must_any c tSemi (w3.setCell ⟨p0, 3, none⟩ (.slice (some ⟨g, 0, none⟩) (t0.kids.length + 1) cap)) jx d (unhide HM2) (by decide))
            rw [hr] at HC HS
            simp only [bind_ok] at HS
            clear hr
            go_wp2_with fail
            refine Calls.mono HC.out ?_
            intro e w2 hp
            obtain ⟨⟨v2, rfl, rfl⟩, hrd, ha⟩ := hp
            clear HC
            have HA2 := hide ((unhide HM3).next ha)
            have HR2 := hide hrd
            replace HM1 := hide (EV.later (unhide HM1) ha (unhide HLT))
            clear hrd ha HM3 HM2
            have ht0 := unhide HT0
            subst ht0
            go_wp2_with fail
            go_ret
            exact ppOk (unhide HS).symm (unhide HM1).nv (unhide HR2) (unhide HA2)
      · rw [if_neg hy] at HS
        have HC := hide (take_not c tEq wn j1 d (unhide HRn) hy)
        clear hy
        go_wp2_with fail
        refine Calls.mono HC.out ?_
        rintro e wy ⟨rfl, hby⟩
        clear HC
        have HRy := hide ((unhide HRn).later hby)
        have HAy := hide ((unhide HAn).next (Ap.of hby))
        have HM1 := hide (Open.later (unhide HOP) (Ap.of hby) (unhide HLT)).ev
        clear hby
        cases hr : mustP c.l tSemi j1 with
        | out =>
          rw [hr] at HS
          simp only [bind_out] at HS
          exact absurd (unhide HS).symm (unhide HO)
        | bad er p =>
          have HC := hide (must_any c tSemi wy j1 d (unhide HRy) (by decide))
          rw [hr] at HC HS
          simp only [bind_bad] at HS
          clear hr
          go_wp2_with fail
          refine Calls.mono HC.out ?_
          intro e w' hp
          obtain ⟨rfl, ha⟩ := hp
          exact ⟨rfl, ppBad (unhide HS).symm ((unhide HAy).next ha)⟩
        | ok x2 j2 =>
          have HC := hide (must_any c tSemi wy j1 d (unhide HRy) (by decide))
          rw [hr] at HC HS
          simp only [bind_ok] at HS
          clear hr
          go_wp2_with fail
          refine Calls.mono HC.out ?_
          intro e w2 hp
          obtain ⟨⟨v2, rfl, rfl⟩, hrd, ha⟩ := hp
          clear HC
          have HA2 := hide ((unhide HAy).next ha)
          have HR2 := hide hrd
          replace HM1 := hide (EV.later (unhide HM1) ha (unhide HLT))
          clear hrd ha HAy HRy
          have ht0 := unhide HT0
          subst ht0
          go_wp2_with fail
          go_ret
          exact ppOk (unhide HS).symm (unhide HM1).nv (unhide HR2) (unhide HA2)

end Go.Proofs.YtodmgaikhbmlnaaGreatDoor
