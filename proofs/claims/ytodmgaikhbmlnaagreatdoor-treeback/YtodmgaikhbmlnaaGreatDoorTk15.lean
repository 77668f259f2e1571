/-
  if, with an else and without; what is given.
-/
import Derived.Test.YtodmgaikhbmlnaaGreatDoorTk14
import Derived.Test.YtodmgaikhbmlnaaGreatDoorTk8
import Derived.Test.YtodmgaikhbmlnaaGreatDoorTk13
set_option maxRecDepth 100000
set_option maxHeartbeats 16000000
namespace Go.Proofs.YtodmgaikhbmlnaaGreatDoor
open Go.RowKit

theorem choice_eq (l : List Tk) (F : Fns) (d i : Nat) : choiceP l F d i = (behindP l F d i).bind fun n i2 =>
    if fx l i2 = tElse then (deepP l F.st d (i2 + 1)).bind fun s2 i3 => .ok (.mk n.kd n.tx n.n (n.kids ++ [s2])) i3 else .ok n i2 := by
  unfold choiceP behindP
  cases inParP l F d (i + 1) with
  | out => rfl
  | bad er p => rfl
  | ok v i1 =>
    simp only [bind_ok]
    cases deepP l F.st d i1 with
    | out => rfl
    | bad er p => rfl
    | ok s i2 => rfl
theorem behind_kids {l : List Tk} {F : Fns} {d i j : Nat} {t : Tr} (h : behindP l F d i = .ok t j) : t.kids.length = 2 := by
  unfold behindP at h
  cases h1 : inParP l F d (i + 1) with
  | out => rw [h1] at h; cases h
  | bad er p => rw [h1] at h; cases h
  | ok v i1 =>
    rw [h1, bind_ok] at h
    cases h2 : deepP l F.st d i1 with
    | out => rw [h2] at h; cases h
    | bad er p => rw [h2] at h; cases h
    | ok s i2 => rw [h2, bind_ok] at h; cases h; rfl

theorem choice_any {c : Ctx} {F : Fns} (hF : FC c F) (w : World) (d i : Nat) (r : PR Tr) (hk : (tkA c.l i).kd ≠ 6) (hs : choiceP c.l F d i = r) (ho : r ≠ .out) (h : Rdr c w i d) : Calls Tryz.prog 161 #[rPtr c] w (PPost c w d (NV w.heap.size) r) := by
  have hmf := mf_bound c.R 170
  have HKD := hide hk
  have HLO := hide h.base.size
  obtain ⟨i0, hi0, hz0, hz1, hz2⟩ := info_parts info22
  rw [choice_eq] at hs
  clear hk
  have HR0 := hide h
  have HA0 := hide (Ap.refl c.R w.heap.size w)
  have HLT := hide h.rlt
  have HS := hide hs
  have HO := hide ho
  clear h hs ho
  go_enter Tryz.func161, Tryz.ntmps161
  cases hr : behindP c.l F d i with
  | out =>
    rw [hr] at HS
    simp only [bind_out] at HS
    exact absurd (unhide HS).symm (unhide HO)
  | bad er p =>
    have HC := hide (behind_any hF w d i _ (unhide HKD) rfl (by rw [hr]; nofun) (unhide HR0))
    rw [hr] at HC HS
    simp only [bind_bad] at HS
    clear hr
    go_wp2_with fail
    refine Calls.mono HC.out ?_
    intro e w' hp
    obtain ⟨rfl, ha⟩ := hp
    exact ⟨rfl, ppBad (unhide HS).symm ((unhide HA0).next ha)⟩
  | ok x1 j1 =>
    have HKL := hide (behind_kids hr)
    have HC := hide (behind_any hF w d i _ (unhide HKD) rfl (by rw [hr]; nofun) (unhide HR0))
    rw [hr] at HC HS
    simp only [bind_ok] at HS
    clear hr
    go_wp2_with fail
    refine Calls.mono HC.out ?_
    intro e w1 hp
    obtain ⟨⟨v1, rfl, hn1⟩, hrd, ha⟩ := hp
    clear HC
    have HA1 := hide ((unhide HA0).next ha)
    have HR1 := hide hrd
    have HN1 := hide (EV.mono hn1 (unhide HA0).size)
    clear hn1
    clear hrd ha HA0 HR0
    obtain ⟨p0, u0, ps0, rfl, hop⟩ := (unhide HN1).opens
    have HOP := hide hop
    clear hop HN1
    by_cases hx : fx c.l j1 = tElse
    · rw [if_pos hx] at HS
      have HC := hide (take_yes c tElse w1 j1 d (unhide HR1) hx (by decide))
      clear hx
      go_wp2_with fail
      refine Calls.mono HC.out ?_
      rintro e w2 ⟨rfl, hr2, ha2⟩
      clear HC
      have HR2 := hide hr2
      have HA2 := hide ((unhide HA1).next ha2)
      replace HOP := hide (Open.later (unhide HOP) ha2 (unhide HLT))
      clear hr2 ha2 HR1 HA1
      obtain ⟨hc3, hcf, hcl⟩ := (unhide HOP).cell
      obtain ⟨ua, uc, hue⟩ := (unhide HOP).shape
      subst hue
      cases hr : deepP c.l F.st d (j1 + 1) with
      | out =>
        rw [hr] at HS
        simp only [bind_out] at HS
        exact absurd (unhide HS).symm (unhide HO)
      | bad er p =>
        have HC := hide (deepS hF w2.drew d (j1 + 1) (unhide HR2).drew (by rw [hr]; nofun))
        rw [hr] at HC HS
        simp only [bind_bad] at HS
        clear hr
        go_wp2_with fail
        refine wp_region_any (by kernel_rfl) ?_
        change wpAny _ _ _ _ _ _ _ (World.drew _)
        refine wpAny_take (i := 0) (v := nPtr p0) rfl (by kernel_rfl) (by kernel_rfl) (by kernel_rfl) (fun _ _ _ h => h) (Or.inl ⟨by kernel_rfl, fun w => by go_simp⟩) ?_
        refine wpAny_take (i := 1) (v := nPtr p0) rfl (by kernel_rfl) (by kernel_rfl) (by kernel_rfl) (fun _ _ _ h => h) (Or.inl ⟨by kernel_rfl, fun w => by go_simp⟩) ?_
        refine wpAny_take (i := 2) (v := nPtr p0) rfl (by kernel_rfl) (by kernel_rfl) (by kernel_rfl) (fun _ _ _ h => h) (Or.inl ⟨by kernel_rfl, fun w => by go_simp⟩) ?_
        refine wpAny_take (i := 3) (v := .pointer (some ⟨p0, 3, none⟩)) rfl (by kernel_rfl) (by kernel_rfl) (by kernel_rfl) (fun _ _ _ h => h) (Or.inl ⟨by kernel_rfl, fun w => by go_simp⟩) ?_
        refine wpAny_take (i := 5) (v := rPtr c) rfl (by kernel_rfl) (by kernel_rfl) (by kernel_rfl) (fun _ _ _ h => h) (Or.inl ⟨by kernel_rfl, fun w => by go_simp⟩) ?_
        refine wpAny_take (i := 6) (v := rPtr c) rfl (by kernel_rfl) (by kernel_rfl) (by kernel_rfl) (fun _ _ _ h => h) (Or.inl ⟨by kernel_rfl, fun w => by go_simp⟩) ?_
        refine wpAny_take (i := 7) (v := .func (.func 170) #[rPtr c] #[]) rfl (by kernel_rfl) (by kernel_rfl) (by kernel_rfl) (fun _ _ _ h => h) (Or.inl ⟨by kernel_rfl, fun w => by go_simp⟩) ?_
        refine wpAny_ready (rs := [4, 8]) (by kernel_rfl) (by simp) (AllReady.cons rfl (fun K hK => ?_) (AllReady.cons rfl (fun K hK => ?_) AllReady.nil))
        · go_simp
          refine hK _ _ ?_
          clear hK K
          refine wpAny_ready (rs := [8]) (by kernel_rfl) (by simp) (AllReady.cons rfl (fun K hK => ?_) AllReady.nil)
          go_simp
          refine Calls.mono HC.out ?_
          intro e w' hp
          obtain ⟨rfl, ha⟩ := hp
          exact ⟨rfl, ppBad (unhide HS).symm ((unhide HA2).drew.next ha)⟩
        · go_simp
          refine Calls.mono HC.out ?_
          intro e w' hp
          obtain ⟨rfl, ha⟩ := hp
          exact ⟨rfl, ppBad (unhide HS).symm ((unhide HA2).drew.next ha)⟩
      | ok tx1 jx =>
        have HC := hide (deepS hF w2.drew d (j1 + 1) (unhide HR2).drew (by rw [hr]; nofun))
        rw [hr] at HC HS
        simp only [bind_ok] at HS
        clear hr
        go_wp2_with fail
        refine via2 (H := fun wc pc => Ap c.R w2.heap.size w2 wc ∧ Rdr c wc jx d ∧ NAt (From w2.heap.size) wc tx1 pc) (G := ?G1) (fun CONT => ?_) ?_
        rotate_left
        ·
          refine wp_region_any (by kernel_rfl) ?_
          change wpAny _ _ _ _ _ _ _ (World.drew _)
          refine wpAny_take (i := 0) (v := nPtr p0) rfl (by kernel_rfl) (by kernel_rfl) (by kernel_rfl) (fun _ _ _ h => h) (Or.inl ⟨by kernel_rfl, fun w => by go_simp⟩) ?_
          refine wpAny_take (i := 1) (v := nPtr p0) rfl (by kernel_rfl) (by kernel_rfl) (by kernel_rfl) (fun _ _ _ h => h) (Or.inl ⟨by kernel_rfl, fun w => by go_simp⟩) ?_
          refine wpAny_take (i := 2) (v := nPtr p0) rfl (by kernel_rfl) (by kernel_rfl) (by kernel_rfl) (fun _ _ _ h => h) (Or.inl ⟨by kernel_rfl, fun w => by go_simp⟩) ?_
          refine wpAny_take (i := 3) (v := .pointer (some ⟨p0, 3, none⟩)) rfl (by kernel_rfl) (by kernel_rfl) (by kernel_rfl) (fun _ _ _ h => h) (Or.inl ⟨by kernel_rfl, fun w => by go_simp⟩) ?_
          refine wpAny_take (i := 5) (v := rPtr c) rfl (by kernel_rfl) (by kernel_rfl) (by kernel_rfl) (fun _ _ _ h => h) (Or.inl ⟨by kernel_rfl, fun w => by go_simp⟩) ?_
          refine wpAny_take (i := 6) (v := rPtr c) rfl (by kernel_rfl) (by kernel_rfl) (by kernel_rfl) (fun _ _ _ h => h) (Or.inl ⟨by kernel_rfl, fun w => by go_simp⟩) ?_
          refine wpAny_take (i := 7) (v := .func (.func 170) #[rPtr c] #[]) rfl (by kernel_rfl) (by kernel_rfl) (by kernel_rfl) (fun _ _ _ h => h) (Or.inl ⟨by kernel_rfl, fun w => by go_simp⟩) ?_
          refine wpAny_ready (rs := [4, 8]) (by kernel_rfl) (by simp) (AllReady.cons rfl (fun K hK => ?_) (AllReady.cons rfl (fun K hK => ?_) AllReady.nil))
          · go_simp
            refine hK _ _ ?_
            clear hK K
            refine wpAny_ready (rs := [8]) (by kernel_rfl) (by simp) (AllReady.cons rfl (fun K hK => ?_) AllReady.nil)
            go_simp
            refine Calls.mono HC.out ?_
            intro e wc hp
            obtain ⟨⟨vc, rfl, pc, rfl, hnc⟩, hrd, ha⟩ := hp
            have ha0 := ((Ap.refl c.R w2.heap.size w2).drew).next ha
            have HY : Hid (Ap c.R w2.heap.size w2 wc ∧ Rdr c wc jx d ∧ NAt (From w2.heap.size) wc tx1 pc) := ⟨ha0, hrd, hnc⟩
            obtain ⟨gc3, gcf, gcl⟩ := (Open.later (unhide HOP) ha0 (unhide HLT)).cell
            clear hrd ha ha0 hnc
            refine hK _ _ ?_
            clear hK K
            refine wpAny_ready (rs := [9]) (by kernel_rfl) (by simp) (AllReady.cons rfl (fun K hK => ?_) AllReady.nil)
            go_simp
            refine hK _ _ ?_
            clear hK K
            refine wpAny_same (listed' := #[true, true, true, true, true, true, true, true, true, true, false, false, false, false]) (by kernel_rfl) rfl ?_
            exact CONT wc pc HY.out
          · go_simp
            refine Calls.mono HC.out ?_
            intro e wc hp
            obtain ⟨⟨vc, rfl, pc, rfl, hnc⟩, hrd, ha⟩ := hp
            have ha0 := ((Ap.refl c.R w2.heap.size w2).drew).next ha
            have HY : Hid (Ap c.R w2.heap.size w2 wc ∧ Rdr c wc jx d ∧ NAt (From w2.heap.size) wc tx1 pc) := ⟨ha0, hrd, hnc⟩
            obtain ⟨gc3, gcf, gcl⟩ := (Open.later (unhide HOP) ha0 (unhide HLT)).cell
            clear hrd ha ha0 hnc
            refine hK _ _ ?_
            clear hK K
            refine wpAny_ready (rs := [4, 9]) (by kernel_rfl) (by simp) (AllReady.cons rfl (fun K hK => ?_) (AllReady.cons rfl (fun K hK => ?_) AllReady.nil))
            · go_simp
              refine hK _ _ ?_
              clear hK K
              refine wpAny_ready (rs := [9]) (by kernel_rfl) (by simp) (AllReady.cons rfl (fun K hK => ?_) AllReady.nil)
              go_simp
              refine hK _ _ ?_
              clear hK K
              exact wpAny_same (listed' := #[true, true, true, true, true, true, true, true, true, true, false, false, false, false]) (by kernel_rfl) (by kernel_rfl) (CONT wc pc HY.out)
            · go_simp
              refine hK _ _ ?_
              clear hK K
              refine wpAny_ready (rs := [4]) (by kernel_rfl) (by simp) (AllReady.cons rfl (fun K hK => ?_) AllReady.nil)
              go_simp
              refine hK _ _ ?_
              clear hK K
              exact wpAny_same (listed' := #[true, true, true, true, true, true, true, true, true, true, false, false, false, false]) (by kernel_rfl) (by kernel_rfl) (CONT wc pc HY.out)
        intro wc pc hY
        obtain ⟨ha0, hrd, hnc⟩ := hY
        have HAc := hide ((unhide HA2).next ha0)
        have HRc := hide hrd
        have HOc := hide (Open.later (unhide HOP) ha0 (unhide HLT))
        have HNc := hide (Open.apart (unhide HOP) (unhide HA2).size (NAts.cons hnc NAts.nil))
        obtain ⟨gc3, gcf, gcl⟩ := (unhide HOc).cell
        clear hrd ha0 hnc
        have hlen := NAts.length _ _ (unhide HOc).kids
        have hown := (unhide HOc).row
        rw [hlen] at hown
        have HOWN := hide hown
        have hsz := (unhide HAc).size
        have hkl : x1.kids.length ≤ 3 := by rw [unhide HKL]; decide
        clear hown hlen
        refine wpAny_ready (rs := [10]) (by kernel_rfl) (by simp) (AllReady.cons rfl (fun K hK => ?_) AllReady.nil)
        refine step_append_lies _ rfl _ _ 36 rfl w.heap.size 22 i0 (.pointer none) 1 8 Tryz.underlying36 hi0 hz0 hz1 hz2 rfl (by decide) _ _ _ rfl ((unhide HOWN).alloc _) ⟨wc.heap.size, 0, none⟩ 1 1 [nPtr pc] rfl rfl (one_cells wc pc _ rfl) (one_one pc) (by decide) (by unfold maxLen; omega) (by omega) (by simp; omega) (wc.heap.size + 1) (by simp) ?_
        intro g cap w3 hown3 hgr3 hg3 _
        refine hK _ _ ?_
        clear hK K
        have HP1 := hide (push1 (unhide HOc) (unhide HNc) (unhide HRc) (unhide HAc) (unhide HLO) hown3 hgr3 hg3)
        have hp3 : w3.cell? ⟨p0, 3, none⟩ = wc.cell? ⟨p0, 3, none⟩ ∧ w3.frozen? ⟨p0, 3, none⟩ = wc.frozen? ⟨p0, 3, none⟩ := by
          have hbb : w3.heap[p0]? = wc.heap[p0]? := (hgr3.block p0 (by simp; omega) (fun e => (unhide HOc).own e.symm)).trans (Below.heap_alloc wc _ p0 gcl)
          exact ⟨World.cell?_of_block (w := wc) hbb, World.frozen?_of_block (w := wc) hbb⟩
        obtain ⟨hp3c, hp3f⟩ := hp3
        rw [gc3] at hp3c
        rw [gcf 3] at hp3f
        clear hown3 hgr3 hg3
        refine wpAny_take (i := 11) (v := nPtr p0) rfl (by kernel_rfl) (by kernel_rfl) (by kernel_rfl) (fun _ _ _ h => h) (Or.inl ⟨by kernel_rfl, fun w => by go_simp⟩) ?_
        refine wpAny_take (i := 12) (v := .pointer (some ⟨p0, 3, none⟩)) rfl (by kernel_rfl) (by kernel_rfl) (by kernel_rfl) (fun _ _ _ h => h) (Or.inl ⟨by kernel_rfl, fun w => by go_simp⟩) ?_
        refine wpAny_ready (rs := [13]) (by kernel_rfl) (by simp) (AllReady.cons rfl (fun K hK => ?_) AllReady.nil)
        go_simp
        refine hK _ _ ?_
        clear hK K hp3c hp3f gc3 gcf gcl HOWN
        refine wpAny_done (by kernel_rfl) ?_ _
        go_simp
        obtain ⟨m1, m2, m3⟩ := unhide HP1
        have HM1 := hide m1
        have HM2 := hide m2
        have HM3 := hide m3
        clear m1 m2 m3
        go_wp2_with fail
        go_ret
        exact ppOk (unhide HS).symm (unhide HM1).nv (unhide HM2) (unhide HM3)
    · rw [if_neg hx] at HS
      have HC := hide (take_not c tElse w1 j1 d (unhide HR1) hx)
      clear hx
      go_wp2_with fail
      refine Calls.mono HC.out ?_
      rintro e w2 ⟨rfl, hb2⟩
      clear HC
      have HR2 := hide ((unhide HR1).later hb2)
      have HA2 := hide ((unhide HA1).next (Ap.of hb2))
      replace HOP := hide (Open.later (unhide HOP) (Ap.of hb2) (unhide HLT))
      clear hb2
      go_wp2_with fail
      go_ret
      exact ppOk (unhide HS).symm (unhide HOP).ev.nv (unhide HR2) (unhide HA2)

end Go.Proofs.YtodmgaikhbmlnaaGreatDoor
