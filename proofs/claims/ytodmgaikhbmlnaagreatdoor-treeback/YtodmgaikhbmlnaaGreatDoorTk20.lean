/-
  try, with catch, or finally, or both.
-/
import Derived.Test.YtodmgaikhbmlnaaGreatDoorTk14
import Derived.Test.YtodmgaikhbmlnaaGreatDoorTk8
import Derived.Deep.MidRow
import Derived.Laws.AppendOwnNone
set_option maxRecDepth 100000
set_option maxHeartbeats 16000000
namespace Go.Proofs.YtodmgaikhbmlnaaGreatDoor
open Go.RowKit

theorem bind_assoc {α β γ : Type} (r : PR α) (f : α → Nat → PR β) (g : β → Nat → PR γ) : (r.bind f).bind g = r.bind fun x i => (f x i).bind g := by cases r <;> rfl

theorem at_b {c : Ctx} {F : Fns} (hF : FC c F) (hN : ∃ k, FNx c.l k F) (w : World) (d i i0 : Nat) (h : Rdr c w i d) (hm : mustP c.l tTry i = .ok () i0) (er : Int) (p : Nat) (hb : blockP c.l F d i0 = .bad er p) : Calls Tryz.prog 164 #[rPtr c] w (PPost c w d (NV w.heap.size) (.bad er p)) := by
  have HLO := hide h.base.size
  obtain ⟨i0', hi0, hz0, hz1, hz2⟩ := info_parts info22
  have HR0 := hide h
  have HA0 := hide (Ap.refl c.R w.heap.size w)
  have HLT := hide h.rlt
  clear h
  go_enter Tryz.func164, Tryz.ntmps164
  have HC := hide (must_any c tTry w i d (unhide HR0) (by decide))
  rw [hm] at HC
  go_wp2_with fail
  refine Calls.mono HC.out ?_
  intro e wa hp
  obtain ⟨⟨va, rfl, rfl⟩, hrd, ha⟩ := hp
  clear HC
  have HRa := hide hrd
  have HAa := hide ((unhide HA0).next ha)
  clear hrd ha
  have HC := hide (block_any hF hN wa d i0 _ rfl (by rw [hb]; nofun) (unhide HRa))
  rw [hb] at HC
  go_wp2_with fail
  refine Calls.mono HC.out ?_
  intro e w' hp
  obtain ⟨rfl, ha⟩ := hp
  exact ⟨rfl, ppBad rfl ((unhide HAa).next ha)⟩

theorem at_none {c : Ctx} {F : Fns} (hF : FC c F) (hN : ∃ k, FNx c.l k F) (w : World) (d i i0 : Nat) (h : Rdr c w i d) (hm : mustP c.l tTry i = .ok () i0) (b : Tr) (i1 : Nat) (hb : blockP c.l F d i0 = .ok b i1) (hc : fx c.l i1 ≠ tCatch) (hf : fx c.l i1 ≠ tFinally) : Calls Tryz.prog 164 #[rPtr c] w (PPost c w d (NV w.heap.size) (.bad 3 (tkA c.l i1).pl)) := by
  have HLO := hide h.base.size
  obtain ⟨i0', hi0, hz0, hz1, hz2⟩ := info_parts info22
  have HR0 := hide h
  have HA0 := hide (Ap.refl c.R w.heap.size w)
  have HLT := hide h.rlt
  clear h
  go_enter Tryz.func164, Tryz.ntmps164
  have HC := hide (must_any c tTry w i d (unhide HR0) (by decide))
  rw [hm] at HC
  go_wp2_with fail
  refine Calls.mono HC.out ?_
  intro e wa hp
  obtain ⟨⟨va, rfl, rfl⟩, hrd, ha⟩ := hp
  clear HC
  have HRa := hide hrd
  have HAa := hide ((unhide HA0).next ha)
  clear hrd ha
  have HC := hide (block_any hF hN wa d i0 _ rfl (by rw [hb]; nofun) (unhide HRa))
  rw [hb] at HC
  go_wp2_with fail
  refine Calls.mono HC.out ?_
  intro e wb hp
  obtain ⟨⟨vb, rfl, hnb⟩, hrd, ha⟩ := hp
  clear HC
  have HRb := hide hrd
  have HAb := hide ((unhide HAa).next ha)
  obtain ⟨pb, rfl, hmb⟩ := (EV.mono hnb (unhide HAa).size).nv
  have HNb := hide hmb
  clear hnb hmb
  clear hrd ha
  have HC := hide (node_any 12 noText (.slice (some ⟨wb.heap.size, 0, none⟩) 1 1) (wb.alloc (.cells #[nPtr pb] 22)) ⟨_, _, _, rfl⟩)
  go_wp2_with fail
  refine Calls.mono HC.out ?_
  rintro e wn0 ⟨rfl, rfl⟩
  clear HC
  obtain ⟨m1, m2, m3⟩ := made (unhide HRb) (unhide HAb) (NAts.cons (unhide HNb) NAts.nil) (by simp [maxLen]) #[nPtr pb] rfl 1 rfl 12 noText (wb.heap.size + 1) rfl
  obtain ⟨t0, ht0⟩ : ∃ t0 : Tr, t0 = .mk 12 noText 0 [b] := ⟨_, rfl⟩
  rw [← ht0] at m1
  have HKL : Hid (t0.kids.length = 1) := by
    show _ = _
    rw [ht0]; rfl
  have HT0 := hide ht0
  obtain ⟨p0, u0, ps0, hpe, hop⟩ := m1.opens
  have hpe2 : p0 = wb.heap.size + 1 := by simpa [nPtr] using hpe.symm
  rw [hpe2] at hop
  have HOP := hide hop
  have HRn := hide m2
  have HAn := hide m3
  clear m1 m2 m3 hop hpe ht0
  obtain ⟨wn, hwn⟩ : ∃ wn, wn = (wb.alloc (.cells #[nPtr pb] 22)).alloc (nodeObj 12 noText 0 (.slice (some ⟨wb.heap.size, 0, none⟩) 1 1)) := ⟨_, rfl⟩
  rw [← hwn] at HOP HRn HAn
  rw [← hpe2] at HOP
  rw [show (wb.alloc (.cells #[nPtr pb] 22)).heap.size = p0 by rw [hpe2]; simp, ← hwn]
  clear hwn hpe2
  have HC := hide (take_not c tCatch wn i1 d (unhide HRn) hc)
  go_wp2_with fail
  refine Calls.mono HC.out ?_
  rintro e wc ⟨rfl, hb⟩
  clear HC
  have HRc := hide ((unhide HRn).later hb)
  have HAc := hide ((unhide HAn).next (Ap.of hb))
  replace HOP := hide (Open.later (unhide HOP) (Ap.of hb) (unhide HLT))
  clear hb
  have HC := hide (take_not c tFinally wc i1 d (unhide HRc) hf)
  go_wp2_with fail
  refine Calls.mono HC.out ?_
  rintro e wf ⟨rfl, hb⟩
  clear HC
  have HRf := hide ((unhide HRc).later hb)
  have HAf := hide ((unhide HAc).next (Ap.of hb))
  replace HOP := hide (Open.later (unhide HOP) (Ap.of hb) (unhide HLT))
  clear hb
  obtain ⟨hc3, hcf, hcl⟩ := (unhide HOP).cell
  obtain ⟨ua, uc, hue⟩ := (unhide HOP).shape
  subst hue
  rw [unhide HKL] at hc3
  have HC := hide (fault_any c 3 wf i1 d (unhide HRf))
  go_wp2_with fail
  refine Calls.mono HC.out ?_
  rintro e w9 ⟨rfl, hb9⟩
  exact ⟨rfl, ppBad rfl ((unhide HAf).next (Ap.of hb9))⟩

theorem at_fin {c : Ctx} {F : Fns} (hF : FC c F) (hN : ∃ k, FNx c.l k F) (w : World) (d i i0 : Nat) (h : Rdr c w i d) (hm : mustP c.l tTry i = .ok () i0) (b : Tr) (i1 : Nat) (hb : blockP c.l F d i0 = .ok b i1) (hc : fx c.l i1 ≠ tCatch) (hf : fx c.l i1 = tFinally) (b2 : Tr) (i2 : Nat) (hb2 : blockP c.l F d (i1 + 1) = .ok b2 i2) : Calls Tryz.prog 164 #[rPtr c] w (PPost c w d (NV w.heap.size) (.ok (.mk 12 noText 0 [b, .mk 14 noText 0 [b2]]) i2)) := by
  have HLO := hide h.base.size
  obtain ⟨i0', hi0, hz0, hz1, hz2⟩ := info_parts info22
  have HR0 := hide h
  have HA0 := hide (Ap.refl c.R w.heap.size w)
  have HLT := hide h.rlt
  clear h
  go_enter Tryz.func164, Tryz.ntmps164
  have HC := hide (must_any c tTry w i d (unhide HR0) (by decide))
  rw [hm] at HC
  go_wp2_with fail
  refine Calls.mono HC.out ?_
  intro e wa hp
  obtain ⟨⟨va, rfl, rfl⟩, hrd, ha⟩ := hp
  clear HC
  have HRa := hide hrd
  have HAa := hide ((unhide HA0).next ha)
  clear hrd ha
  have HC := hide (block_any hF hN wa d i0 _ rfl (by rw [hb]; nofun) (unhide HRa))
  rw [hb] at HC
  go_wp2_with fail
  refine Calls.mono HC.out ?_
  intro e wb hp
  obtain ⟨⟨vb, rfl, hnb⟩, hrd, ha⟩ := hp
  clear HC
  have HRb := hide hrd
  have HAb := hide ((unhide HAa).next ha)
  obtain ⟨pb, rfl, hmb⟩ := (EV.mono hnb (unhide HAa).size).nv
  have HNb := hide hmb
  clear hnb hmb
  clear hrd ha
  have HC := hide (node_any 12 noText (.slice (some ⟨wb.heap.size, 0, none⟩) 1 1) (wb.alloc (.cells #[nPtr pb] 22)) ⟨_, _, _, rfl⟩)
  go_wp2_with fail
  refine Calls.mono HC.out ?_
  rintro e wn0 ⟨rfl, rfl⟩
  clear HC
  obtain ⟨m1, m2, m3⟩ := made (unhide HRb) (unhide HAb) (NAts.cons (unhide HNb) NAts.nil) (by simp [maxLen]) #[nPtr pb] rfl 1 rfl 12 noText (wb.heap.size + 1) rfl
  obtain ⟨t0, ht0⟩ : ∃ t0 : Tr, t0 = .mk 12 noText 0 [b] := ⟨_, rfl⟩
  rw [← ht0] at m1
  have HKL : Hid (t0.kids.length = 1) := by
    show _ = _
    rw [ht0]; rfl
  have HT0 := hide ht0
  obtain ⟨p0, u0, ps0, hpe, hop⟩ := m1.opens
  have hpe2 : p0 = wb.heap.size + 1 := by simpa [nPtr] using hpe.symm
  rw [hpe2] at hop
  have HOP := hide hop
  have HRn := hide m2
  have HAn := hide m3
  clear m1 m2 m3 hop hpe ht0
  obtain ⟨wn, hwn⟩ : ∃ wn, wn = (wb.alloc (.cells #[nPtr pb] 22)).alloc (nodeObj 12 noText 0 (.slice (some ⟨wb.heap.size, 0, none⟩) 1 1)) := ⟨_, rfl⟩
  rw [← hwn] at HOP HRn HAn
  rw [← hpe2] at HOP
  rw [show (wb.alloc (.cells #[nPtr pb] 22)).heap.size = p0 by rw [hpe2]; simp, ← hwn]
  clear hwn hpe2
  have HC := hide (take_not c tCatch wn i1 d (unhide HRn) hc)
  go_wp2_with fail
  refine Calls.mono HC.out ?_
  rintro e wc ⟨rfl, hb⟩
  clear HC
  have HRc := hide ((unhide HRn).later hb)
  have HAc := hide ((unhide HAn).next (Ap.of hb))
  replace HOP := hide (Open.later (unhide HOP) (Ap.of hb) (unhide HLT))
  clear hb
  have HC := hide (take_yes c tFinally wc i1 d (unhide HRc) hf (by decide))
  go_wp2_with fail
  refine Calls.mono HC.out ?_
  rintro e wf ⟨rfl, hrd, ha⟩
  clear HC
  have HRf := hide hrd
  have HAf := hide ((unhide HAc).next ha)
  replace HOP := hide (Open.later (unhide HOP) (ha) (unhide HLT))
  clear hrd ha
  have HCF := hide (block_any hF hN wf.drew d (i1 + 1) _ rfl (by rw [hb2]; nofun) (unhide HRf).drew)
  rw [hb2] at HCF
  obtain ⟨hc3, hcf, hcl⟩ := (unhide HOP).cell
  obtain ⟨ua, uc, hue⟩ := (unhide HOP).shape
  subst hue
  go_wp2_with fail
  refine via2 (H := fun wc pc => Ap c.R wf.heap.size wf wc ∧ Rdr c wc i2 d ∧ NAt (From wf.heap.size) wc b2 pc) (G := ?G1) (fun CONT => ?_) ?_
  rotate_left
  ·
    refine wp_region_any (by kernel_rfl) ?_
    change wpAny _ _ _ _ _ _ _ (World.drew _)
    refine wpAny_take (i := 0) (v := nPtr p0) rfl (by kernel_rfl) (by kernel_rfl) (by kernel_rfl) (fun _ _ _ h => h) (Or.inl ⟨by kernel_rfl, fun w => by go_simp⟩) ?_
    refine wpAny_take (i := 1) (v := nPtr p0) rfl (by kernel_rfl) (by kernel_rfl) (by kernel_rfl) (fun _ _ _ h => h) (Or.inl ⟨by kernel_rfl, fun w => by go_simp⟩) ?_
    refine wpAny_take (i := 2) (v := nPtr p0) rfl (by kernel_rfl) (by kernel_rfl) (by kernel_rfl) (fun _ _ _ h => h) (Or.inl ⟨by kernel_rfl, fun w => by go_simp⟩) ?_
    refine wpAny_take (i := 3) (v := .pointer (some ⟨p0, 3, none⟩)) rfl (by kernel_rfl) (by kernel_rfl) (by kernel_rfl) (fun _ _ _ h => h) (Or.inl ⟨by kernel_rfl, fun w => by go_simp⟩) ?_
    refine wpAny_take (i := 5) (v := rPtr c) rfl (by kernel_rfl) (by kernel_rfl) (by kernel_rfl) (fun _ _ _ h => h) (Or.inl ⟨by kernel_rfl, fun w => by go_simp⟩) ?_
    refine wpAny_ready (rs := [4, 6]) (by kernel_rfl) (by simp) (AllReady.cons rfl (fun K hK => ?_) (AllReady.cons rfl (fun K hK => ?_) AllReady.nil))
    · skip
      go_simp
      refine hK _ _ ?_
      clear hK K
      refine wpAny_ready (rs := [6]) (by kernel_rfl) (by simp) (AllReady.cons rfl (fun K hK => ?_) AllReady.nil)
      go_simp
      refine Calls.mono HCF.out ?_
      intro e wc hp
      obtain ⟨⟨vc, rfl, hnc⟩, hrd, ha⟩ := hp
      obtain ⟨pc, rfl, hmc⟩ := hnc.nv
      have ha0 := ((Ap.refl c.R wf.heap.size wf).drew).next ha
      have HY : Hid (Ap c.R wf.heap.size wf wc ∧ Rdr c wc i2 d ∧ NAt (From wf.heap.size) wc b2 pc) := ⟨ha0, hrd, hmc⟩
      obtain ⟨gc3, gcf, gcl⟩ := (Open.later (unhide HOP) ha0 (unhide HLT)).cell
      have gcl1 : p0 < wc.heap.size + 1 := by omega
      have gcl2 : p0 < wc.heap.size + 1 + 1 := by omega
      clear hrd ha ha0 hnc hmc
      refine hK _ _ ?_
      clear hK K
      refine wpAny_ready (rs := [7]) (by kernel_rfl) (by simp) (AllReady.cons rfl (fun K hK => ?_) AllReady.nil)
      go_simp
      refine hK _ _ ?_
      clear hK K
      refine wpAny_ready (rs := [8]) (by kernel_rfl) (by simp) (AllReady.cons rfl (fun K hK => ?_) AllReady.nil)
      go_simp
      refine Calls.mono (node_any 14 noText (.slice (some ⟨wc.heap.size, 0, none⟩) 1 1) (wc.alloc (.cells #[nPtr pc] 22)) ⟨_, _, _, rfl⟩) ?_
      rintro e wd0 ⟨rfl, rfl⟩
      refine hK _ _ ?_
      clear hK K
      refine wpAny_ready (rs := [9]) (by kernel_rfl) (by simp) (AllReady.cons rfl (fun K hK => ?_) AllReady.nil)
      go_simp
      refine hK _ _ ?_
      clear hK K
      refine wpAny_same (listed' := #[true, true, true, true, true, true, true, true, true, true, false, false, false, false]) (by kernel_rfl) rfl ?_
      exact CONT wc pc HY.out
    · skip
      go_simp
      refine Calls.mono HCF.out ?_
      intro e wc hp
      obtain ⟨⟨vc, rfl, hnc⟩, hrd, ha⟩ := hp
      obtain ⟨pc, rfl, hmc⟩ := hnc.nv
      have ha0 := ((Ap.refl c.R wf.heap.size wf).drew).next ha
      have HY : Hid (Ap c.R wf.heap.size wf wc ∧ Rdr c wc i2 d ∧ NAt (From wf.heap.size) wc b2 pc) := ⟨ha0, hrd, hmc⟩
      obtain ⟨gc3, gcf, gcl⟩ := (Open.later (unhide HOP) ha0 (unhide HLT)).cell
      have gcl1 : p0 < wc.heap.size + 1 := by omega
      have gcl2 : p0 < wc.heap.size + 1 + 1 := by omega
      clear hrd ha ha0 hnc hmc
      refine hK _ _ ?_
      clear hK K
      refine wpAny_ready (rs := [4, 7]) (by kernel_rfl) (by simp) (AllReady.cons rfl (fun K hK => ?_) (AllReady.cons rfl (fun K hK => ?_) AllReady.nil))
      · skip
        go_simp
        refine hK _ _ ?_
        clear hK K
        refine wpAny_ready (rs := [7]) (by kernel_rfl) (by simp) (AllReady.cons rfl (fun K hK => ?_) AllReady.nil)
        go_simp
        refine hK _ _ ?_
        clear hK K
        refine wpAny_ready (rs := [8]) (by kernel_rfl) (by simp) (AllReady.cons rfl (fun K hK => ?_) AllReady.nil)
        go_simp
        refine Calls.mono (node_any 14 noText (.slice (some ⟨wc.heap.size, 0, none⟩) 1 1) (wc.alloc (.cells #[nPtr pc] 22)) ⟨_, _, _, rfl⟩) ?_
        rintro e wd0 ⟨rfl, rfl⟩
        refine hK _ _ ?_
        clear hK K
        refine wpAny_ready (rs := [9]) (by kernel_rfl) (by simp) (AllReady.cons rfl (fun K hK => ?_) AllReady.nil)
        go_simp
        refine hK _ _ ?_
        clear hK K
        exact wpAny_same (listed' := #[true, true, true, true, true, true, true, true, true, true, false, false, false, false]) (by kernel_rfl) (by kernel_rfl) (CONT wc pc HY.out)
      · skip
        go_simp
        refine hK _ _ ?_
        clear hK K
        refine wpAny_ready (rs := [4, 8]) (by kernel_rfl) (by simp) (AllReady.cons rfl (fun K hK => ?_) (AllReady.cons rfl (fun K hK => ?_) AllReady.nil))
        · skip
          go_simp
          refine hK _ _ ?_
          clear hK K
          refine wpAny_ready (rs := [8]) (by kernel_rfl) (by simp) (AllReady.cons rfl (fun K hK => ?_) AllReady.nil)
          go_simp
          refine Calls.mono (node_any 14 noText (.slice (some ⟨wc.heap.size, 0, none⟩) 1 1) (wc.alloc (.cells #[nPtr pc] 22)) ⟨_, _, _, rfl⟩) ?_
          rintro e wd0 ⟨rfl, rfl⟩
          refine hK _ _ ?_
          clear hK K
          refine wpAny_ready (rs := [9]) (by kernel_rfl) (by simp) (AllReady.cons rfl (fun K hK => ?_) AllReady.nil)
          go_simp
          refine hK _ _ ?_
          clear hK K
          exact wpAny_same (listed' := #[true, true, true, true, true, true, true, true, true, true, false, false, false, false]) (by kernel_rfl) (by kernel_rfl) (CONT wc pc HY.out)
        · skip
          go_simp
          refine Calls.mono (node_any 14 noText (.slice (some ⟨wc.heap.size, 0, none⟩) 1 1) (wc.alloc (.cells #[nPtr pc] 22)) ⟨_, _, _, rfl⟩) ?_
          rintro e wd0 ⟨rfl, rfl⟩
          refine hK _ _ ?_
          clear hK K
          refine wpAny_ready (rs := [4, 9]) (by kernel_rfl) (by simp) (AllReady.cons rfl (fun K hK => ?_) (AllReady.cons rfl (fun K hK => ?_) AllReady.nil))
          · skip
            go_simp
            refine hK _ _ ?_
            clear hK K
            refine wpAny_ready (rs := [9]) (by kernel_rfl) (by simp) (AllReady.cons rfl (fun K hK => ?_) AllReady.nil)
            go_simp
            refine hK _ _ ?_
            clear hK K
            exact wpAny_same (listed' := #[true, true, true, true, true, true, true, true, true, true, false, false, false, false]) (by kernel_rfl) (by kernel_rfl) (CONT wc pc HY.out)
          · skip
            go_simp
            refine hK _ _ ?_
            clear hK K
            refine wpAny_ready (rs := [4]) (by kernel_rfl) (by simp) (AllReady.cons rfl (fun K hK => ?_) AllReady.nil)
            go_simp
            refine hK _ _ ?_
            clear hK K
            exact wpAny_same (listed' := #[true, true, true, true, true, true, true, true, true, true, false, false, false, false]) (by kernel_rfl) (by kernel_rfl) (CONT wc pc HY.out)
  intro wc pc hY
  obtain ⟨ha0, hrd, hmc⟩ := hY
  have HAc := hide ((unhide HAf).next ha0)
  have HA0c := hide ha0
  have HRc := hide hrd
  have HOc := hide (Open.later (unhide HOP) ha0 (unhide HLT))
  have HNc := hide hmc
  obtain ⟨gc3, gcf, gcl⟩ := (unhide HOc).cell
  have gcl1 : p0 < wc.heap.size + 1 := by omega
  have gcl2 : p0 < wc.heap.size + 1 + 1 := by omega
  clear hrd ha0 hmc
  obtain ⟨n1, n2, n3⟩ := made (w := wf) (unhide HRc) (unhide HA0c) (NAts.cons (unhide HNc) NAts.nil) (by simp [maxLen]) #[nPtr pc] rfl 1 rfl 14 noText (wc.heap.size + 1) rfl
  have hbd : Below wc.heap.size wc ((wc.alloc (.cells #[nPtr pc] 22)).alloc (nodeObj 14 noText 0 (.slice (some ⟨wc.heap.size, 0, none⟩) 1 1))) := ((Below.refl _ _).alloc (Nat.le_refl _) _).alloc (by simp) _
  obtain ⟨wd, hwd⟩ : ∃ wd, wd = (wc.alloc (.cells #[nPtr pc] 22)).alloc (nodeObj 14 noText 0 (.slice (some ⟨wc.heap.size, 0, none⟩) 1 1)) := ⟨_, rfl⟩
  have hq : (wc.alloc (.cells #[nPtr pc] 22)).heap.size = wc.heap.size + 1 := by simp
  obtain ⟨q, hqq⟩ : ∃ q, q = wc.heap.size + 1 := ⟨_, rfl⟩
  obtain ⟨pq, hpq, hnq⟩ := n1.nv
  have hpe : pq = wc.heap.size + 1 := by simpa [nPtr] using hpq.symm
  subst hpe
  have hws : wd.heap.size = q + 1 := by rw [hwd, hqq]; simp
  rw [← hwd] at hnq n2 n3 hbd
  try rw [hq]
  rw [← hqq] at hnq
  try rw [← hqq]
  try rw [← hwd]
  have HOd := hide (Open.later (unhide HOc) (Ap.of hbd) (unhide HLT))
  have HAd := hide ((unhide HAc).next (Ap.of hbd))
  have HRd := hide n2
  have HNd := hide (Open.apart (unhide HOP) (unhide HAf).size (NAts.cons hnq NAts.nil))
  obtain ⟨ec3, ecf, ecl⟩ := (unhide HOd).cell
  clear n1 n2 n3 hbd hnq hpq hwd hqq hq gc3 gcf gcl gcl1 gcl2
  have hlen := NAts.length _ _ (unhide HOd).kids
  have hown := (unhide HOd).row
  rw [hlen] at hown
  have HOWN := hide hown
  have hsz := (unhide HAd).size
  have hkl : t0.kids.length ≤ 3 := by rw [unhide HKL]; decide
  clear hown hlen
  refine wpAny_ready (rs := [10]) (by kernel_rfl) (by simp) (AllReady.cons rfl (fun K hK => ?_) AllReady.nil)
  refine step_append_lies _ rfl _ _ 36 rfl w.heap.size 22 i0' (.pointer none) 1 8 Tryz.underlying36 hi0 hz0 hz1 hz2 rfl (by decide) _ _ _ rfl ((unhide HOWN).alloc _) ⟨q + 1, 0, none⟩ 1 1 [nPtr q] rfl rfl (one_cells wd q _ hws) (one_one q) (by decide) (by unfold maxLen; omega) (by omega) (by simp; omega) (wd.heap.size + 1) (by simp) ?_
  clear hws
  intro g cap w3 hown3 hgr3 hg3 _
  refine hK _ _ ?_
  clear hK K
  have HP1 := hide (push1 (unhide HOd) (unhide HNd) (unhide HRd) (unhide HAd) (unhide HLO) hown3 hgr3 hg3)
  have hp3 : w3.cell? ⟨p0, 3, none⟩ = wd.cell? ⟨p0, 3, none⟩ ∧ w3.frozen? ⟨p0, 3, none⟩ = wd.frozen? ⟨p0, 3, none⟩ := by
    have hbb : w3.heap[p0]? = wd.heap[p0]? := (hgr3.block p0 (by simp; omega) (fun e => (unhide HOd).own e.symm)).trans (Below.heap_alloc wd _ p0 ecl)
    exact ⟨World.cell?_of_block (w := wd) hbb, World.frozen?_of_block (w := wd) hbb⟩
  obtain ⟨hp3c, hp3f⟩ := hp3
  rw [ec3] at hp3c
  rw [ecf 3] at hp3f
  clear hown3 hgr3 hg3
  refine wpAny_take (i := 11) (v := nPtr p0) rfl (by kernel_rfl) (by kernel_rfl) (by kernel_rfl) (fun _ _ _ h => h) (Or.inl ⟨by kernel_rfl, fun w => by go_simp⟩) ?_
  refine wpAny_take (i := 12) (v := .pointer (some ⟨p0, 3, none⟩)) rfl (by kernel_rfl) (by kernel_rfl) (by kernel_rfl) (fun _ _ _ h => h) (Or.inl ⟨by kernel_rfl, fun w => by go_simp⟩) ?_
  refine wpAny_ready (rs := [13]) (by kernel_rfl) (by simp) (AllReady.cons rfl (fun K hK => ?_) AllReady.nil)
  go_simp
  refine hK _ _ ?_
  clear hK K hp3c hp3f ec3 ecf ecl HOWN
  refine wpAny_done (by kernel_rfl) ?_ _
  go_simp
  obtain ⟨m1, m2, m3⟩ := unhide HP1
  obtain ⟨t0x, ht2⟩ : ∃ tq : Tr, tq = .mk t0.kd t0.tx t0.n (t0.kids ++ [.mk 14 noText 0 [b2]]) := ⟨_, rfl⟩
  rw [← ht2] at m1
  have HKLt0x : Hid (t0x.kids.length = t0.kids.length + 1) := by
    show _ = _
    rw [ht2]; simp [Tr.kids]
  have HTt0x := hide ht2
  obtain ⟨pz, uz, psz, hpz, hopz⟩ := m1.opens
  have hpz2 : pz = p0 := by simpa [nPtr] using hpz.symm
  rw [hpz2] at hopz
  obtain ⟨w4, hw4⟩ : ∃ w4, w4 = (w3.setCell ⟨p0, 3, none⟩ (.slice (some ⟨g, 0, none⟩) (t0.kids.length + 1) cap)) := ⟨_, rfl⟩
  rw [← hw4] at hopz m2 m3
  rw [← hw4]
  clear HOP
  have HOP := hide hopz
  have HR4F := hide m2
  have HA4F := hide m3
  clear m1 m2 m3 hopz hpz hw4 hpz2 ht2 HP1 HCF
  obtain ⟨hc3, hcf, hcl⟩ := (unhide HOP).cell
  obtain ⟨ua, uc, hue⟩ := (unhide HOP).shape
  subst hue
  have hk2 : t0x.kids.length = 2 := by rw [unhide HKLt0x, unhide HKL]
  rw [hk2] at hc3
  clear hk2
  go_wp2_with fail
  go_ret
  have e0 := unhide HT0
  have e1 := unhide HTt0x
  have hnv := (unhide HOP).ev.nv
  rw [e1, e0] at hnv
  exact ppOk rfl hnv (unhide HR4F) (unhide HA4F)

theorem at_finbad {c : Ctx} {F : Fns} (hF : FC c F) (hN : ∃ k, FNx c.l k F) (w : World) (d i i0 : Nat) (h : Rdr c w i d) (hm : mustP c.l tTry i = .ok () i0) (b : Tr) (i1 : Nat) (hb : blockP c.l F d i0 = .ok b i1) (hc : fx c.l i1 ≠ tCatch) (hf : fx c.l i1 = tFinally) (er : Int) (p : Nat) (hb2 : blockP c.l F d (i1 + 1) = .bad er p) : Calls Tryz.prog 164 #[rPtr c] w (PPost c w d (NV w.heap.size) (.bad er p)) := by
  have HLO := hide h.base.size
  obtain ⟨i0', hi0, hz0, hz1, hz2⟩ := info_parts info22
  have HR0 := hide h
  have HA0 := hide (Ap.refl c.R w.heap.size w)
  have HLT := hide h.rlt
  clear h
  go_enter Tryz.func164, Tryz.ntmps164
  have HC := hide (must_any c tTry w i d (unhide HR0) (by decide))
  rw [hm] at HC
  go_wp2_with fail
  refine Calls.mono HC.out ?_
  intro e wa hp
  obtain ⟨⟨va, rfl, rfl⟩, hrd, ha⟩ := hp
  clear HC
  have HRa := hide hrd
  have HAa := hide ((unhide HA0).next ha)
  clear hrd ha
  have HC := hide (block_any hF hN wa d i0 _ rfl (by rw [hb]; nofun) (unhide HRa))
  rw [hb] at HC
  go_wp2_with fail
  refine Calls.mono HC.out ?_
  intro e wb hp
  obtain ⟨⟨vb, rfl, hnb⟩, hrd, ha⟩ := hp
  clear HC
  have HRb := hide hrd
  have HAb := hide ((unhide HAa).next ha)
  obtain ⟨pb, rfl, hmb⟩ := (EV.mono hnb (unhide HAa).size).nv
  have HNb := hide hmb
  clear hnb hmb
  clear hrd ha
  have HC := hide (node_any 12 noText (.slice (some ⟨wb.heap.size, 0, none⟩) 1 1) (wb.alloc (.cells #[nPtr pb] 22)) ⟨_, _, _, rfl⟩)
  go_wp2_with fail
  refine Calls.mono HC.out ?_
  rintro e wn0 ⟨rfl, rfl⟩
  clear HC
  obtain ⟨m1, m2, m3⟩ := made (unhide HRb) (unhide HAb) (NAts.cons (unhide HNb) NAts.nil) (by simp [maxLen]) #[nPtr pb] rfl 1 rfl 12 noText (wb.heap.size + 1) rfl
  obtain ⟨t0, ht0⟩ : ∃ t0 : Tr, t0 = .mk 12 noText 0 [b] := ⟨_, rfl⟩
  rw [← ht0] at m1
  have HKL : Hid (t0.kids.length = 1) := by
    show _ = _
    rw [ht0]; rfl
  have HT0 := hide ht0
  obtain ⟨p0, u0, ps0, hpe, hop⟩ := m1.opens
  have hpe2 : p0 = wb.heap.size + 1 := by simpa [nPtr] using hpe.symm
  rw [hpe2] at hop
  have HOP := hide hop
  have HRn := hide m2
  have HAn := hide m3
  clear m1 m2 m3 hop hpe ht0
  obtain ⟨wn, hwn⟩ : ∃ wn, wn = (wb.alloc (.cells #[nPtr pb] 22)).alloc (nodeObj 12 noText 0 (.slice (some ⟨wb.heap.size, 0, none⟩) 1 1)) := ⟨_, rfl⟩
  rw [← hwn] at HOP HRn HAn
  rw [← hpe2] at HOP
  rw [show (wb.alloc (.cells #[nPtr pb] 22)).heap.size = p0 by rw [hpe2]; simp, ← hwn]
  clear hwn hpe2
  have HC := hide (take_not c tCatch wn i1 d (unhide HRn) hc)
  go_wp2_with fail
  refine Calls.mono HC.out ?_
  rintro e wc ⟨rfl, hb⟩
  clear HC
  have HRc := hide ((unhide HRn).later hb)
  have HAc := hide ((unhide HAn).next (Ap.of hb))
  replace HOP := hide (Open.later (unhide HOP) (Ap.of hb) (unhide HLT))
  clear hb
  have HC := hide (take_yes c tFinally wc i1 d (unhide HRc) hf (by decide))
  go_wp2_with fail
  refine Calls.mono HC.out ?_
  rintro e wf ⟨rfl, hrd, ha⟩
  clear HC
  have HRf := hide hrd
  have HAf := hide ((unhide HAc).next ha)
  replace HOP := hide (Open.later (unhide HOP) (ha) (unhide HLT))
  clear hrd ha
  have HCF := hide (block_any hF hN wf.drew d (i1 + 1) _ rfl (by rw [hb2]; nofun) (unhide HRf).drew)
  rw [hb2] at HCF
  obtain ⟨hc3, hcf, hcl⟩ := (unhide HOP).cell
  obtain ⟨ua, uc, hue⟩ := (unhide HOP).shape
  subst hue
  go_wp2_with fail
  refine wp_region_any (by kernel_rfl) ?_
  change wpAny _ _ _ _ _ _ _ (World.drew _)
  refine wpAny_take (i := 0) (v := nPtr p0) rfl (by kernel_rfl) (by kernel_rfl) (by kernel_rfl) (fun _ _ _ h => h) (Or.inl ⟨by kernel_rfl, fun w => by go_simp⟩) ?_
  refine wpAny_take (i := 1) (v := nPtr p0) rfl (by kernel_rfl) (by kernel_rfl) (by kernel_rfl) (fun _ _ _ h => h) (Or.inl ⟨by kernel_rfl, fun w => by go_simp⟩) ?_
  refine wpAny_take (i := 2) (v := nPtr p0) rfl (by kernel_rfl) (by kernel_rfl) (by kernel_rfl) (fun _ _ _ h => h) (Or.inl ⟨by kernel_rfl, fun w => by go_simp⟩) ?_
  refine wpAny_take (i := 3) (v := .pointer (some ⟨p0, 3, none⟩)) rfl (by kernel_rfl) (by kernel_rfl) (by kernel_rfl) (fun _ _ _ h => h) (Or.inl ⟨by kernel_rfl, fun w => by go_simp⟩) ?_
  refine wpAny_take (i := 5) (v := rPtr c) rfl (by kernel_rfl) (by kernel_rfl) (by kernel_rfl) (fun _ _ _ h => h) (Or.inl ⟨by kernel_rfl, fun w => by go_simp⟩) ?_
  refine wpAny_ready (rs := [4, 6]) (by kernel_rfl) (by simp) (AllReady.cons rfl (fun K hK => ?_) (AllReady.cons rfl (fun K hK => ?_) AllReady.nil))
  · skip
    go_simp
    refine hK _ _ ?_
    clear hK K
    refine wpAny_ready (rs := [6]) (by kernel_rfl) (by simp) (AllReady.cons rfl (fun K hK => ?_) AllReady.nil)
    go_simp
    refine Calls.mono HCF.out ?_
    intro e wc hp
    obtain ⟨rfl, ha⟩ := hp
    exact ⟨rfl, ppBad rfl ((unhide HAf).drew.next ha)⟩
  · skip
    go_simp
    refine Calls.mono HCF.out ?_
    intro e wc hp
    obtain ⟨rfl, ha⟩ := hp
    exact ⟨rfl, ppBad rfl ((unhide HAf).drew.next ha)⟩

theorem at_cbad {c : Ctx} {F : Fns} (hF : FC c F) (hN : ∃ k, FNx c.l k F) (w : World) (d i i0 : Nat) (h : Rdr c w i d) (hm : mustP c.l tTry i = .ok () i0) (b : Tr) (i1 : Nat) (hb : blockP c.l F d i0 = .ok b i1) (hc : fx c.l i1 = tCatch) (er : Int) (p : Nat) (hq : mustP c.l tOpen (i1 + 1) = .bad er p ∨ ∃ i2, mustP c.l tOpen (i1 + 1) = .ok () i2 ∧ (nameP c.l i2 = .bad er p ∨ ∃ s i3, nameP c.l i2 = .ok s i3 ∧ (mustP c.l tShut i3 = .bad er p ∨ ∃ i4, mustP c.l tShut i3 = .ok () i4 ∧ blockP c.l F d i4 = .bad er p))) : Calls Tryz.prog 164 #[rPtr c] w (PPost c w d (NV w.heap.size) (.bad er p)) := by
  have HQ := hide hq
  clear hq
  have HLO := hide h.base.size
  obtain ⟨i0', hi0, hz0, hz1, hz2⟩ := info_parts info22
  have HR0 := hide h
  have HA0 := hide (Ap.refl c.R w.heap.size w)
  have HLT := hide h.rlt
  clear h
  go_enter Tryz.func164, Tryz.ntmps164
  have HC := hide (must_any c tTry w i d (unhide HR0) (by decide))
  rw [hm] at HC
  go_wp2_with fail
  refine Calls.mono HC.out ?_
  intro e wa hp
  obtain ⟨⟨va, rfl, rfl⟩, hrd, ha⟩ := hp
  clear HC
  have HRa := hide hrd
  have HAa := hide ((unhide HA0).next ha)
  clear hrd ha
  have HC := hide (block_any hF hN wa d i0 _ rfl (by rw [hb]; nofun) (unhide HRa))
  rw [hb] at HC
  go_wp2_with fail
  refine Calls.mono HC.out ?_
  intro e wb hp
  obtain ⟨⟨vb, rfl, hnb⟩, hrd, ha⟩ := hp
  clear HC
  have HRb := hide hrd
  have HAb := hide ((unhide HAa).next ha)
  obtain ⟨pb, rfl, hmb⟩ := (EV.mono hnb (unhide HAa).size).nv
  have HNb := hide hmb
  clear hnb hmb
  clear hrd ha
  have HC := hide (node_any 12 noText (.slice (some ⟨wb.heap.size, 0, none⟩) 1 1) (wb.alloc (.cells #[nPtr pb] 22)) ⟨_, _, _, rfl⟩)
  go_wp2_with fail
  refine Calls.mono HC.out ?_
  rintro e wn0 ⟨rfl, rfl⟩
  clear HC
  obtain ⟨m1, m2, m3⟩ := made (unhide HRb) (unhide HAb) (NAts.cons (unhide HNb) NAts.nil) (by simp [maxLen]) #[nPtr pb] rfl 1 rfl 12 noText (wb.heap.size + 1) rfl
  obtain ⟨t0, ht0⟩ : ∃ t0 : Tr, t0 = .mk 12 noText 0 [b] := ⟨_, rfl⟩
  rw [← ht0] at m1
  have HKL : Hid (t0.kids.length = 1) := by
    show _ = _
    rw [ht0]; rfl
  have HT0 := hide ht0
  obtain ⟨p0, u0, ps0, hpe, hop⟩ := m1.opens
  have hpe2 : p0 = wb.heap.size + 1 := by simpa [nPtr] using hpe.symm
  rw [hpe2] at hop
  have HOP := hide hop
  have HRn := hide m2
  have HAn := hide m3
  clear m1 m2 m3 hop hpe ht0
  obtain ⟨wn, hwn⟩ : ∃ wn, wn = (wb.alloc (.cells #[nPtr pb] 22)).alloc (nodeObj 12 noText 0 (.slice (some ⟨wb.heap.size, 0, none⟩) 1 1)) := ⟨_, rfl⟩
  rw [← hwn] at HOP HRn HAn
  rw [← hpe2] at HOP
  rw [show (wb.alloc (.cells #[nPtr pb] 22)).heap.size = p0 by rw [hpe2]; simp, ← hwn]
  clear hwn hpe2
  have HC := hide (take_yes c tCatch wn i1 d (unhide HRn) hc (by decide))
  go_wp2_with fail
  refine Calls.mono HC.out ?_
  rintro e wc ⟨rfl, hrd, ha⟩
  clear HC
  have HRc := hide hrd
  have HAc := hide ((unhide HAn).next ha)
  replace HOP := hide (Open.later (unhide HOP) (ha) (unhide HLT))
  clear hrd ha
  have HC := hide (must_any c tOpen wc (i1 + 1) d (unhide HRc) (by decide))
  rcases HQ.out with h2 | ⟨i2, h2, hq⟩
  · rw [h2] at HC
    go_wp2_with fail
    refine Calls.mono HC.out ?_
    intro e w' hp
    obtain ⟨rfl, ha⟩ := hp
    exact ⟨rfl, ppBad rfl ((unhide HAc).next ha)⟩
  clear HQ
  have HQ := hide hq
  clear hq
  rw [h2] at HC
  go_wp2_with fail
  refine Calls.mono HC.out ?_
  intro e wd hp
  obtain ⟨⟨vd, rfl, rfl⟩, hrd, ha⟩ := hp
  clear HC
  have HRd := hide hrd
  have HAd := hide ((unhide HAc).next ha)
  replace HOP := hide (Open.later (unhide HOP) (ha) (unhide HLT))
  clear hrd ha
  have HC := hide (name_any c wd i2 d (unhide HRd))
  rcases HQ.out with h3 | ⟨s, i3, h3, hq⟩
  · rw [h3] at HC
    go_wp2_with fail
    refine Calls.mono HC.out ?_
    intro e w' hp
    obtain ⟨rfl, ha⟩ := hp
    exact ⟨rfl, ppBad rfl ((unhide HAd).next ha)⟩
  clear HQ
  have HQ := hide hq
  clear hq
  rw [h3] at HC
  go_wp2_with fail
  refine Calls.mono HC.out ?_
  intro e we hp
  obtain ⟨⟨ve, rfl, rfl⟩, hrd, ha⟩ := hp
  clear HC
  have HRe := hide hrd
  have HAe := hide ((unhide HAd).next ha)
  replace HOP := hide (Open.later (unhide HOP) (ha) (unhide HLT))
  clear hrd ha
  have HC := hide (must_any c tShut we i3 d (unhide HRe) (by decide))
  rcases HQ.out with h4 | ⟨i4, h4, h5⟩
  · rw [h4] at HC
    go_wp2_with fail
    refine Calls.mono HC.out ?_
    intro e w' hp
    obtain ⟨rfl, ha⟩ := hp
    exact ⟨rfl, ppBad rfl ((unhide HAe).next ha)⟩
  clear HQ
  rw [h4] at HC
  go_wp2_with fail
  refine Calls.mono HC.out ?_
  intro e wg1 hp
  obtain ⟨⟨vg1, rfl, rfl⟩, hrd, ha⟩ := hp
  clear HC
  have HRg1 := hide hrd
  have HAg1 := hide ((unhide HAe).next ha)
  replace HOP := hide (Open.later (unhide HOP) (ha) (unhide HLT))
  clear hrd ha
  have HCC := hide (block_any hF hN wg1.drew d i4 _ rfl (by rw [h5]; nofun) (unhide HRg1).drew)
  rw [h5] at HCC
  obtain ⟨hc3, hcf, hcl⟩ := (unhide HOP).cell
  obtain ⟨ua, uc, hue⟩ := (unhide HOP).shape
  subst hue
  go_wp2_with fail
  refine wp_region_any (by kernel_rfl) ?_
  change wpAny _ _ _ _ _ _ _ (World.drew _)
  refine wpAny_take (i := 0) (v := nPtr p0) rfl (by kernel_rfl) (by kernel_rfl) (by kernel_rfl) (fun _ _ _ h => h) (Or.inl ⟨by kernel_rfl, fun w => by go_simp⟩) ?_
  refine wpAny_take (i := 1) (v := nPtr p0) rfl (by kernel_rfl) (by kernel_rfl) (by kernel_rfl) (fun _ _ _ h => h) (Or.inl ⟨by kernel_rfl, fun w => by go_simp⟩) ?_
  refine wpAny_take (i := 2) (v := nPtr p0) rfl (by kernel_rfl) (by kernel_rfl) (by kernel_rfl) (fun _ _ _ h => h) (Or.inl ⟨by kernel_rfl, fun w => by go_simp⟩) ?_
  refine wpAny_take (i := 3) (v := .pointer (some ⟨p0, 3, none⟩)) rfl (by kernel_rfl) (by kernel_rfl) (by kernel_rfl) (fun _ _ _ h => h) (Or.inl ⟨by kernel_rfl, fun w => by go_simp⟩) ?_
  refine wpAny_take (i := 5) (v := .string s) rfl (by kernel_rfl) (by kernel_rfl) (by kernel_rfl) (fun _ _ _ h => h) (Or.inl ⟨by kernel_rfl, fun w => by go_simp⟩) ?_
  refine wpAny_take (i := 6) (v := rPtr c) rfl (by kernel_rfl) (by kernel_rfl) (by kernel_rfl) (fun _ _ _ h => h) (Or.inl ⟨by kernel_rfl, fun w => by go_simp⟩) ?_
  refine wpAny_ready (rs := [4, 7]) (by kernel_rfl) (by simp) (AllReady.cons rfl (fun K hK => ?_) (AllReady.cons rfl (fun K hK => ?_) AllReady.nil))
  · skip
    go_simp
    refine hK _ _ ?_
    clear hK K
    refine wpAny_ready (rs := [7]) (by kernel_rfl) (by simp) (AllReady.cons rfl (fun K hK => ?_) AllReady.nil)
    go_simp
    refine Calls.mono HCC.out ?_
    intro e wc hp
    obtain ⟨rfl, ha⟩ := hp
    exact ⟨rfl, ppBad rfl ((unhide HAg1).drew.next ha)⟩
  · skip
    go_simp
    refine Calls.mono HCC.out ?_
    intro e wc hp
    obtain ⟨rfl, ha⟩ := hp
    exact ⟨rfl, ppBad rfl ((unhide HAg1).drew.next ha)⟩

theorem at_catch {c : Ctx} {F : Fns} (hF : FC c F) (hN : ∃ k, FNx c.l k F) (w : World) (d i i0 : Nat) (h : Rdr c w i d) (hm : mustP c.l tTry i = .ok () i0) (b : Tr) (i1 : Nat) (hb : blockP c.l F d i0 = .ok b i1) (hc : fx c.l i1 = tCatch) (i2 : Nat) (h2 : mustP c.l tOpen (i1 + 1) = .ok () i2) (s : ByteArray) (i3 : Nat) (h3 : nameP c.l i2 = .ok s i3) (i4 : Nat) (h4 : mustP c.l tShut i3 = .ok () i4) (b2 : Tr) (i5 : Nat) (h5 : blockP c.l F d i4 = .ok b2 i5) (hf : fx c.l i5 ≠ tFinally) : Calls Tryz.prog 164 #[rPtr c] w (PPost c w d (NV w.heap.size) (.ok (.mk 12 noText 0 [b, .mk 13 s 0 [b2]]) i5)) := by
  have HLO := hide h.base.size
  obtain ⟨i0', hi0, hz0, hz1, hz2⟩ := info_parts info22
  have HR0 := hide h
  have HA0 := hide (Ap.refl c.R w.heap.size w)
  have HLT := hide h.rlt
  clear h
  go_enter Tryz.func164, Tryz.ntmps164
  have HC := hide (must_any c tTry w i d (unhide HR0) (by decide))
  rw [hm] at HC
  go_wp2_with fail
  refine Calls.mono HC.out ?_
  intro e wa hp
  obtain ⟨⟨va, rfl, rfl⟩, hrd, ha⟩ := hp
  clear HC
  have HRa := hide hrd
  have HAa := hide ((unhide HA0).next ha)
  clear hrd ha
  have HC := hide (block_any hF hN wa d i0 _ rfl (by rw [hb]; nofun) (unhide HRa))
  rw [hb] at HC
  go_wp2_with fail
  refine Calls.mono HC.out ?_
  intro e wb hp
  obtain ⟨⟨vb, rfl, hnb⟩, hrd, ha⟩ := hp
  clear HC
  have HRb := hide hrd
  have HAb := hide ((unhide HAa).next ha)
  obtain ⟨pb, rfl, hmb⟩ := (EV.mono hnb (unhide HAa).size).nv
  have HNb := hide hmb
  clear hnb hmb
  clear hrd ha
  have HC := hide (node_any 12 noText (.slice (some ⟨wb.heap.size, 0, none⟩) 1 1) (wb.alloc (.cells #[nPtr pb] 22)) ⟨_, _, _, rfl⟩)
  go_wp2_with fail
  refine Calls.mono HC.out ?_
  rintro e wn0 ⟨rfl, rfl⟩
  clear HC
  obtain ⟨m1, m2, m3⟩ := made (unhide HRb) (unhide HAb) (NAts.cons (unhide HNb) NAts.nil) (by simp [maxLen]) #[nPtr pb] rfl 1 rfl 12 noText (wb.heap.size + 1) rfl
  obtain ⟨t0, ht0⟩ : ∃ t0 : Tr, t0 = .mk 12 noText 0 [b] := ⟨_, rfl⟩
  rw [← ht0] at m1
  have HKL : Hid (t0.kids.length = 1) := by
    show _ = _
    rw [ht0]; rfl
  have HT0 := hide ht0
  obtain ⟨p0, u0, ps0, hpe, hop⟩ := m1.opens
  have hpe2 : p0 = wb.heap.size + 1 := by simpa [nPtr] using hpe.symm
  rw [hpe2] at hop
  have HOP := hide hop
  have HRn := hide m2
  have HAn := hide m3
  clear m1 m2 m3 hop hpe ht0
  obtain ⟨wn, hwn⟩ : ∃ wn, wn = (wb.alloc (.cells #[nPtr pb] 22)).alloc (nodeObj 12 noText 0 (.slice (some ⟨wb.heap.size, 0, none⟩) 1 1)) := ⟨_, rfl⟩
  rw [← hwn] at HOP HRn HAn
  rw [← hpe2] at HOP
  rw [show (wb.alloc (.cells #[nPtr pb] 22)).heap.size = p0 by rw [hpe2]; simp, ← hwn]
  clear hwn hpe2
  have HC := hide (take_yes c tCatch wn i1 d (unhide HRn) hc (by decide))
  go_wp2_with fail
  refine Calls.mono HC.out ?_
  rintro e wc ⟨rfl, hrd, ha⟩
  clear HC
  have HRc := hide hrd
  have HAc := hide ((unhide HAn).next ha)
  replace HOP := hide (Open.later (unhide HOP) (ha) (unhide HLT))
  clear hrd ha
  have HC := hide (must_any c tOpen wc (i1 + 1) d (unhide HRc) (by decide))
  rw [h2] at HC
  go_wp2_with fail
  refine Calls.mono HC.out ?_
  intro e wd hp
  obtain ⟨⟨vd, rfl, rfl⟩, hrd, ha⟩ := hp
  clear HC
  have HRd := hide hrd
  have HAd := hide ((unhide HAc).next ha)
  replace HOP := hide (Open.later (unhide HOP) (ha) (unhide HLT))
  clear hrd ha
  have HC := hide (name_any c wd i2 d (unhide HRd))
  rw [h3] at HC
  go_wp2_with fail
  refine Calls.mono HC.out ?_
  intro e we hp
  obtain ⟨⟨ve, rfl, rfl⟩, hrd, ha⟩ := hp
  clear HC
  have HRe := hide hrd
  have HAe := hide ((unhide HAd).next ha)
  replace HOP := hide (Open.later (unhide HOP) (ha) (unhide HLT))
  clear hrd ha
  have HC := hide (must_any c tShut we i3 d (unhide HRe) (by decide))
  rw [h4] at HC
  go_wp2_with fail
  refine Calls.mono HC.out ?_
  intro e wg1 hp
  obtain ⟨⟨vg1, rfl, rfl⟩, hrd, ha⟩ := hp
  clear HC
  have HRg1 := hide hrd
  have HAg1 := hide ((unhide HAe).next ha)
  replace HOP := hide (Open.later (unhide HOP) (ha) (unhide HLT))
  clear hrd ha
  have HCC := hide (block_any hF hN wg1.drew d i4 _ rfl (by rw [h5]; nofun) (unhide HRg1).drew)
  rw [h5] at HCC
  obtain ⟨hc3, hcf, hcl⟩ := (unhide HOP).cell
  obtain ⟨ua, uc, hue⟩ := (unhide HOP).shape
  subst hue
  go_wp2_with fail
  refine via2 (H := fun wc pc => Ap c.R wg1.heap.size wg1 wc ∧ Rdr c wc i5 d ∧ NAt (From wg1.heap.size) wc b2 pc) (G := ?G2) (fun CONT => ?_) ?_
  rotate_left
  ·
    refine wp_region_any (by kernel_rfl) ?_
    change wpAny _ _ _ _ _ _ _ (World.drew _)
    refine wpAny_take (i := 0) (v := nPtr p0) rfl (by kernel_rfl) (by kernel_rfl) (by kernel_rfl) (fun _ _ _ h => h) (Or.inl ⟨by kernel_rfl, fun w => by go_simp⟩) ?_
    refine wpAny_take (i := 1) (v := nPtr p0) rfl (by kernel_rfl) (by kernel_rfl) (by kernel_rfl) (fun _ _ _ h => h) (Or.inl ⟨by kernel_rfl, fun w => by go_simp⟩) ?_
    refine wpAny_take (i := 2) (v := nPtr p0) rfl (by kernel_rfl) (by kernel_rfl) (by kernel_rfl) (fun _ _ _ h => h) (Or.inl ⟨by kernel_rfl, fun w => by go_simp⟩) ?_
    refine wpAny_take (i := 3) (v := .pointer (some ⟨p0, 3, none⟩)) rfl (by kernel_rfl) (by kernel_rfl) (by kernel_rfl) (fun _ _ _ h => h) (Or.inl ⟨by kernel_rfl, fun w => by go_simp⟩) ?_
    refine wpAny_take (i := 5) (v := .string s) rfl (by kernel_rfl) (by kernel_rfl) (by kernel_rfl) (fun _ _ _ h => h) (Or.inl ⟨by kernel_rfl, fun w => by go_simp⟩) ?_
    refine wpAny_take (i := 6) (v := rPtr c) rfl (by kernel_rfl) (by kernel_rfl) (by kernel_rfl) (fun _ _ _ h => h) (Or.inl ⟨by kernel_rfl, fun w => by go_simp⟩) ?_
    refine wpAny_ready (rs := [4, 7]) (by kernel_rfl) (by simp) (AllReady.cons rfl (fun K hK => ?_) (AllReady.cons rfl (fun K hK => ?_) AllReady.nil))
    · skip
      go_simp
      refine hK _ _ ?_
      clear hK K
      refine wpAny_ready (rs := [7]) (by kernel_rfl) (by simp) (AllReady.cons rfl (fun K hK => ?_) AllReady.nil)
      go_simp
      refine Calls.mono HCC.out ?_
      intro e wc hp
      obtain ⟨⟨vc, rfl, hnc⟩, hrd, ha⟩ := hp
      obtain ⟨pc, rfl, hmc⟩ := hnc.nv
      have ha0 := ((Ap.refl c.R wg1.heap.size wg1).drew).next ha
      have HY : Hid (Ap c.R wg1.heap.size wg1 wc ∧ Rdr c wc i5 d ∧ NAt (From wg1.heap.size) wc b2 pc) := ⟨ha0, hrd, hmc⟩
      obtain ⟨gc3, gcf, gcl⟩ := (Open.later (unhide HOP) ha0 (unhide HLT)).cell
      have gcl1 : p0 < wc.heap.size + 1 := by omega
      have gcl2 : p0 < wc.heap.size + 1 + 1 := by omega
      clear hrd ha ha0 hnc hmc
      refine hK _ _ ?_
      clear hK K
      refine wpAny_ready (rs := [8]) (by kernel_rfl) (by simp) (AllReady.cons rfl (fun K hK => ?_) AllReady.nil)
      go_simp
      refine hK _ _ ?_
      clear hK K
      refine wpAny_ready (rs := [9]) (by kernel_rfl) (by simp) (AllReady.cons rfl (fun K hK => ?_) AllReady.nil)
      go_simp
      refine Calls.mono (node_any 13 s (.slice (some ⟨wc.heap.size, 0, none⟩) 1 1) (wc.alloc (.cells #[nPtr pc] 22)) ⟨_, _, _, rfl⟩) ?_
      rintro e wd0 ⟨rfl, rfl⟩
      refine hK _ _ ?_
      clear hK K
      refine wpAny_ready (rs := [10]) (by kernel_rfl) (by simp) (AllReady.cons rfl (fun K hK => ?_) AllReady.nil)
      go_simp
      refine hK _ _ ?_
      clear hK K
      refine wpAny_same (listed' := #[true, true, true, true, true, true, true, true, true, true, true, false, false, false, false]) (by kernel_rfl) rfl ?_
      exact CONT wc pc HY.out
    · skip
      go_simp
      refine Calls.mono HCC.out ?_
      intro e wc hp
      obtain ⟨⟨vc, rfl, hnc⟩, hrd, ha⟩ := hp
      obtain ⟨pc, rfl, hmc⟩ := hnc.nv
      have ha0 := ((Ap.refl c.R wg1.heap.size wg1).drew).next ha
      have HY : Hid (Ap c.R wg1.heap.size wg1 wc ∧ Rdr c wc i5 d ∧ NAt (From wg1.heap.size) wc b2 pc) := ⟨ha0, hrd, hmc⟩
      obtain ⟨gc3, gcf, gcl⟩ := (Open.later (unhide HOP) ha0 (unhide HLT)).cell
      have gcl1 : p0 < wc.heap.size + 1 := by omega
      have gcl2 : p0 < wc.heap.size + 1 + 1 := by omega
      clear hrd ha ha0 hnc hmc
      refine hK _ _ ?_
      clear hK K
      refine wpAny_ready (rs := [4, 8]) (by kernel_rfl) (by simp) (AllReady.cons rfl (fun K hK => ?_) (AllReady.cons rfl (fun K hK => ?_) AllReady.nil))
      · skip
        go_simp
        refine hK _ _ ?_
        clear hK K
        refine wpAny_ready (rs := [8]) (by kernel_rfl) (by simp) (AllReady.cons rfl (fun K hK => ?_) AllReady.nil)
        go_simp
        refine hK _ _ ?_
        clear hK K
        refine wpAny_ready (rs := [9]) (by kernel_rfl) (by simp) (AllReady.cons rfl (fun K hK => ?_) AllReady.nil)
        go_simp
        refine Calls.mono (node_any 13 s (.slice (some ⟨wc.heap.size, 0, none⟩) 1 1) (wc.alloc (.cells #[nPtr pc] 22)) ⟨_, _, _, rfl⟩) ?_
        rintro e wd0 ⟨rfl, rfl⟩
        refine hK _ _ ?_
        clear hK K
        refine wpAny_ready (rs := [10]) (by kernel_rfl) (by simp) (AllReady.cons rfl (fun K hK => ?_) AllReady.nil)
        go_simp
        refine hK _ _ ?_
        clear hK K
        exact wpAny_same (listed' := #[true, true, true, true, true, true, true, true, true, true, true, false, false, false, false]) (by kernel_rfl) (by kernel_rfl) (CONT wc pc HY.out)
      · skip
        go_simp
        refine hK _ _ ?_
        clear hK K
        refine wpAny_ready (rs := [4, 9]) (by kernel_rfl) (by simp) (AllReady.cons rfl (fun K hK => ?_) (AllReady.cons rfl (fun K hK => ?_) AllReady.nil))
        · skip
          go_simp
          refine hK _ _ ?_
          clear hK K
          refine wpAny_ready (rs := [9]) (by kernel_rfl) (by simp) (AllReady.cons rfl (fun K hK => ?_) AllReady.nil)
          go_simp
          refine Calls.mono (node_any 13 s (.slice (some ⟨wc.heap.size, 0, none⟩) 1 1) (wc.alloc (.cells #[nPtr pc] 22)) ⟨_, _, _, rfl⟩) ?_
          rintro e wd0 ⟨rfl, rfl⟩
          refine hK _ _ ?_
          clear hK K
          refine wpAny_ready (rs := [10]) (by kernel_rfl) (by simp) (AllReady.cons rfl (fun K hK => ?_) AllReady.nil)
          go_simp
          refine hK _ _ ?_
          clear hK K
          exact wpAny_same (listed' := #[true, true, true, true, true, true, true, true, true, true, true, false, false, false, false]) (by kernel_rfl) (by kernel_rfl) (CONT wc pc HY.out)
        · skip
          go_simp
          refine Calls.mono (node_any 13 s (.slice (some ⟨wc.heap.size, 0, none⟩) 1 1) (wc.alloc (.cells #[nPtr pc] 22)) ⟨_, _, _, rfl⟩) ?_
          rintro e wd0 ⟨rfl, rfl⟩
          refine hK _ _ ?_
          clear hK K
          refine wpAny_ready (rs := [4, 10]) (by kernel_rfl) (by simp) (AllReady.cons rfl (fun K hK => ?_) (AllReady.cons rfl (fun K hK => ?_) AllReady.nil))
          · skip
            go_simp
            refine hK _ _ ?_
            clear hK K
            refine wpAny_ready (rs := [10]) (by kernel_rfl) (by simp) (AllReady.cons rfl (fun K hK => ?_) AllReady.nil)
            go_simp
            refine hK _ _ ?_
            clear hK K
            exact wpAny_same (listed' := #[true, true, true, true, true, true, true, true, true, true, true, false, false, false, false]) (by kernel_rfl) (by kernel_rfl) (CONT wc pc HY.out)
          · skip
            go_simp
            refine hK _ _ ?_
            clear hK K
            refine wpAny_ready (rs := [4]) (by kernel_rfl) (by simp) (AllReady.cons rfl (fun K hK => ?_) AllReady.nil)
            go_simp
            refine hK _ _ ?_
            clear hK K
            exact wpAny_same (listed' := #[true, true, true, true, true, true, true, true, true, true, true, false, false, false, false]) (by kernel_rfl) (by kernel_rfl) (CONT wc pc HY.out)
  intro wc pc hY
  obtain ⟨ha0, hrd, hmc⟩ := hY
  have HAc := hide ((unhide HAg1).next ha0)
  have HA0c := hide ha0
  have HRc := hide hrd
  have HOc := hide (Open.later (unhide HOP) ha0 (unhide HLT))
  have HNc := hide hmc
  obtain ⟨gc3, gcf, gcl⟩ := (unhide HOc).cell
  have gcl1 : p0 < wc.heap.size + 1 := by omega
  have gcl2 : p0 < wc.heap.size + 1 + 1 := by omega
  clear hrd ha0 hmc
  obtain ⟨n1, n2, n3⟩ := made (w := wg1) (unhide HRc) (unhide HA0c) (NAts.cons (unhide HNc) NAts.nil) (by simp [maxLen]) #[nPtr pc] rfl 1 rfl 13 s (wc.heap.size + 1) rfl
  have hbd : Below wc.heap.size wc ((wc.alloc (.cells #[nPtr pc] 22)).alloc (nodeObj 13 s 0 (.slice (some ⟨wc.heap.size, 0, none⟩) 1 1))) := ((Below.refl _ _).alloc (Nat.le_refl _) _).alloc (by simp) _
  obtain ⟨wd, hwd⟩ : ∃ wd, wd = (wc.alloc (.cells #[nPtr pc] 22)).alloc (nodeObj 13 s 0 (.slice (some ⟨wc.heap.size, 0, none⟩) 1 1)) := ⟨_, rfl⟩
  have hq : (wc.alloc (.cells #[nPtr pc] 22)).heap.size = wc.heap.size + 1 := by simp
  obtain ⟨q, hqq⟩ : ∃ q, q = wc.heap.size + 1 := ⟨_, rfl⟩
  obtain ⟨pq, hpq, hnq⟩ := n1.nv
  have hpe : pq = wc.heap.size + 1 := by simpa [nPtr] using hpq.symm
  subst hpe
  have hws : wd.heap.size = q + 1 := by rw [hwd, hqq]; simp
  rw [← hwd] at hnq n2 n3 hbd
  try rw [hq]
  rw [← hqq] at hnq
  try rw [← hqq]
  try rw [← hwd]
  have HOd := hide (Open.later (unhide HOc) (Ap.of hbd) (unhide HLT))
  have HAd := hide ((unhide HAc).next (Ap.of hbd))
  have HRd := hide n2
  have HNd := hide (Open.apart (unhide HOP) (unhide HAg1).size (NAts.cons hnq NAts.nil))
  obtain ⟨ec3, ecf, ecl⟩ := (unhide HOd).cell
  clear n1 n2 n3 hbd hnq hpq hwd hqq hq gc3 gcf gcl gcl1 gcl2
  have hlen := NAts.length _ _ (unhide HOd).kids
  have hown := (unhide HOd).row
  rw [hlen] at hown
  have HOWN := hide hown
  have hsz := (unhide HAd).size
  have hkl : t0.kids.length ≤ 3 := by rw [unhide HKL]; decide
  clear hown hlen
  refine wpAny_ready (rs := [11]) (by kernel_rfl) (by simp) (AllReady.cons rfl (fun K hK => ?_) AllReady.nil)
  refine step_append_lies _ rfl _ _ 36 rfl w.heap.size 22 i0' (.pointer none) 1 8 Tryz.underlying36 hi0 hz0 hz1 hz2 rfl (by decide) _ _ _ rfl ((unhide HOWN).alloc _) ⟨q + 1, 0, none⟩ 1 1 [nPtr q] rfl rfl (one_cells wd q _ hws) (one_one q) (by decide) (by unfold maxLen; omega) (by omega) (by simp; omega) (wd.heap.size + 1) (by simp) ?_
  clear hws
  intro g cap w3 hown3 hgr3 hg3 _
  refine hK _ _ ?_
  clear hK K
  have HP1 := hide (push1 (unhide HOd) (unhide HNd) (unhide HRd) (unhide HAd) (unhide HLO) hown3 hgr3 hg3)
  have hp3 : w3.cell? ⟨p0, 3, none⟩ = wd.cell? ⟨p0, 3, none⟩ ∧ w3.frozen? ⟨p0, 3, none⟩ = wd.frozen? ⟨p0, 3, none⟩ := by
    have hbb : w3.heap[p0]? = wd.heap[p0]? := (hgr3.block p0 (by simp; omega) (fun e => (unhide HOd).own e.symm)).trans (Below.heap_alloc wd _ p0 ecl)
    exact ⟨World.cell?_of_block (w := wd) hbb, World.frozen?_of_block (w := wd) hbb⟩
  obtain ⟨hp3c, hp3f⟩ := hp3
  rw [ec3] at hp3c
  rw [ecf 3] at hp3f
  clear hown3 hgr3 hg3
  refine wpAny_take (i := 12) (v := nPtr p0) rfl (by kernel_rfl) (by kernel_rfl) (by kernel_rfl) (fun _ _ _ h => h) (Or.inl ⟨by kernel_rfl, fun w => by go_simp⟩) ?_
  refine wpAny_take (i := 13) (v := .pointer (some ⟨p0, 3, none⟩)) rfl (by kernel_rfl) (by kernel_rfl) (by kernel_rfl) (fun _ _ _ h => h) (Or.inl ⟨by kernel_rfl, fun w => by go_simp⟩) ?_
  refine wpAny_ready (rs := [14]) (by kernel_rfl) (by simp) (AllReady.cons rfl (fun K hK => ?_) AllReady.nil)
  go_simp
  refine hK _ _ ?_
  clear hK K hp3c hp3f ec3 ecf ecl HOWN
  refine wpAny_done (by kernel_rfl) ?_ _
  go_simp
  obtain ⟨m1, m2, m3⟩ := unhide HP1
  obtain ⟨t0x, ht2⟩ : ∃ tq : Tr, tq = .mk t0.kd t0.tx t0.n (t0.kids ++ [.mk 13 s 0 [b2]]) := ⟨_, rfl⟩
  rw [← ht2] at m1
  have HKLt0x : Hid (t0x.kids.length = t0.kids.length + 1) := by
    show _ = _
    rw [ht2]; simp [Tr.kids]
  have HTt0x := hide ht2
  obtain ⟨pz, uz, psz, hpz, hopz⟩ := m1.opens
  have hpz2 : pz = p0 := by simpa [nPtr] using hpz.symm
  rw [hpz2] at hopz
  obtain ⟨w4, hw4⟩ : ∃ w4, w4 = (w3.setCell ⟨p0, 3, none⟩ (.slice (some ⟨g, 0, none⟩) (t0.kids.length + 1) cap)) := ⟨_, rfl⟩
  rw [← hw4] at hopz m2 m3
  rw [← hw4]
  clear HOP
  have HOP := hide hopz
  have HR4C := hide m2
  have HA4C := hide m3
  clear m1 m2 m3 hopz hpz hw4 hpz2 ht2 HP1 HCC
  have HC := hide (take_not c tFinally w4 i5 d (unhide HR4C) hf)
  go_wp2_with fail
  refine Calls.mono HC.out ?_
  rintro e wz ⟨rfl, hb⟩
  clear HC
  have HRz := hide ((unhide HR4C).later hb)
  have HAz := hide ((unhide HA4C).next (Ap.of hb))
  replace HOP := hide (Open.later (unhide HOP) (Ap.of hb) (unhide HLT))
  clear hb
  obtain ⟨hc3, hcf, hcl⟩ := (unhide HOP).cell
  obtain ⟨ua, uc, hue⟩ := (unhide HOP).shape
  subst hue
  have hk2 : t0x.kids.length = 2 := by rw [unhide HKLt0x, unhide HKL]
  rw [hk2] at hc3
  clear hk2
  go_wp2_with fail
  go_ret
  have e0 := unhide HT0
  have e1 := unhide HTt0x
  have hnv := (unhide HOP).ev.nv
  rw [e1, e0] at hnv
  exact ppOk rfl hnv (unhide HRz) (unhide HAz)

end Go.Proofs.YtodmgaikhbmlnaaGreatDoor
