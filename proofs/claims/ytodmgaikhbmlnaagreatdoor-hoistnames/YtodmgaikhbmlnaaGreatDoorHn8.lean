/-
  Statements that declare a name.
-/
import Derived.Test.YtodmgaikhbmlnaaGreatDoorHn0
import Derived.Test.YtodmgaikhbmlnaaGreatDoorHn4
import Derived.Test.YtodmgaikhbmlnaaGreatDoorHn7
set_option maxRecDepth 100000
set_option maxHeartbeats 16000000
namespace Go.Proofs.YtodmgaikhbmlnaaGreatDoor
open Go.RowKit
theorem decl_any {c : Ctx} {F : Fns} (hF : FC c F) (w : World) (d i : Nat) (r : PR Tr) (hk : (tkA c.l i).kd ≠ 6) (hs : zgq c.l F d i = r) (ho : r ≠ .out) (h : Rdr c w i d) : Calls Tryz.prog 157 #[rPtr c] w (zk6 c w d (NV w.heap.size) r) := by
 have hmf := zk5 c.R 222
 have HKD := qh hk
 have HLO := qh h.base.size
 obtain ⟨i0, hi0, hz0, hz1, hz2⟩ := info_parts zkw
 clear hk
 have HR0 := qh h
 have HA0 := qh (Ap.refl c.R w.heap.size w)
 have HLT := qh h.rlt
 unfold zgq at hs
 have HS := qh hs
 have HO := qh ho
 clear h hs ho
 go_enter Tryz.func157, Tryz.ntmps157
 obtain ⟨hd, hhd⟩ : ∃ hd, hd = zvj (tkA c.l i).tx := ⟨_, rfl⟩
 rw [← hhd] at HS
 have HC := qh (kind_any c w i d HR0.out HKD.out)
 rw [← hhd] at HC
 clear hhd
 go_wp2_with fail
 refine cm HC.out ?_
 rintro e wk ⟨rfl, hrk, hak⟩
 clear HC
 have HRk := qh hrk
 have HAk := qh (HA0.out.next hak)
 clear hrk hak HR0 HA0
 cases hr : zjq c.l (i + 1) with
 | out =>
  rw [hr] at HS; simp only [zqv] at HS; exact absurd HS.out.symm HO.out
 | bad er p =>
  have HC := qh (zk4 c wk (i + 1) d HRk.out); rw [hr] at HC HS; simp only [zz6] at HS; clear hr; go_wp2_with fail; refine cm HC.out ?_; intro e w' hp; obtain ⟨rfl, ha⟩ := hp
  exact ⟨rfl, zq9 HS.out.symm (HAk.out.next ha)⟩
 | ok x1 j1 =>
  have HC := qh (zk4 c wk (i + 1) d HRk.out); rw [hr] at HC HS; simp only [zzv] at HS; clear hr; go_wp2_with fail; refine cm HC.out ?_; intro e w1 hp; obtain ⟨⟨v1, rfl, rfl⟩, hrd, ha⟩ := hp; clear HC
  have HA1 := qh (HAk.out.next ha); have HR1 := qh hrd; clear hrd ha HAk HRk; have HC := qh (zqw hd x1 (.slice none 0 0) w1 ⟨_, _, _, rfl⟩); go_wp2_with fail; refine cm HC.out ?_; rintro e wn0 ⟨rfl, rfl⟩
  clear HC; obtain ⟨m1, m2, m3⟩ := made0 HR1.out HA1.out (KV.nil _ _) hd x1 _ rfl; obtain ⟨t0, ht0⟩ : ∃ t0 : Tr, t0 = .mk hd x1 0 [] := ⟨_, rfl⟩; rw [← ht0] at m1; have HKL : Hid (t0.kids.length = 0) := by
   show _ = _
   rw [ht0]; rfl
  have HTK : Hid (t0.kd = hd) := by
   show _ = _
   rw [ht0]; rfl
  have HT0 := qh ht0; obtain ⟨p0, u0, ps0, hpe, hop⟩ := m1.opens; have hpe2 : p0 = w1.heap.size := by simpa [nPtr] using hpe.symm
  obtain ⟨hk0, _, _, _, _⟩ := zzj hop.blk; rw [HTK.out] at hk0; have hkl0 := zzq hop.blk; rw [hpe2] at hop hk0 hkl0; have HOP0 := qh hop; have HRn := qh m2; have HAn := qh m3; clear m1 m2 m3 hop hpe ht0
  obtain ⟨wn, hwn⟩ : ∃ wn, wn = w1.alloc (zzk hd x1 0 (.slice none 0 0)) := ⟨_, rfl⟩; rw [← hwn] at HOP0 HRn HAn hk0 hkl0; rw [← hpe2] at HOP0 hk0 hkl0; rw [← hwn, ← hpe2]; clear hwn hpe2
  by_cases h4 : hd = 4
  ·
   have b4 : (hd == 4) = true := beq_iff_eq.2 h4; have HC := qh (zx4 c wn j1 d HRn.out)
   by_cases hx : fx c.l j1 = tEq
   ·
    rw [if_neg (fun hh => hh.2 hx)] at HS; have bx : ((fx c.l j1).toList == [61]) = true := zf8 (b := tEq) rfl hx; clear h4; go_wp2_with fail; refine cm HC.out ?_; rintro e wf ⟨rfl, hbf⟩; clear HC
    have HRf := qh (HRn.out.later hbf); have HAf := qh (HAn.out.next (Ap.of hbf)); have HOP := qh (Open.later HOP0.out (Ap.of hbf) HLT.out); clear hbf hk0 hkl0; clear hx
    by_cases hy : fx c.l j1 = tEq
    ·
     rw [if_pos hy] at HS; have HC := qh (zk0 c tEq wf j1 d HRf.out hy (by decide)); clear hy; go_wp2_with fail; refine cm HC.out ?_; rintro e wy ⟨rfl, hry, hay⟩; clear HC; have HRy := qh hry
     have HAy := qh (HAf.out.next hay); replace HOP := qh (Open.later HOP.out hay HLT.out); clear hry hay; obtain ⟨hc3, hcf, hcl⟩ := HOP.out.cell; obtain ⟨ua, uc, hue⟩ := HOP.out.shape; subst hue
     cases hr : zq4 c.l F.vl d (j1 + 1) with
     | out =>
      rw [hr] at HS; simp only [zqv] at HS; exact absurd HS.out.symm HO.out
     | bad er p =>
      have HC := qh (zd7 hF wy.drew d (j1 + 1) HRy.out.drew (by rw [hr]; nofun))
      rw [hr] at HC HS; simp only [zz6] at HS; clear hr; go_wp2_with fail; refine wp_region_any (by kernel_rfl) ?_; change wpAny _ _ _ _ _ _ _ (World.drew _); refine wt 0 (nPtr p0) ?_; refine wt 1 (nPtr p0) ?_
      refine wt 2 (nPtr p0) ?_; refine wt 3 (.pointer (some ⟨p0, 3, none⟩)) ?_; refine wt 5 (rPtr c) ?_; refine wt 6 (rPtr c) ?_; refine wt 7 (.func (.func 222) #[rPtr c] #[]) ?_
      refine wr2 4 8 (fun K hK => ?_) fun K hK => ?_
      ·
       go_simp; refine hK _ _ ?_; clear hK K; refine wr1 8 fun K hK => ?_; go_simp; refine cm HC.out ?_; intro e w' hp; obtain ⟨rfl, ha⟩ := hp; exact ⟨rfl, zq9 HS.out.symm (HAy.out.drew.next ha)⟩
      ·
       go_simp; refine cm HC.out ?_; intro e w' hp; obtain ⟨rfl, ha⟩ := hp; exact ⟨rfl, zq9 HS.out.symm (HAy.out.drew.next ha)⟩
     | ok tx1 jx =>
      have HC := qh (zd7 hF wy.drew d (j1 + 1) HRy.out.drew (by rw [hr]; nofun))
      rw [hr] at HC HS; simp only [zzv] at HS; clear hr; go_wp2_with fail; refine via2 (H := fun wc pc => Ap c.R wy.heap.size wy wc ∧ Rdr c wc jx d ∧ NAt (From wy.heap.size) wc tx1 pc) (G := ?G1) (fun CONT => ?_) ?_
      rotate_left
      ·
       refine wp_region_any (by kernel_rfl) ?_; change wpAny _ _ _ _ _ _ _ (World.drew _); refine wt 0 (nPtr p0) ?_; refine wt 1 (nPtr p0) ?_; refine wt 2 (nPtr p0) ?_; refine wt 3 (.pointer (some ⟨p0, 3, none⟩)) ?_
       refine wt 5 (rPtr c) ?_; refine wt 6 (rPtr c) ?_; refine wt 7 (.func (.func 222) #[rPtr c] #[]) ?_; refine wr2 4 8 (fun K hK => ?_) fun K hK => ?_
       ·
        go_simp; refine hK _ _ ?_; clear hK K; refine wr1 8 fun K hK => ?_; go_simp; refine cm HC.out ?_; intro e wc hp; obtain ⟨⟨vc, rfl, pc, rfl, hnc⟩, hrd, ha⟩ := hp
        have ha0 := ((Ap.refl c.R wy.heap.size wy).drew).next ha; have HY : Hid (Ap c.R wy.heap.size wy wc ∧ Rdr c wc jx d ∧ NAt (From wy.heap.size) wc tx1 pc) := ⟨ha0, hrd, hnc⟩
        obtain ⟨gc3, gcf, gcl⟩ := (Open.later HOP.out ha0 HLT.out).cell; clear hrd ha ha0 hnc; refine hK _ _ ?_; clear hK K; refine wr1 9 fun K hK => ?_; go_simp; refine hK _ _ ?_; clear hK K
        refine zq7 (listed' := tf 10 4) (by kernel_rfl) rfl ?_; exact CONT wc pc HY.out
       ·
        go_simp; refine cm HC.out ?_; intro e wc hp; obtain ⟨⟨vc, rfl, pc, rfl, hnc⟩, hrd, ha⟩ := hp; have ha0 := ((Ap.refl c.R wy.heap.size wy).drew).next ha
        have HY : Hid (Ap c.R wy.heap.size wy wc ∧ Rdr c wc jx d ∧ NAt (From wy.heap.size) wc tx1 pc) := ⟨ha0, hrd, hnc⟩; obtain ⟨gc3, gcf, gcl⟩ := (Open.later HOP.out ha0 HLT.out).cell; clear hrd ha ha0 hnc
        refine hK _ _ ?_; clear hK K; refine wr2 4 9 (fun K hK => ?_) fun K hK => ?_
        ·
         go_simp; refine hK _ _ ?_; clear hK K; refine wr1 9 fun K hK => ?_; go_simp; refine hK _ _ ?_; clear hK K; exact wz 10 4 (CONT wc pc HY.out)
        ·
         go_simp; refine hK _ _ ?_; clear hK K; refine wr1 4 fun K hK => ?_; go_simp; refine hK _ _ ?_; clear hK K; exact wz 10 4 (CONT wc pc HY.out)
      intro wc pc hY; obtain ⟨ha0, hrd, hnc⟩ := hY; have HAc := qh (HAy.out.next ha0); have HRc := qh hrd; have HOc := qh (Open.later HOP.out ha0 HLT.out)
      have HNc := qh (Open.apart HOP.out HAy.out.size (NAts.cons hnc NAts.nil)); obtain ⟨gc3, gcf, gcl⟩ := HOc.out.cell; clear hrd ha0 hnc; have hlen := NAts.length _ _ HOc.out.kids; have hown := HOc.out.row
      rw [hlen] at hown; have HOWN := qh hown; have hsz := HAc.out.size; have hkl : t0.kids.length ≤ 3 := by rw [HKL.out]; decide
      clear hown hlen; refine wr1 10 fun K hK => ?_
      refine step_append_lies _ rfl _ _ 36 rfl w.heap.size 22 i0 (.pointer none) 1 8 Tryz.underlying36 hi0 hz0 hz1 hz2 rfl (by decide) _ _ _ rfl (HOWN.out.alloc _) ⟨wc.heap.size, 0, none⟩ 1 1 [nPtr pc] rfl rfl (zq3 wc pc _ rfl) (zxy pc) (by decide) (by unfold maxLen; omega) (by omega) (by simp; omega) (wc.heap.size + 1) (by simp) ?_
      intro g cap w3 hown3 hgr3 hg3 _; refine hK _ _ ?_; clear hK K; have HP1 := qh (push1 HOc.out HNc.out HRc.out HAc.out HLO.out hown3 hgr3 hg3)
      have hp3 : w3.cell? ⟨p0, 3, none⟩ = wc.cell? ⟨p0, 3, none⟩ ∧ w3.frozen? ⟨p0, 3, none⟩ = wc.frozen? ⟨p0, 3, none⟩ := by
       have hbb : w3.heap[p0]? = wc.heap[p0]? := (hgr3.block p0 (by simp; omega) (fun e => HOc.out.own e.symm)).trans (Below.heap_alloc wc _ p0 gcl)
       exact ⟨World.cell?_of_block (w := wc) hbb, World.frozen?_of_block (w := wc) hbb⟩
      obtain ⟨hp3c, hp3f⟩ := hp3; rw [gc3] at hp3c; rw [gcf 3] at hp3f; clear hown3 hgr3 hg3; refine wt 11 (nPtr p0) ?_; refine wt 12 (.pointer (some ⟨p0, 3, none⟩)) ?_; refine wr1 13 fun K hK => ?_; go_simp
      refine hK _ _ ?_; clear hK K hp3c hp3f gc3 gcf gcl HOWN; refine wpAny_done (by kernel_rfl) ?_ _; go_simp; obtain ⟨m1, m2, m3⟩ := zzz HP1; have HM1 := qh m1; have HM2 := qh m2; have HM3 := qh m3
      clear m1 m2 m3
      cases hr : zz0 c.l zqz jx with
      | out =>
       rw [hr] at HS; simp only [zqv] at HS; exact absurd HS.out.symm HO.out
      | bad er p =>
       have HC := qh (zz8 c zqz (w3.setCell ⟨p0, 3, none⟩ (.slice (some ⟨g, 0, none⟩) (t0.kids.length + 1) cap)) jx d HM2.out (by decide)); rw [hr] at HC HS; simp only [zz6] at HS; clear hr; go_wp2_with fail
       refine cm HC.out ?_; intro e w' hp; obtain ⟨rfl, ha⟩ := hp; exact ⟨rfl, zq9 HS.out.symm (HM3.out.next ha)⟩
      | ok x2 j2 =>
       have HC := qh (zz8 c zqz (w3.setCell ⟨p0, 3, none⟩ (.slice (some ⟨g, 0, none⟩) (t0.kids.length + 1) cap)) jx d HM2.out (by decide)); rw [hr] at HC HS; simp only [zzv] at HS; clear hr; go_wp2_with fail
       refine cm HC.out ?_; intro e w2 hp; obtain ⟨⟨v2, rfl, rfl⟩, hrd, ha⟩ := hp; clear HC; have HA2 := qh (HM3.out.next ha); have HR2 := qh hrd; replace HM1 := qh (EV.later HM1.out ha HLT.out); clear hrd ha HM3 HM2
       have ht0 := zzz HT0; subst ht0; go_wp2_with fail; go_ret; exact ppOk HS.out.symm HM1.out.nv HR2.out HA2.out
    ·
     rw [if_neg hy] at HS; have HC := qh (zw0 c tEq wf j1 d HRf.out hy); clear hy; go_wp2_with fail; refine cm HC.out ?_; rintro e wy ⟨rfl, hby⟩; clear HC; have HRy := qh (HRf.out.later hby)
     have HAy := qh (HAf.out.next (Ap.of hby)); have HM1 := qh (Open.later HOP.out (Ap.of hby) HLT.out).ev; clear hby
     cases hr : zz0 c.l zqz j1 with
     | out =>
      rw [hr] at HS; simp only [zqv] at HS; exact absurd HS.out.symm HO.out
     | bad er p =>
      have HC := qh (zz8 c zqz wy j1 d HRy.out (by decide)); rw [hr] at HC HS; simp only [zz6] at HS; clear hr; go_wp2_with fail; refine cm HC.out ?_; intro e w' hp; obtain ⟨rfl, ha⟩ := hp
      exact ⟨rfl, zq9 HS.out.symm (HAy.out.next ha)⟩
     | ok x2 j2 =>
      have HC := qh (zz8 c zqz wy j1 d HRy.out (by decide)); rw [hr] at HC HS; simp only [zzv] at HS; clear hr; go_wp2_with fail; refine cm HC.out ?_; intro e w2 hp; obtain ⟨⟨v2, rfl, rfl⟩, hrd, ha⟩ := hp
      clear HC; have HA2 := qh (HAy.out.next ha); have HR2 := qh hrd; replace HM1 := qh (EV.later HM1.out ha HLT.out); clear hrd ha HAy HRy; have ht0 := zzz HT0; subst ht0; go_wp2_with fail; go_ret
      exact ppOk HS.out.symm HM1.out.nv HR2.out HA2.out
   ·
    rw [if_pos ⟨h4, hx⟩] at HS; have bx : ((fx c.l j1).toList == [61]) = false := zgk (b := tEq) rfl hx; clear h4 hx; go_wp2_with fail; refine cm HC.out ?_; rintro e wf ⟨rfl, hbf⟩; clear HC
    have HRf := qh (HRn.out.later hbf); have HAf := qh (HAn.out.next (Ap.of hbf)); have HOP := qh (Open.later HOP0.out (Ap.of hbf) HLT.out); clear hbf hk0 hkl0; have HC := qh (zb3 c 3 wf j1 d HRf.out)
    go_wp2_with fail; refine cm HC.out ?_; rintro e w9 ⟨rfl, hb9⟩; exact ⟨rfl, zq9 HS.out.symm (HAf.out.next (Ap.of hb9))⟩
  ·
   have b4 : (hd == 4) = false := beq_eq_false_iff_ne.2 h4; rw [if_neg (fun hh => h4 hh.1)] at HS; clear h4; have HOP := qh HOP0.out
   by_cases hy : fx c.l j1 = tEq
   ·
    rw [if_pos hy] at HS; have HC := qh (zk0 c tEq wn j1 d HRn.out hy (by decide)); clear hy; go_wp2_with fail; refine cm HC.out ?_; rintro e wy ⟨rfl, hry, hay⟩; clear HC; have HRy := qh hry
    have HAy := qh (HAn.out.next hay); replace HOP := qh (Open.later HOP.out hay HLT.out); clear hry hay; obtain ⟨hc3, hcf, hcl⟩ := HOP.out.cell; obtain ⟨ua, uc, hue⟩ := HOP.out.shape; subst hue
    cases hr : zq4 c.l F.vl d (j1 + 1) with
    | out =>
     rw [hr] at HS; simp only [zqv] at HS; exact absurd HS.out.symm HO.out
    | bad er p =>
     have HC := qh (zd7 hF wy.drew d (j1 + 1) HRy.out.drew (by rw [hr]; nofun))
     rw [hr] at HC HS; simp only [zz6] at HS; clear hr; go_wp2_with fail; refine wp_region_any (by kernel_rfl) ?_; change wpAny _ _ _ _ _ _ _ (World.drew _); refine wt 0 (nPtr p0) ?_; refine wt 1 (nPtr p0) ?_
     refine wt 2 (nPtr p0) ?_; refine wt 3 (.pointer (some ⟨p0, 3, none⟩)) ?_; refine wt 5 (rPtr c) ?_; refine wt 6 (rPtr c) ?_; refine wt 7 (.func (.func 222) #[rPtr c] #[]) ?_
     refine wr2 4 8 (fun K hK => ?_) fun K hK => ?_
     ·
      go_simp; refine hK _ _ ?_; clear hK K; refine wr1 8 fun K hK => ?_; go_simp; refine cm HC.out ?_; intro e w' hp; obtain ⟨rfl, ha⟩ := hp; exact ⟨rfl, zq9 HS.out.symm (HAy.out.drew.next ha)⟩
     ·
      go_simp; refine cm HC.out ?_; intro e w' hp; obtain ⟨rfl, ha⟩ := hp; exact ⟨rfl, zq9 HS.out.symm (HAy.out.drew.next ha)⟩
    | ok tx1 jx =>
     have HC := qh (zd7 hF wy.drew d (j1 + 1) HRy.out.drew (by rw [hr]; nofun))
     rw [hr] at HC HS; simp only [zzv] at HS; clear hr; go_wp2_with fail; refine via2 (H := fun wc pc => Ap c.R wy.heap.size wy wc ∧ Rdr c wc jx d ∧ NAt (From wy.heap.size) wc tx1 pc) (G := ?G2) (fun CONT => ?_) ?_
     rotate_left
     ·
      refine wp_region_any (by kernel_rfl) ?_; change wpAny _ _ _ _ _ _ _ (World.drew _); refine wt 0 (nPtr p0) ?_; refine wt 1 (nPtr p0) ?_; refine wt 2 (nPtr p0) ?_; refine wt 3 (.pointer (some ⟨p0, 3, none⟩)) ?_
      refine wt 5 (rPtr c) ?_; refine wt 6 (rPtr c) ?_; refine wt 7 (.func (.func 222) #[rPtr c] #[]) ?_; refine wr2 4 8 (fun K hK => ?_) fun K hK => ?_
      ·
       go_simp; refine hK _ _ ?_; clear hK K; refine wr1 8 fun K hK => ?_; go_simp; refine cm HC.out ?_; intro e wc hp; obtain ⟨⟨vc, rfl, pc, rfl, hnc⟩, hrd, ha⟩ := hp
       have ha0 := ((Ap.refl c.R wy.heap.size wy).drew).next ha; have HY : Hid (Ap c.R wy.heap.size wy wc ∧ Rdr c wc jx d ∧ NAt (From wy.heap.size) wc tx1 pc) := ⟨ha0, hrd, hnc⟩
       obtain ⟨gc3, gcf, gcl⟩ := (Open.later HOP.out ha0 HLT.out).cell; clear hrd ha ha0 hnc; refine hK _ _ ?_; clear hK K; refine wr1 9 fun K hK => ?_; go_simp; refine hK _ _ ?_; clear hK K
       refine zq7 (listed' := tf 10 4) (by kernel_rfl) rfl ?_; exact CONT wc pc HY.out
      ·
       go_simp; refine cm HC.out ?_; intro e wc hp; obtain ⟨⟨vc, rfl, pc, rfl, hnc⟩, hrd, ha⟩ := hp; have ha0 := ((Ap.refl c.R wy.heap.size wy).drew).next ha
       have HY : Hid (Ap c.R wy.heap.size wy wc ∧ Rdr c wc jx d ∧ NAt (From wy.heap.size) wc tx1 pc) := ⟨ha0, hrd, hnc⟩; obtain ⟨gc3, gcf, gcl⟩ := (Open.later HOP.out ha0 HLT.out).cell; clear hrd ha ha0 hnc
       refine hK _ _ ?_; clear hK K; refine wr2 4 9 (fun K hK => ?_) fun K hK => ?_
       ·
        go_simp; refine hK _ _ ?_; clear hK K; refine wr1 9 fun K hK => ?_; go_simp; refine hK _ _ ?_; clear hK K; exact wz 10 4 (CONT wc pc HY.out)
       ·
        go_simp; refine hK _ _ ?_; clear hK K; refine wr1 4 fun K hK => ?_; go_simp; refine hK _ _ ?_; clear hK K; exact wz 10 4 (CONT wc pc HY.out)
     intro wc pc hY; obtain ⟨ha0, hrd, hnc⟩ := hY; have HAc := qh (HAy.out.next ha0); have HRc := qh hrd; have HOc := qh (Open.later HOP.out ha0 HLT.out)
     have HNc := qh (Open.apart HOP.out HAy.out.size (NAts.cons hnc NAts.nil)); obtain ⟨gc3, gcf, gcl⟩ := HOc.out.cell; clear hrd ha0 hnc; have hlen := NAts.length _ _ HOc.out.kids; have hown := HOc.out.row
     rw [hlen] at hown; have HOWN := qh hown; have hsz := HAc.out.size; have hkl : t0.kids.length ≤ 3 := by rw [HKL.out]; decide
     clear hown hlen; refine wr1 10 fun K hK => ?_
     refine step_append_lies _ rfl _ _ 36 rfl w.heap.size 22 i0 (.pointer none) 1 8 Tryz.underlying36 hi0 hz0 hz1 hz2 rfl (by decide) _ _ _ rfl (HOWN.out.alloc _) ⟨wc.heap.size, 0, none⟩ 1 1 [nPtr pc] rfl rfl (zq3 wc pc _ rfl) (zxy pc) (by decide) (by unfold maxLen; omega) (by omega) (by simp; omega) (wc.heap.size + 1) (by simp) ?_
     intro g cap w3 hown3 hgr3 hg3 _; refine hK _ _ ?_; clear hK K; have HP1 := qh (push1 HOc.out HNc.out HRc.out HAc.out HLO.out hown3 hgr3 hg3)
     have hp3 : w3.cell? ⟨p0, 3, none⟩ = wc.cell? ⟨p0, 3, none⟩ ∧ w3.frozen? ⟨p0, 3, none⟩ = wc.frozen? ⟨p0, 3, none⟩ := by
      have hbb : w3.heap[p0]? = wc.heap[p0]? := (hgr3.block p0 (by simp; omega) (fun e => HOc.out.own e.symm)).trans (Below.heap_alloc wc _ p0 gcl)
      exact ⟨World.cell?_of_block (w := wc) hbb, World.frozen?_of_block (w := wc) hbb⟩
     obtain ⟨hp3c, hp3f⟩ := hp3; rw [gc3] at hp3c; rw [gcf 3] at hp3f; clear hown3 hgr3 hg3; refine wt 11 (nPtr p0) ?_; refine wt 12 (.pointer (some ⟨p0, 3, none⟩)) ?_; refine wr1 13 fun K hK => ?_; go_simp
     refine hK _ _ ?_; clear hK K hp3c hp3f gc3 gcf gcl HOWN; refine wpAny_done (by kernel_rfl) ?_ _; go_simp; obtain ⟨m1, m2, m3⟩ := zzz HP1; have HM1 := qh m1; have HM2 := qh m2; have HM3 := qh m3
     clear m1 m2 m3
     cases hr : zz0 c.l zqz jx with
     | out =>
      rw [hr] at HS; simp only [zqv] at HS; exact absurd HS.out.symm HO.out
     | bad er p =>
      have HC := qh (zz8 c zqz (w3.setCell ⟨p0, 3, none⟩ (.slice (some ⟨g, 0, none⟩) (t0.kids.length + 1) cap)) jx d HM2.out (by decide)); rw [hr] at HC HS; simp only [zz6] at HS; clear hr; go_wp2_with fail
      refine cm HC.out ?_; intro e w' hp; obtain ⟨rfl, ha⟩ := hp; exact ⟨rfl, zq9 HS.out.symm (HM3.out.next ha)⟩
     | ok x2 j2 =>
      have HC := qh (zz8 c zqz (w3.setCell ⟨p0, 3, none⟩ (.slice (some ⟨g, 0, none⟩) (t0.kids.length + 1) cap)) jx d HM2.out (by decide)); rw [hr] at HC HS; simp only [zzv] at HS; clear hr; go_wp2_with fail
      refine cm HC.out ?_; intro e w2 hp; obtain ⟨⟨v2, rfl, rfl⟩, hrd, ha⟩ := hp; clear HC; have HA2 := qh (HM3.out.next ha); have HR2 := qh hrd; replace HM1 := qh (EV.later HM1.out ha HLT.out); clear hrd ha HM3 HM2
      have ht0 := zzz HT0; subst ht0; go_wp2_with fail; go_ret; exact ppOk HS.out.symm HM1.out.nv HR2.out HA2.out
   ·
    rw [if_neg hy] at HS; have HC := qh (zw0 c tEq wn j1 d HRn.out hy); clear hy; go_wp2_with fail; refine cm HC.out ?_; rintro e wy ⟨rfl, hby⟩; clear HC; have HRy := qh (HRn.out.later hby)
    have HAy := qh (HAn.out.next (Ap.of hby)); have HM1 := qh (Open.later HOP.out (Ap.of hby) HLT.out).ev; clear hby
    cases hr : zz0 c.l zqz j1 with
    | out =>
     rw [hr] at HS; simp only [zqv] at HS; exact absurd HS.out.symm HO.out
    | bad er p =>
     have HC := qh (zz8 c zqz wy j1 d HRy.out (by decide)); rw [hr] at HC HS; simp only [zz6] at HS; clear hr; go_wp2_with fail; refine cm HC.out ?_; intro e w' hp; obtain ⟨rfl, ha⟩ := hp
     exact ⟨rfl, zq9 HS.out.symm (HAy.out.next ha)⟩
    | ok x2 j2 =>
     have HC := qh (zz8 c zqz wy j1 d HRy.out (by decide)); rw [hr] at HC HS; simp only [zzv] at HS; clear hr; go_wp2_with fail; refine cm HC.out ?_; intro e w2 hp; obtain ⟨⟨v2, rfl, rfl⟩, hrd, ha⟩ := hp
     clear HC; have HA2 := qh (HAy.out.next ha); have HR2 := qh hrd; replace HM1 := qh (EV.later HM1.out ha HLT.out); clear hrd ha HAy HRy; have ht0 := zzz HT0; subst ht0; go_wp2_with fail; go_ret
     exact ppOk HS.out.symm HM1.out.nv HR2.out HA2.out
theorem w3_any {c : Ctx} {b : Nat} {w1 W2 : World} {i d : Nat} {v0 v1 v2 v3 : Value} (h : Rdr c w1 i d) (hlo : c.lo ≤ b) (p1 : w1.heap[b]? = some O160)
  (hW : W2 = (((w1.setCell ⟨b, 0, none⟩ v0).setCell ⟨b, 1, none⟩ v1).setCell ⟨b, 2, none⟩ v2).setCell ⟨b, 3, none⟩ v3) :
  Rdr c W2 i d ∧ Below b w1 W2 ∧ C160 b W2 v0 v1 v2 v3 := by
 have hB : Below b w1 W2 := by
  rw [hW]
  exact ((((Below.refl _ w1).setCell (p := ⟨b, 0, none⟩) qv v0).setCell (p := ⟨b, 1, none⟩) qv v1).setCell (p := ⟨b, 2, none⟩) qv v2).setCell (p := ⟨b, 3, none⟩) qv v3
 refine ⟨h.ap hB hlo, hB, c160 ?_⟩
 rw [hW]
 exact set4 p1 v0 v1 v2 v3
theorem av_name {c : Ctx} (w : World) (d i : Nat) (hk : (tkA c.l i).kd = 1) (h : Rdr c w i d) : Calls Tryz.prog 279 #[rPtr c] w fun e w' => e = .returned (.bool true) ∧ Below w.heap.size w w' := by
 have HR0 := qh h
 have HB0 := qh (Below.refl w.heap.size w)
 have b1 : ((tkA c.l i).kd == 1) = true := by rw [hk]; decide
 have b3 : ((tkA c.l i).kd == 3) = false := by rw [hk]; decide
 have b4 : ((tkA c.l i).kd == 4) = false := by rw [hk]; decide
 clear h hk
 go_enter Tryz.func279, Tryz.ntmps279
 have HC := qh (zjk c w i d HR0.out)
 unfold tkV at HC
 have hfl := zg4 (tkA c.l i)
 go_wp2_with fail
 refine cm HC.out ?_
 rintro e wt ⟨rfl, hbt⟩
 clear HC
 have HRt := qh (HR0.out.later hbt)
 have HBt := qh hbt
 clear hbt
 go_wp2_with fail
 go_ret
 exact ⟨rfl, HBt.out⟩
theorem av_num {c : Ctx} (w : World) (d i : Nat) (hk : (tkA c.l i).kd = 3) (h : Rdr c w i d) : Calls Tryz.prog 279 #[rPtr c] w fun e w' => e = .returned (.bool true) ∧ Below w.heap.size w w' := by
 have HR0 := qh h
 have HB0 := qh (Below.refl w.heap.size w)
 have b1 : ((tkA c.l i).kd == 1) = false := by rw [hk]; decide
 have b3 : ((tkA c.l i).kd == 3) = true := by rw [hk]; decide
 have b4 : ((tkA c.l i).kd == 4) = false := by rw [hk]; decide
 clear h hk
 go_enter Tryz.func279, Tryz.ntmps279
 have HC := qh (zjk c w i d HR0.out)
 unfold tkV at HC
 have hfl := zg4 (tkA c.l i)
 go_wp2_with fail
 refine cm HC.out ?_
 rintro e wt ⟨rfl, hbt⟩
 clear HC
 have HRt := qh (HR0.out.later hbt)
 have HBt := qh hbt
 clear hbt
 go_wp2_with fail
 go_ret
 exact ⟨rfl, HBt.out⟩
theorem av_str {c : Ctx} (w : World) (d i : Nat) (hk : (tkA c.l i).kd = 4) (h : Rdr c w i d) : Calls Tryz.prog 279 #[rPtr c] w fun e w' => e = .returned (.bool true) ∧ Below w.heap.size w w' := by
 have HR0 := qh h
 have HB0 := qh (Below.refl w.heap.size w)
 have b1 : ((tkA c.l i).kd == 1) = false := by rw [hk]; decide
 have b3 : ((tkA c.l i).kd == 3) = false := by rw [hk]; decide
 have b4 : ((tkA c.l i).kd == 4) = true := by rw [hk]; decide
 clear h hk
 go_enter Tryz.func279, Tryz.ntmps279
 have HC := qh (zjk c w i d HR0.out)
 unfold tkV at HC
 have hfl := zg4 (tkA c.l i)
 go_wp2_with fail
 refine cm HC.out ?_
 rintro e wt ⟨rfl, hbt⟩
 clear HC
 have HRt := qh (HR0.out.later hbt)
 have HBt := qh hbt
 clear hbt
 go_wp2_with fail
 go_ret
 exact ⟨rfl, HBt.out⟩
theorem av_map {c : Ctx} (w : World) (d i : Nat) (h1 : (tkA c.l i).kd ≠ 1) (h3 : (tkA c.l i).kd ≠ 3) (h4 : (tkA c.l i).kd ≠ 4) (q : Nat) (hq : zx1 vlKeys (fx c.l i) = some q) (h : Rdr c w i d) : Calls Tryz.prog 279 #[rPtr c] w fun e w' => e = .returned (.bool true) ∧ Below w.heap.size w w' := by
 have HR0 := qh h
 have HB0 := qh (Below.refl w.heap.size w)
 have b1 : ((tkA c.l i).kd == 1) = false := beq_eq_false_iff_ne.2 h1
 have b3 : ((tkA c.l i).kd == 3) = false := beq_eq_false_iff_ne.2 h3
 have b4 : ((tkA c.l i).kd == 4) = false := beq_eq_false_iff_ne.2 h4
 have HL : Hid (∀ W : World, Rdr c W i d → (Instr.lookup 168 (.map (some c.mV)) (.string (fx c.l i)) true).run Tryz.prog W = .ok (.tuple #[.func (.func (vlFn q)) #[.pointer (some ⟨c.R, 0, none⟩)] #[], .bool true]) W) := fun W hW => by
  have := zy3 c (fx c.l i) W hW.base.vals; rw [hq] at this; exact this
 clear h h1 h3 h4 hq
 go_enter Tryz.func279, Tryz.ntmps279
 have HC := qh (zjk c w i d HR0.out)
 unfold tkV at HC
 have hfl := zg4 (tkA c.l i)
 go_wp2_with fail
 refine cm HC.out ?_
 rintro e wt ⟨rfl, hbt⟩
 clear HC
 have HRt := qh (HR0.out.later hbt)
 have HBt := qh hbt
 clear hbt
 go_wp2_with fail
 refine wp_region_held (S := fun W => Rdr c W i d) (by kernel_rfl) ?_
 change wpAnyH _ _ _ _ _ _ _ _ (World.drew _)
 refine wh 0 (rPtr c) HRt.out.drew ?_
 refine wh 1 (rPtr c) HRt.out.drew ?_
 refine wh 2 (.pointer (some ⟨c.R, 5, none⟩)) HRt.out.drew ?_
 refine wg 3 (.map (some c.mV)) rfl (Or.inl ⟨by kernel_rfl, fun W hW => by have hh := Rdr.c5 hW; go_simp⟩) HRt.out.drew ?_
 refine wh 4 (rPtr c) HRt.out.drew ?_
 refine wq1 5 fun K hK => ?_
 go_simp
 refine cm (zx4 c _ i d HRt.out.drew) ?_
 rintro e wq ⟨rfl, hbq⟩
 have HRq := qh (HRt.out.drew.later hbq)
 have HBq := qh (HBt.out.trans ((qb.drew.trans hbq).mono HBt.out.size))
 clear hbq
 refine hK.out _ _ HRq.out (fun _ => ?_)
 clear hK K
 refine wg 6 (.tuple #[.func (.func (vlFn q)) #[.pointer (some ⟨c.R, 0, none⟩)] #[], .bool true]) rfl (Or.inl ⟨by kernel_rfl, fun W hW => by have hh := HL.out W hW; go_simp⟩) HRq.out ?_
 refine wh 7 (.tuple #[.func (.func (vlFn q)) #[.pointer (some ⟨c.R, 0, none⟩)] #[], .bool true]) HRq.out ?_
 refine wh 8 (.func (.func (vlFn q)) #[.pointer (some ⟨c.R, 0, none⟩)] #[]) HRq.out ?_
 refine wh 9 (.bool true) HRq.out ?_
 refine wh 10 (.func (.func (vlFn q)) #[.pointer (some ⟨c.R, 0, none⟩)] #[]) HRq.out ?_
 refine wh 11 (.bool true) HRq.out ?_
 refine wpAnyH_done (by kernel_rfl) ?_ _
 go_simp
 go_wp2_with fail
 go_ret
 exact ⟨rfl, HBq.out⟩
theorem av_none {c : Ctx} (w : World) (d i : Nat) (h1 : (tkA c.l i).kd ≠ 1) (h3 : (tkA c.l i).kd ≠ 3) (h4 : (tkA c.l i).kd ≠ 4) (hq : zx1 vlKeys (fx c.l i) = none) (hsg : sgOf (fx c.l i) = none) (h : Rdr c w i d) : Calls Tryz.prog 279 #[rPtr c] w fun e w' => e = .returned (.bool false) ∧ Below w.heap.size w w' := by
 have HR0 := qh h
 have HB0 := qh (Below.refl w.heap.size w)
 have b1 : ((tkA c.l i).kd == 1) = false := beq_eq_false_iff_ne.2 h1
 have b3 : ((tkA c.l i).kd == 3) = false := beq_eq_false_iff_ne.2 h3
 have b4 : ((tkA c.l i).kd == 4) = false := beq_eq_false_iff_ne.2 h4
 have HL : Hid (∀ W : World, Rdr c W i d → (Instr.lookup 168 (.map (some c.mV)) (.string (fx c.l i)) true).run Tryz.prog W = .ok (.tuple #[.nilFunc, .bool false]) W) := fun W hW => by
  have := zy3 c (fx c.l i) W hW.base.vals; rw [hq] at this; exact this
 have HL2 : Hid (∀ W : World, Rdr c W i d → (Instr.lookup 166 (.map (some c.mS)) (.string (fx c.l i)) true).run Tryz.prog W = .ok (.tuple #[.agg #[.string ⟨#[]⟩, .int .i64 0, .int .i64 0, .int .i64 0], .bool false]) W) := fun W hW => by
  have := zd6 c (fx c.l i) W hW.base.signs; rw [hsg] at this; exact this
 clear h h1 h3 h4 hq hsg
 go_enter Tryz.func279, Tryz.ntmps279
 have HC := qh (zjk c w i d HR0.out)
 unfold tkV at HC
 have hfl := zg4 (tkA c.l i)
 go_wp2_with fail
 refine cm HC.out ?_
 rintro e wt ⟨rfl, hbt⟩
 clear HC
 have HRt := qh (HR0.out.later hbt)
 have HBt := qh hbt
 clear hbt
 go_wp2_with fail
 refine wp_region_held (S := fun W => Rdr c W i d) (by kernel_rfl) ?_
 change wpAnyH _ _ _ _ _ _ _ _ (World.drew _)
 refine wh 0 (rPtr c) HRt.out.drew ?_
 refine wh 1 (rPtr c) HRt.out.drew ?_
 refine wh 2 (.pointer (some ⟨c.R, 5, none⟩)) HRt.out.drew ?_
 refine wg 3 (.map (some c.mV)) rfl (Or.inl ⟨by kernel_rfl, fun W hW => by have hh := Rdr.c5 hW; go_simp⟩) HRt.out.drew ?_
 refine wh 4 (rPtr c) HRt.out.drew ?_
 refine wq1 5 fun K hK => ?_
 go_simp
 refine cm (zx4 c _ i d HRt.out.drew) ?_
 rintro e wq ⟨rfl, hbq⟩
 have HRq := qh (HRt.out.drew.later hbq)
 have HBq := qh (HBt.out.trans ((qb.drew.trans hbq).mono HBt.out.size))
 clear hbq
 refine hK.out _ _ HRq.out (fun _ => ?_)
 clear hK K
 refine wg 6 (.tuple #[.nilFunc, .bool false]) rfl (Or.inl ⟨by kernel_rfl, fun W hW => by have hh := HL.out W hW; go_simp⟩) HRq.out ?_
 refine wh 7 (.tuple #[.nilFunc, .bool false]) HRq.out ?_
 refine wh 8 .nilFunc HRq.out ?_
 refine wh 9 (.bool false) HRq.out ?_
 refine wh 10 .nilFunc HRq.out ?_
 refine wh 11 (.bool false) HRq.out ?_
 refine wpAnyH_done (by kernel_rfl) ?_ _
 go_simp
 have HLO := qh HRq.out.base.size
 go_wp2_with fail
 refine wp_region_held (S := fun W => Rdr c W i d) (by kernel_rfl) ?_
 change wpAnyH _ _ _ _ _ _ _ _ (World.drew _)
 refine wh 0 (rPtr c) HRq.out.drew ?_
 refine wh 1 (rPtr c) HRq.out.drew ?_
 refine wh 2 (.pointer (some ⟨c.R, 3, none⟩)) HRq.out.drew ?_
 refine wg 3 (.map (some c.mS)) rfl (Or.inl ⟨by kernel_rfl, fun W hW => by have hh := Rdr.c3 hW; go_simp⟩) HRq.out.drew ?_
 refine wh 4 (rPtr c) HRq.out.drew ?_
 refine wpAnyH_ready (rs := [5, 10]) (by kernel_rfl) (by simp) (AllReadyH.cons rfl (fun K hK => ?_) (AllReadyH.cons rfl (fun K hK => ?_) AllReadyH.nil))
 ·
  go_simp; refine cm (zx4 c _ i d HRq.out.drew) ?_; rintro e w1 ⟨rfl, hb⟩; have HR1 := qh (HRq.out.drew.later hb); have HB1 := qh (HBq.out.trans ((qb.drew.trans hb).mono HBq.out.size)); clear hb
  refine hK.out _ _ HR1.out (fun _ => ?_); clear hK K
  refine wg 6 (.tuple #[.agg #[.string ⟨#[]⟩, .int .i64 0, .int .i64 0, .int .i64 0], .bool false]) rfl (Or.inl ⟨by kernel_rfl, fun W hW => by have hh := HL2.out W hW; go_simp⟩) HR1.out ?_
  refine wh 7 (.tuple #[.agg #[.string ⟨#[]⟩, .int .i64 0, .int .i64 0, .int .i64 0], .bool false]) HR1.out ?_; refine wh 8 (.agg #[.string ⟨#[]⟩, .int .i64 0, .int .i64 0, .int .i64 0]) HR1.out ?_
  refine wh 9 (.bool false) HR1.out ?_; refine wq1 10 fun K hK => ?_; go_simp; refine hK.out _ _ (HR1.out.alloc O160) (fun _ => ?_); clear hK K; refine wq1 11 fun K hK => ?_; go_simp
  have HR2 := qh (HR1.out.alloc (.cells #[.string ⟨#[]⟩, .int .i64 0, .int .i64 0, .int .i64 0] 175)); have HW2 := qh (HB1.out.alloc HB1.out.size (.cells #[.string ⟨#[]⟩, .int .i64 0, .int .i64 0, .int .i64 0] 175))
  refine hK.out _ _ HR2.out (fun _ => ?_); clear hK K; refine wh 12 (.bool false) HR2.out ?_; refine wpAnyH_done (by kernel_rfl) ?_ _; go_simp; go_wp2_with fail; go_ret; exact ⟨rfl, HW2.out⟩
 ·
  go_simp; have HR' := qh ((HRq.out.alloc O160).drew); refine hK.out _ _ (zzz HR') (fun _ => ?_); clear hK K; refine wq1 5 fun K hK => ?_; go_simp; refine cm (zx4 c _ i d (zzz HR')) ?_; rintro e w1 ⟨rfl, hb⟩
  have HR1 := qh ((zzz HR').later hb); have HB1 := qh (HBq.out.trans ((((Below.refl wq.heap.size wq).alloc qv O160).drew.trans (hb.mono (by simp))).mono HBq.out.size))
  have p1 : w1.heap[wq.heap.size]? = some O160 := (hb.block _ (by simp)).trans (zqx wq O160); obtain ⟨r0, r1, r2, r3, rf, rlt⟩ := c160 p1; have P1 := qh p1; clear hb p1; refine hK.out _ _ HR1.out (fun _ => ?_)
  clear hK K; refine wg 6 (.tuple #[.agg #[.string ⟨#[]⟩, .int .i64 0, .int .i64 0, .int .i64 0], .bool false]) rfl (Or.inl ⟨by kernel_rfl, fun W hW => by have hh := HL2.out W hW; go_simp⟩) HR1.out ?_
  refine wh 7 (.tuple #[.agg #[.string ⟨#[]⟩, .int .i64 0, .int .i64 0, .int .i64 0], .bool false]) HR1.out ?_; refine wh 8 (.agg #[.string ⟨#[]⟩, .int .i64 0, .int .i64 0, .int .i64 0]) HR1.out ?_
  refine wh 9 (.bool false) HR1.out ?_; refine wq1 11 fun K hK => ?_; go_simp; clear r0 r1 r2 r3 rf rlt
  obtain ⟨W2, hW2⟩ : ∃ W2, W2 = (((w1.setCell ⟨wq.heap.size, 0, none⟩ (.string ⟨#[]⟩)).setCell ⟨wq.heap.size, 1, none⟩ (.int .i64 0)).setCell ⟨wq.heap.size, 2, none⟩ (.int .i64 0)).setCell ⟨wq.heap.size, 3, none⟩ (.int .i64 0) := ⟨_, rfl⟩
  obtain ⟨hr2, hb2, ⟨s0, s1, s2, s3, sf, slt⟩⟩ := w3_any (v0 := .string ⟨#[]⟩) (v1 := .int .i64 0) (v2 := .int .i64 0) (v3 := .int .i64 0) HR1.out HLO.out P1.out hW2; have HR2 := qh hr2
  have HW2 := qh (HB1.out.trans (hb2.mono HBq.out.size)); rw [← hW2]; clear hW2 hr2 hb2; refine hK.out _ _ HR2.out (fun _ => ?_); clear hK K; refine wh 12 (.bool false) HR2.out ?_; refine wpAnyH_done (by kernel_rfl) ?_ _
  go_simp; go_wp2_with fail; go_ret; exact ⟨rfl, HW2.out⟩
theorem av_some {c : Ctx} (w : World) (d i : Nat) (h1 : (tkA c.l i).kd ≠ 1) (h3 : (tkA c.l i).kd ≠ 3) (h4 : (tkA c.l i).kd ≠ 4) (x : Sg) (hq : zx1 vlKeys (fx c.l i) = none) (hsg : sgOf (fx c.l i) = some x) (h : Rdr c w i d) : Calls Tryz.prog 279 #[rPtr c] w fun e w' => e = .returned (.bool (decide (x.parts < 2))) ∧ Below w.heap.size w w' := by
 have HR0 := qh h
 have HB0 := qh (Below.refl w.heap.size w)
 have b1 : ((tkA c.l i).kd == 1) = false := beq_eq_false_iff_ne.2 h1
 have b3 : ((tkA c.l i).kd == 3) = false := beq_eq_false_iff_ne.2 h3
 have b4 : ((tkA c.l i).kd == 4) = false := beq_eq_false_iff_ne.2 h4
 have HL : Hid (∀ W : World, Rdr c W i d → (Instr.lookup 168 (.map (some c.mV)) (.string (fx c.l i)) true).run Tryz.prog W = .ok (.tuple #[.nilFunc, .bool false]) W) := fun W hW => by
  have := zy3 c (fx c.l i) W hW.base.vals; rw [hq] at this; exact this
 have HL2 : Hid (∀ W : World, Rdr c W i d → (Instr.lookup 166 (.map (some c.mS)) (.string (fx c.l i)) true).run Tryz.prog W = .ok (.tuple #[.agg #[.string x.tx, .int .i64 x.kd, .int .i64 x.parts, .int .i64 x.str], .bool true]) W) := fun W hW => by
  have := zd6 c (fx c.l i) W hW.base.signs; rw [hsg] at this; exact this
 clear h h1 h3 h4 hq hsg
 go_enter Tryz.func279, Tryz.ntmps279
 have HC := qh (zjk c w i d HR0.out)
 unfold tkV at HC
 have hfl := zg4 (tkA c.l i)
 go_wp2_with fail
 refine cm HC.out ?_
 rintro e wt ⟨rfl, hbt⟩
 clear HC
 have HRt := qh (HR0.out.later hbt)
 have HBt := qh hbt
 clear hbt
 go_wp2_with fail
 refine wp_region_held (S := fun W => Rdr c W i d) (by kernel_rfl) ?_
 change wpAnyH _ _ _ _ _ _ _ _ (World.drew _)
 refine wh 0 (rPtr c) HRt.out.drew ?_
 refine wh 1 (rPtr c) HRt.out.drew ?_
 refine wh 2 (.pointer (some ⟨c.R, 5, none⟩)) HRt.out.drew ?_
 refine wg 3 (.map (some c.mV)) rfl (Or.inl ⟨by kernel_rfl, fun W hW => by have hh := Rdr.c5 hW; go_simp⟩) HRt.out.drew ?_
 refine wh 4 (rPtr c) HRt.out.drew ?_
 refine wq1 5 fun K hK => ?_
 go_simp
 refine cm (zx4 c _ i d HRt.out.drew) ?_
 rintro e wq ⟨rfl, hbq⟩
 have HRq := qh (HRt.out.drew.later hbq)
 have HBq := qh (HBt.out.trans ((qb.drew.trans hbq).mono HBt.out.size))
 clear hbq
 refine hK.out _ _ HRq.out (fun _ => ?_)
 clear hK K
 refine wg 6 (.tuple #[.nilFunc, .bool false]) rfl (Or.inl ⟨by kernel_rfl, fun W hW => by have hh := HL.out W hW; go_simp⟩) HRq.out ?_
 refine wh 7 (.tuple #[.nilFunc, .bool false]) HRq.out ?_
 refine wh 8 .nilFunc HRq.out ?_
 refine wh 9 (.bool false) HRq.out ?_
 refine wh 10 .nilFunc HRq.out ?_
 refine wh 11 (.bool false) HRq.out ?_
 refine wpAnyH_done (by kernel_rfl) ?_ _
 go_simp
 have HLO := qh HRq.out.base.size
 go_wp2_with fail
 refine wp_region_held (S := fun W => Rdr c W i d) (by kernel_rfl) ?_
 change wpAnyH _ _ _ _ _ _ _ _ (World.drew _)
 refine wh 0 (rPtr c) HRq.out.drew ?_
 refine wh 1 (rPtr c) HRq.out.drew ?_
 refine wh 2 (.pointer (some ⟨c.R, 3, none⟩)) HRq.out.drew ?_
 refine wg 3 (.map (some c.mS)) rfl (Or.inl ⟨by kernel_rfl, fun W hW => by have hh := Rdr.c3 hW; go_simp⟩) HRq.out.drew ?_
 refine wh 4 (rPtr c) HRq.out.drew ?_
 refine wpAnyH_ready (rs := [5, 10]) (by kernel_rfl) (by simp) (AllReadyH.cons rfl (fun K hK => ?_) (AllReadyH.cons rfl (fun K hK => ?_) AllReadyH.nil))
 ·
  go_simp; refine cm (zx4 c _ i d HRq.out.drew) ?_; rintro e w1 ⟨rfl, hb⟩; have HR1 := qh (HRq.out.drew.later hb); have HB1 := qh (HBq.out.trans ((qb.drew.trans hb).mono HBq.out.size)); clear hb
  refine hK.out _ _ HR1.out (fun _ => ?_); clear hK K
  refine wg 6 (.tuple #[.agg #[.string x.tx, .int .i64 x.kd, .int .i64 x.parts, .int .i64 x.str], .bool true]) rfl (Or.inl ⟨by kernel_rfl, fun W hW => by have hh := HL2.out W hW; go_simp⟩) HR1.out ?_
  refine wh 7 (.tuple #[.agg #[.string x.tx, .int .i64 x.kd, .int .i64 x.parts, .int .i64 x.str], .bool true]) HR1.out ?_; refine wh 8 (.agg #[.string x.tx, .int .i64 x.kd, .int .i64 x.parts, .int .i64 x.str]) HR1.out ?_
  refine wh 9 (.bool true) HR1.out ?_; refine wq1 10 fun K hK => ?_; go_simp; refine hK.out _ _ (HR1.out.alloc O160) (fun _ => ?_); clear hK K; refine wq1 11 fun K hK => ?_; go_simp
  have HR2 := qh (HR1.out.alloc (.cells #[.string x.tx, .int .i64 x.kd, .int .i64 x.parts, .int .i64 x.str] 175))
  have HW2 := qh (HB1.out.alloc HB1.out.size (.cells #[.string x.tx, .int .i64 x.kd, .int .i64 x.parts, .int .i64 x.str] 175)); refine hK.out _ _ HR2.out (fun _ => ?_); clear hK K; refine wh 12 (.bool true) HR2.out ?_
  refine wpAnyH_done (by kernel_rfl) ?_ _; go_simp; go_wp2_with fail; go_ret; exact ⟨zwx (by simp), HW2.out⟩
 ·
  go_simp; have HR' := qh ((HRq.out.alloc O160).drew); refine hK.out _ _ (zzz HR') (fun _ => ?_); clear hK K; refine wq1 5 fun K hK => ?_; go_simp; refine cm (zx4 c _ i d (zzz HR')) ?_; rintro e w1 ⟨rfl, hb⟩
  have HR1 := qh ((zzz HR').later hb); have HB1 := qh (HBq.out.trans ((((Below.refl wq.heap.size wq).alloc qv O160).drew.trans (hb.mono (by simp))).mono HBq.out.size))
  have p1 : w1.heap[wq.heap.size]? = some O160 := (hb.block _ (by simp)).trans (zqx wq O160); obtain ⟨r0, r1, r2, r3, rf, rlt⟩ := c160 p1; have P1 := qh p1; clear hb p1; refine hK.out _ _ HR1.out (fun _ => ?_)
  clear hK K; refine wg 6 (.tuple #[.agg #[.string x.tx, .int .i64 x.kd, .int .i64 x.parts, .int .i64 x.str], .bool true]) rfl (Or.inl ⟨by kernel_rfl, fun W hW => by have hh := HL2.out W hW; go_simp⟩) HR1.out ?_
  refine wh 7 (.tuple #[.agg #[.string x.tx, .int .i64 x.kd, .int .i64 x.parts, .int .i64 x.str], .bool true]) HR1.out ?_; refine wh 8 (.agg #[.string x.tx, .int .i64 x.kd, .int .i64 x.parts, .int .i64 x.str]) HR1.out ?_
  refine wh 9 (.bool true) HR1.out ?_; refine wq1 11 fun K hK => ?_; go_simp; clear r0 r1 r2 r3 rf rlt
  obtain ⟨W2, hW2⟩ : ∃ W2, W2 = (((w1.setCell ⟨wq.heap.size, 0, none⟩ (.string x.tx)).setCell ⟨wq.heap.size, 1, none⟩ (.int .i64 x.kd)).setCell ⟨wq.heap.size, 2, none⟩ (.int .i64 x.parts)).setCell ⟨wq.heap.size, 3, none⟩ (.int .i64 x.str) := ⟨_, rfl⟩
  obtain ⟨hr2, hb2, ⟨s0, s1, s2, s3, sf, slt⟩⟩ := w3_any (v0 := .string x.tx) (v1 := .int .i64 x.kd) (v2 := .int .i64 x.parts) (v3 := .int .i64 x.str) HR1.out HLO.out P1.out hW2; have HR2 := qh hr2
  have HW2 := qh (HB1.out.trans (hb2.mono HBq.out.size)); rw [← hW2]; clear hW2 hr2 hb2; refine hK.out _ _ HR2.out (fun _ => ?_); clear hK K; refine wh 12 (.bool true) HR2.out ?_; refine wpAnyH_done (by kernel_rfl) ?_ _
  go_simp; go_wp2_with fail; go_ret; exact ⟨zwx (by simp), HW2.out⟩
theorem atValue_any (c : Ctx) : Asks c 279 (isVal c.l) := by
 intro w d i h
 unfold isVal
 by_cases h1 : (tkA c.l i).kd = 1
 ·
  rw [h1]; exact av_name w d i h1 h
 ·
  by_cases h3 : (tkA c.l i).kd = 3
  ·
   rw [h3]; exact av_num w d i h3 h
  ·
   by_cases h4 : (tkA c.l i).kd = 4
   ·
    rw [h4]; exact av_str w d i h4 h
   ·
    rw [beq_eq_false_iff_ne.2 h1, beq_eq_false_iff_ne.2 h3, beq_eq_false_iff_ne.2 h4]; simp only [Bool.false_or]
    cases hq : zx1 vlKeys (fx c.l i) with
    | some q => exact av_map w d i h1 h3 h4 q hq h
    | none =>
     cases hsg : sgOf (fx c.l i) with
     | none => exact av_none w d i h1 h3 h4 hq hsg h
     | some x =>
      have hx := av_some w d i h1 h3 h4 x hq hsg h
      cases hp : decide (x.parts < 2) with
      | true => rw [hp] at hx; simpa [Option.filter, hp] using hx
      | false => rw [hp] at hx; simpa [Option.filter, hp] using hx
end Go.Proofs.YtodmgaikhbmlnaaGreatDoor
