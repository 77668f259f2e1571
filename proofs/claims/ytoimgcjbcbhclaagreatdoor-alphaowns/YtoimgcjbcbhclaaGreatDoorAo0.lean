/-
  Ends of proofs that stand more than once.
-/
import Derived.WalkKit
import Derived.Deep.LoopGhost
import Derived.Deep.RegionWith
set_option maxRecDepth 100000
set_option maxHeartbeats 16000000
namespace Go.Proofs.YtoimgcjbcbhclaaGreatDoor
open Go.RowKit
theorem zdaa {G : Prop} (h : G := by
  have _h3 := hge; have _h4 := hes; clear _h3 _h4; have _h1 := hL; have _h2 := hal; clear _h1 _h2; obtain ⟨i0, hi, hz0, hz1, hz2⟩ := info_parts infoRT; have hps := pastN_stop gapB s j hlt hng; rw [hps] at he
  have HE := hide he; have hng2 := hng; simp only [gapB, Bool.or_eq_false_iff] at hng2; obtain ⟨g1, g2⟩ := hng2; have HI := hide hinv; obtain ⟨rc0, rc1, rf0, rf1⟩ := hinv.cells; have HLR := hide (hinv.lists hL)
  clear he hinv hng hps hL; have HST := hide ((toksR_go ws signsS s j acc (3) (n) (⟨#[]⟩) e hlt hrd (by omega)).symm.trans HE.out); have HEE := hide hee; have HLET := hide hlet; have HDIG := hide hdig; have HNN := hide hn
  clear hn; clear hee hlet hdig HE hrd; have hex2 : s.size ≤ e := by omega
  clear hex
  conv => arg 2; whnf
  unfold fr Q6; go_wp2_with fail; refine (isLetter_any _ _).mono ?_; rw [HLET.out]; rintro e1 w1 ⟨rfl, rfl⟩; go_wp2_with fail; refine (isDigit_any _ _).mono ?_; rw [HDIG.out]; rintro e1 w1 ⟨rfl, rfl⟩; go_wp2_with fail
  go_loop [5] (fun v => ∃ q : Nat, j ≤ q ∧ q ≤ e ∧ v = .int .i64 q ∧ pastN digB s q = e) (fun v => s.size - (intOf v).toNat)
  case atStart => exact ⟨j, Nat.le_refl _, by omega, rfl, HEE.out⟩
  case round =>
   obtain ⟨q, hq1, hq2, rfl, hqe⟩ := hrel
   by_cases hqs : q < s.size
   ·
    cases hd : digB (s[q].toNat : Int)
    ·
     have hst := pastN_stop digB s q hqs hd; exfalso; omega
    ·
     exact zcaa
   ·
    have hqq : e = q := by have := pastN_end digB s q (by omega); omega
    subst hqq; clear hqe; exact zbae
 ) : G := h
theorem zdab {G : Prop} (h : G := by
  have _h3 := hge; have _h4 := hes; clear _h3 _h4; have _h1 := hL; have _h2 := hal; clear _h1 _h2; obtain ⟨i0, hi, hz0, hz1, hz2⟩ := info_parts infoRT; have hps := pastN_stop gapB s j hlt hng; rw [hps] at he
  have HE := hide he; have hng2 := hng; simp only [gapB, Bool.or_eq_false_iff] at hng2; obtain ⟨g1, g2⟩ := hng2; have HI := hide hinv; obtain ⟨rc0, rc1, rf0, rf1⟩ := hinv.cells; have HLR := hide (hinv.lists hL)
  clear he hinv hng hps hL; have hq : r = .bad 3 j := by rw [← HE.out, toksR_bad ws signsS s j acc 3 j hlt hrd]
  subst hq; have HEE := hide hee; have HLET := hide hlet; have HDIG := hide hdig; clear hee hlet hdig HE hrd; have hex2 : s.size ≤ e := by omega
  clear hex
  conv => arg 2; whnf
  unfold fr Q6; go_wp2_with fail; refine (isLetter_any _ _).mono ?_; rw [HLET.out]; rintro e1 w1 ⟨rfl, rfl⟩; go_wp2_with fail; refine (isDigit_any _ _).mono ?_; rw [HDIG.out]; rintro e1 w1 ⟨rfl, rfl⟩; go_wp2_with fail
  go_loop [5] (fun v => ∃ q : Nat, j ≤ q ∧ q ≤ e ∧ v = .int .i64 q ∧ pastN digB s q = e) (fun v => s.size - (intOf v).toNat)
  case atStart => exact ⟨j, Nat.le_refl _, by omega, rfl, HEE.out⟩
  case round =>
   obtain ⟨q, hq1, hq2, rfl, hqe⟩ := hrel
   by_cases hqs : q < s.size
   ·
    cases hd : digB (s[q].toNat : Int)
    ·
     have hst := pastN_stop digB s q hqs hd; exfalso; omega
    ·
     exact zcaa
   ·
    have hqq : e = q := by have := pastN_end digB s q (by omega); omega
    subst hqq; clear hqe; exact zbcm
 ) : G := h
theorem zdac {G : Prop} (h : G := by
  have _h3 := hge; have _h4 := hes; clear _h3 _h4; have _h1 := hL; have _h2 := hal; clear _h1 _h2; obtain ⟨i0, hi, hz0, hz1, hz2⟩ := info_parts infoRT; have hps := pastN_stop gapB s j hlt hng; rw [hps] at he
  have HE := hide he; have hng2 := hng; simp only [gapB, Bool.or_eq_false_iff] at hng2; obtain ⟨g1, g2⟩ := hng2; have HI := hide hinv; obtain ⟨rc0, rc1, rf0, rf1⟩ := hinv.cells; have HLR := hide (hinv.lists hL)
  clear he hinv hng hps hL; have HST := hide ((toksR_go ws signsS s j acc (3) (n) (⟨#[]⟩) e hlt hrd (by omega)).symm.trans HE.out); have HEE := hide hee; have HLET := hide hlet; have HDIG := hide hdig; have HNN := hide hn
  clear hn; clear hee hlet hdig HE hrd
  conv => arg 2; whnf
  unfold fr Q6; go_wp2_with fail; refine (isLetter_any _ _).mono ?_; rw [HLET.out]; rintro e1 w1 ⟨rfl, rfl⟩; go_wp2_with fail; refine (isDigit_any _ _).mono ?_; rw [HDIG.out]; rintro e1 w1 ⟨rfl, rfl⟩; go_wp2_with fail
  go_loop [5] (fun v => ∃ q : Nat, j ≤ q ∧ q ≤ e ∧ v = .int .i64 q ∧ pastN digB s q = e) (fun v => s.size - (intOf v).toNat)
  case atStart => exact ⟨j, Nat.le_refl _, by omega, rfl, HEE.out⟩
  case round =>
   obtain ⟨q, hq1, hq2, rfl, hqe⟩ := hrel
   by_cases hqs : q < s.size
   ·
    cases hd : digB (s[q].toNat : Int)
    ·
     exact zcbk
    ·
     exact zcaa
   ·
    exfalso; omega
 ) : G := h
theorem zdad {G : Prop} (h : G := by
  have _h3 := hge; have _h4 := hes; clear _h3 _h4; have _h1 := hL; have _h2 := hal; clear _h1 _h2; obtain ⟨i0, hi, hz0, hz1, hz2⟩ := info_parts infoRT; have hps := pastN_stop gapB s j hlt hng; rw [hps] at he
  have HE := hide he; have hng2 := hng; simp only [gapB, Bool.or_eq_false_iff] at hng2; obtain ⟨g1, g2⟩ := hng2; have HI := hide hinv; obtain ⟨rc0, rc1, rf0, rf1⟩ := hinv.cells; have HLR := hide (hinv.lists hL)
  clear he hinv hng hps hL; have hq : r = .bad 3 j := by rw [← HE.out, toksR_bad ws signsS s j acc 3 j hlt hrd]
  subst hq; have HEE := hide hee; have HLET := hide hlet; have HDIG := hide hdig; clear hee hlet hdig HE hrd
  conv => arg 2; whnf
  unfold fr Q6; go_wp2_with fail; refine (isLetter_any _ _).mono ?_; rw [HLET.out]; rintro e1 w1 ⟨rfl, rfl⟩; go_wp2_with fail; refine (isDigit_any _ _).mono ?_; rw [HDIG.out]; rintro e1 w1 ⟨rfl, rfl⟩; go_wp2_with fail
  go_loop [5] (fun v => ∃ q : Nat, j ≤ q ∧ q ≤ e ∧ v = .int .i64 q ∧ pastN digB s q = e) (fun v => s.size - (intOf v).toNat)
  case atStart => exact ⟨j, Nat.le_refl _, by omega, rfl, HEE.out⟩
  case round =>
   obtain ⟨q, hq1, hq2, rfl, hqe⟩ := hrel
   by_cases hqs : q < s.size
   ·
    cases hd : digB (s[q].toNat : Int)
    ·
     exact zcbj
    ·
     exact zcaa
   ·
    exfalso; omega
 ) : G := h
theorem zdae {G : Prop} (h : G := by
  go_simp; refine hK _ _ ?_; clear hK K; refine wr1 8 fun K hK => ?_; go_simp; refine cm (node_any 14 noText (.slice (some ⟨wc.heap.size, 0, none⟩) 1 1) (wc.alloc (.cells #[nPtr pc] 22)) ⟨_, _, _, rfl⟩) ?_
  rintro e wd0 ⟨rfl, rfl⟩; refine hK _ _ ?_; clear hK K; refine wr1 9 fun K hK => ?_; exact zbaj
 ) : G := h
theorem zdaf {G : Prop} (h : G := by
  go_simp; refine hK _ _ ?_; clear hK K; refine wr1 9 fun K hK => ?_; go_simp; refine cm (node_any 13 s (.slice (some ⟨wc.heap.size, 0, none⟩) 1 1) (wc.alloc (.cells #[nPtr pc] 22)) ⟨_, _, _, rfl⟩) ?_
  rintro e wd0 ⟨rfl, rfl⟩; refine hK _ _ ?_; clear hK K; refine wr1 10 fun K hK => ?_; exact zcak
 ) : G := h
theorem zdag {G : Prop} (h : G := by
  cases hl : letB (s[q].toNat : Int)
  ·
   cases hd : digB (s[q].toNat : Int)
   ·
    exact zbex
   ·
    exact zcab
  ·
   exact zcad
 ) : G := h
theorem zdah {G : Prop} (h : G := by
  exact ⟨World.cell?_of_block (w := wc) hbb, World.frozen?_of_block (w := wc) hbb⟩
 ) : G := h
theorem zdai {G : Prop} (h : G := by
  go_simp; refine hK _ _ ?_; clear hK K; refine wr1 12 fun K hK => ?_; exact zcah
 ) : G := h
theorem zdaj {G : Prop} (h : G := by
  go_simp; refine hK _ _ ?_; clear hK K; refine wr1 11 fun K hK => ?_; exact zcaj
 ) : G := h
theorem zcaa {G : Prop} (h : G := by
  have HST1 := hide ((pastN_go digB s q hqs hd).trans hqe); have hle := pastN_ge digB s (q + 1); rw [HST1.out] at hle; have HD1 := hide hd; clear hd hqe; go_wp2_with fail; refine (isDigit_any _ _).mono ?_; rw [HD1.out]
  exact zbam
 ) : G := h
theorem zcab {G : Prop} (h : G := by
  have HST1 := hide ((pastN_go lodB s q hqs (by unfold lodB; rw [hl, hd]; rfl)).trans hqe)
  have hle := pastN_ge lodB s (q + 1); rw [HST1.out] at hle; have HL1 := hide hl; have HD1 := hide hd; clear hl hd hqe; go_wp2_with fail; refine (isLetter_any _ _).mono ?_; rw [HL1.out]; rintro e2 w2 ⟨rfl, rfl⟩
  go_wp2_with fail; refine (isDigit_any _ _).mono ?_; rw [HD1.out]; exact zbam
 ) : G := h
theorem zcac {G : Prop} (h : G := by
  obtain ⟨gc3, gcf, gcl⟩ := (Open.later HOP.out ha0 HLT.out).cell; have gcl1 : p0 < wc.heap.size + 1 := by omega
  have gcl2 : p0 < wc.heap.size + 1 + 1 := by omega
  clear hrd ha ha0 hnc hmc; refine hK _ _ ?_; clear hK K; refine wr2 4 7 (fun K hK => ?_) fun K hK => ?_
  ·
   go_simp; refine hK _ _ ?_; clear hK K; refine wr1 7 fun K hK => ?_; exact zdae
  ·
   go_simp; refine hK _ _ ?_; clear hK K; refine wr2 4 8 (fun K hK => ?_) fun K hK => ?_
   ·
    exact zdae
   ·
    go_simp; refine cm (node_any 14 noText (.slice (some ⟨wc.heap.size, 0, none⟩) 1 1) (wc.alloc (.cells #[nPtr pc] 22)) ⟨_, _, _, rfl⟩) ?_; rintro e wd0 ⟨rfl, rfl⟩; exact zbai
 ) : G := h
theorem zcad {G : Prop} (h : G := by
  have HST1 := hide ((pastN_go lodB s q hqs (by unfold lodB; rw [hl]; rfl)).trans hqe)
  have hle := pastN_ge lodB s (q + 1); rw [HST1.out] at hle; have HL1 := hide hl; clear hl hqe; go_wp2_with fail; refine (isLetter_any _ _).mono ?_; rw [HL1.out]; exact zbam
 ) : G := h
theorem zcae {G : Prop} (h : G := by
  refine wp_region_any (by kernel_rfl) ?_; change wpAny _ _ _ _ _ _ _ (World.drew _); refine wt 0 (nPtr p0) ?_; refine wt 1 (nPtr p0) ?_; refine wt 2 (nPtr p0) ?_; refine wt 3 (.pointer (some ⟨p0, 3, none⟩)) ?_
  refine wt 5 (rPtr c) ?_; refine wt 6 (rPtr c) ?_; refine wt 7 (.func (.func 243) #[rPtr c] #[]) ?_; refine wr2 4 8 (fun K hK => ?_) fun K hK => ?_
  ·
   go_simp; refine hK _ _ ?_; clear hK K; refine wr1 8 fun K hK => ?_; go_simp; refine cm HC.out ?_; intro e wc hp; obtain ⟨⟨vc, rfl, pc, rfl, hnc⟩, hrd, ha⟩ := hp; have ha0 := ((Ap.refl c.R wy.heap.size wy).drew).next ha
   have HY : Hid (Ap c.R wy.heap.size wy wc ∧ Rdr c wc jx d ∧ NAt (From wy.heap.size) wc tx1 pc) := ⟨ha0, hrd, hnc⟩; obtain ⟨gc3, gcf, gcl⟩ := (Open.later HOP.out ha0 HLT.out).cell; clear hrd ha ha0 hnc; exact zbax
  ·
   go_simp; refine cm HC.out ?_; intro e wc hp; obtain ⟨⟨vc, rfl, pc, rfl, hnc⟩, hrd, ha⟩ := hp; have ha0 := ((Ap.refl c.R wy.heap.size wy).drew).next ha
   have HY : Hid (Ap c.R wy.heap.size wy wc ∧ Rdr c wc jx d ∧ NAt (From wy.heap.size) wc tx1 pc) := ⟨ha0, hrd, hnc⟩; obtain ⟨gc3, gcf, gcl⟩ := (Open.later HOP.out ha0 HLT.out).cell; clear hrd ha ha0 hnc; exact zbai
 ) : G := h
theorem zcaf {G : Prop} (h : G := by
  clear hr2 HQ hnj
  generalize tkA c.l j = tk at *
  go_wp2_with fail; refine cm HC1.out ?_; rintro e w2 ⟨rfl, rfl⟩; clear HC1; go_wp2_with fail
  go_region
  go_wp2_with fail
  go_region
  go_wp2_with fail; refine cm HC3.out ?_; rintro e w3 ⟨⟨v, rfl, p3, rfl, hn3⟩, hp3, ha3⟩; have HP4 := hide hp3; have HA4 := hide (HA3.out.next ha3); have HN4 := hide (nats_two HN3.out ha3 HLT.out HA3.out.size hn3)
  clear hn3 hp3 ha3 HC3 HP3 HA3 HN3 HK3 e0 e1 e2 e3 e4 e5 e6 e7 e8 h0 h1 f1 k0 k1 k2 k3 kg; go_wp2_with fail
  go_roundg k
  case measure => omega
  case rel => exact Or.inl ⟨_, j2, HQQ.out, (nv_row HN4.out HA4.out.size (by simp [maxLen]) #[nPtr q, nPtr p3] rfl 2 rfl _ noText 0 _ rfl).nv, (HP4.out.alloc _).alloc _, (HA4.out.alloc HA4.out.size _).alloc (by have := HA4.out.size; simp; omega) _⟩
 ) : G := h
theorem zcag {G : Prop} (h : G := by
  have HC3 := hide (HPC.out _ _ _ hr2.symm (by nofun) HP3.out HK3.out); rw [hr2] at HQ; have HQQ : Hid (r = .bad er pl) := HQ.out.symm; clear hr2 HQ hnj
  generalize tkA c.l j = tk at *
  go_wp2_with fail; refine cm HC1.out ?_; rintro e w2 ⟨rfl, rfl⟩; clear HC1; go_wp2_with fail
  go_region
  go_wp2_with fail
  go_region
  go_wp2_with fail; refine cm HC3.out ?_; rintro e w3 ⟨⟨v, rfl, p3, rfl⟩, ⟨j3, hp3⟩, he, ha3⟩; have HP4 := hide hp3; have HA4 := hide (HA3.out.next ha3)
  clear hp3 ha3 HC3 HP3 HA3 HN3 HK3 e0 e1 e2 e3 e4 e5 e6 e7 e8 h0 h1 f1 k0 k1 k2 k3 kg; go_wp2_with fail
  go_roundg k
  case measure => omega
  case rel => exact Or.inr ⟨er, pl, HQQ.out, he, ⟨j3, (HP4.out.alloc _).alloc _⟩, (HA4.out.alloc HA4.out.size _).alloc (by have := HA4.out.size; simp; omega) _, _, rfl⟩
 ) : G := h
theorem zcah {G : Prop} (h : G := by
  go_simp; refine hK _ _ ?_; clear hK K; exact Go.Proofs.YtoimgcjbcbhclaaGreatDoor.wz 13 4 (CONT wc pc HHY.out)
 ) : G := h
theorem zcai {G : Prop} (h : G := by
  have HC := hide (rhead_any HF.out _ d (i + 1) _ hd hr.symm (by nofun) HK2.out.ps); rw [hr] at HQ; have hq : r = .bad er pl := unhide HQ; subst hq; clear hr HQ; go_wp2_with fail; refine cm HC.out ?_
  rintro e wh ⟨⟨v, rfl, q, rfl⟩, ⟨j, hp1⟩, he, ha⟩; have nb0 := (ha.block _ (lt_of_heap HK2.out.nd) (by have := unhide HLT; omega)).trans HK2.out.nd
  have hA0 := HK2.out.ap.next ha; have HC2 := hide (rstatement2_old c wh j er pl (d : Int) he hp1); have HNB := hide nb0; have HA0 := hide hA0; clear hp1 ha HC nb0 hA0 c0 c1 c2 c3 cf cf0 cf3 hnl x1 xf; go_wp2_with fail
  refine cm HC2.out ?_; rintro e wv ⟨⟨v, rfl, q2, rfl⟩, ⟨j2, hp2⟩, _, ha2⟩; exact zbat
 ) : G := h
theorem zcaj {G : Prop} (h : G := by
  go_simp; refine hK _ _ ?_; clear hK K; exact Go.Proofs.YtoimgcjbcbhclaaGreatDoor.wz 12 4 (CONT wc pc HHY.out)
 ) : G := h
theorem zcak {G : Prop} (h : G := by
  go_simp; refine hK _ _ ?_; clear hK K; exact Go.Proofs.YtoimgcjbcbhclaaGreatDoor.wz 11 4 (CONT wc pc HY.out)
 ) : G := h
theorem zcal {G : Prop} (h : G := by
  have hbb : w3.heap[p0]? = wc.heap[p0]? := (hgr3.block p0 (by simp; omega) (fun e => HOc.out.own e.symm)).trans (Below.heap_alloc wc _ p0 gcl)
  exact zbbf
 ) : G := h
theorem zcam {G : Prop} (h : G := by
  have t3 : (((s[q].toNat : Nat) : Int) != 92) = true := by rw [bne, show (92 : Int) = (((92 : UInt8).toNat : Nat) : Int) from rfl, b3]; simp [c3]
  rw [strR_plain s q said hqs (by rw [hbt]; exact c1) (by rw [hbt]; exact c2) (by rw [hbt]; exact c3), hbt] at hqe
  have HQ := hide hqe; have hos := ofB_size said; have hos2 : (ofBytes said).size ≤ 3000 := by omega
  clear hqe hos b1 b2 b3 c1 c2 c3 hbt; go_wp2_with fail
  go_round
  case rel => exact ⟨q + 1, said ++ [s[q]], by omega, by omega, by simp; omega, by go_num, by rw [cat1 s q said hqs], HQ.out⟩
  case measure => simp [intOf]; omega
 ) : G := h
theorem zcan {G : Prop} (h : G := by
  go_wp2_with fail; refine (HLR.out.word (s.extract j e)).mono ?_; rw [HW.out]; rintro e3 w3 ⟨rfl, rfl⟩
  go_wp2_with (at_builtin; refine wpList_append_own _ rfl _ _ 161 rfl (w.heap.size + 1) 167 i0 noTok 4 40 Tryz.underlying161 hi hz0 hz1 hz2 rfl (by decide) _ _ _ rfl (HI.out.own.alloc _) ⟨w3.heap.size, 0, none⟩ 1 1 [.int .i64 2, .string (s.extract j e), .int .i64 0, .int .i64 (j : Int)] rfl rfl ?c1 ?c2 ?c3 ?c4 ?c5 ?_)
  case c1 =>
   exact zbau
  case c2 =>
   exact zbbi
  case c3 => unfold maxLen; omega
  case c4 => omega
  case c5 => have := HI.out.size; simp; omega
  exact zbdo
 ) : G := h
theorem zcao {G : Prop} (h : G := by
  go_wp2_with fail; refine (HLR.out.word (s.extract j e)).mono ?_; rw [HW.out]; rintro e3 w3 ⟨rfl, rfl⟩
  go_wp2_with (at_builtin; refine wpList_append_own _ rfl _ _ 161 rfl (w.heap.size + 1) 167 i0 noTok 4 40 Tryz.underlying161 hi hz0 hz1 hz2 rfl (by decide) _ _ _ rfl (HI.out.own.alloc _) ⟨w3.heap.size, 0, none⟩ 1 1 [.int .i64 1, .string (s.extract j e), .int .i64 0, .int .i64 (j : Int)] rfl rfl ?c1 ?c2 ?c3 ?c4 ?c5 ?_)
  case c1 =>
   exact zbau
  case c2 =>
   exact zbbi
  case c3 => unfold maxLen; omega
  case c4 => omega
  case c5 => have := HI.out.size; simp; omega
  exact zbdp
 ) : G := h
theorem zcap {G : Prop} (h : G := by
  obtain ⟨gc3, gcf, gcl⟩ := (Open.later HOP.out ha0 HLT.out).cell; have gcl1 : p0 < wc.heap.size + 1 := by omega
  have gcl2 : p0 < wc.heap.size + 1 + 1 := by omega
  clear hrd ha ha0 hnc hmc; refine hK _ _ ?_; clear hK K; refine wr1 7 fun K hK => ?_; go_simp; refine hK _ _ ?_; clear hK K; refine wr1 8 fun K hK => ?_; go_simp
  refine cm (node_any 14 noText (.slice (some ⟨wc.heap.size, 0, none⟩) 1 1) (wc.alloc (.cells #[nPtr pc] 22)) ⟨_, _, _, rfl⟩) ?_; rintro e wd0 ⟨rfl, rfl⟩; exact zbax
 ) : G := h
theorem zcaq {G : Prop} (h : G := by
  have u1 : (((s[q + 1].toNat : Nat) : Int) == 110) = true := by rw [k1]; rfl
  rw [strR_esc s q said 10 hqs (by rw [hbt]; exact c3) hq4 (by rw [hbt2, k1]; rfl)] at hqe
  have HQ := hide hqe; have hos := ofB_size said; have hos2 : (ofBytes said).size ≤ 3000 := by omega
  clear hqe hos b1 b2 b3 c1 c2 c3 hbt hbt2 d1 d2 d3 k1; go_wp2_with fail
  go_round
  case rel => exact ⟨q + 2, said ++ [10], by omega, by omega, by simp; omega, by go_num, by rw [cat2], HQ.out⟩
  case measure => simp [intOf]; omega
 ) : G := h
theorem zcar {G : Prop} (h : G := by
  have HC := hide (must_any c tEq wf j1 d HRwf.out (by decide)); rw [HMU.out] at HC; go_wp2_with fail; refine cm HC.out ?_; intro e wm hp; obtain ⟨⟨vm, rfl, rfl⟩, hrd, ha⟩ := hp; clear HC; have HRm := hide hrd
  have HAm := hide (HAwf.out.next ha); replace HN1 := hide (nat_later HN1.out ha HLT.out); clear hrd ha HRwf HAwf HPT f10
  cases hr : deepP c.l F.vl d (j1 + 1) with
  | out =>
   exact zbak
  | bad er p =>
   exact zbdt
  | ok x2 j2 =>
   exact zbbu
 ) : G := h
theorem zcas {G : Prop} (h : G := by
  have hB3 : Below wc.heap.size wc _ := (((Below.refl wc.heap.size wc).alloc (Nat.le_refl _) (.cells #[nPtr pc] 22)).alloc (by simp) (nodeObj 14 noText 0 (.slice (some ⟨wc.heap.size, 0, none⟩) 1 1))).alloc (by simp <;> omega) (.cells #[nPtr (wc.heap.size + 1)] 22)
  have hbb : w3.heap[w.heap.size]? = wc.heap[w.heap.size]? := (hgr3.block w.heap.size (by simp; omega) (fun e => HHY.out.op.own e.symm)).trans (hB3.block w.heap.size gcl)
  exact zbbf
 ) : G := h
theorem zcat {G : Prop} (h : G := by
  have HE := hide he; clear he; go_enter Tryz.func159, Tryz.ntmps159; go_wp2_with fail; refine (digit_any _).mono ?_; rintro e1 w1 ⟨x, rfl, hx, hbel⟩; obtain ⟨hc, hf⟩ := bcell hbel; have HBEL := hide hbel
  have HX := hide hx; clear hx hbel; go_wp2_with fail; have hpast := past_any s k x digB w1 (by unfold maxLen; omega) (by omega) HX.out
  rw [HE.out] at hpast; refine hpast.mono ?_; clear hpast; rintro e2 w2 ⟨rfl, rfl⟩; exact zbbh
 ) : G := h
theorem zcau {G : Prop} (h : G := by
  go_simp; refine hK _ _ ?_; clear hK K; exact Go.Proofs.YtoimgcjbcbhclaaGreatDoor.wz 10 4 (CONT wc pc HY.out)
 ) : G := h
theorem zcav {G : Prop} (h : G := by
  go_wp2_with fail
  go_round
  case rel => exact ⟨q + 2, said ++ [s[q + 1]], by omega, by omega, by simp; omega, by go_num, by rw [cat1 s (q + 1) said hq4], HQ.out⟩
  case measure => simp [intOf]; omega
 ) : G := h
theorem zcaw {G : Prop} (h : G := by
  obtain ⟨gc3, gcf, gcl⟩ := (Open.later HOP.out ha0 HLT.out).cell; clear hrd ha ha0 hnc; exact zbax
 ) : G := h
theorem zcax {G : Prop} (h : G := by
  obtain ⟨gc3, gcf, gcl⟩ := (Open.later HOP.out ha0 HLT.out).cell; clear hrd ha ha0 hnc; exact zbai
 ) : G := h
theorem zcay {G : Prop} (h : G := by
  refine wr1 8 fun K2 hK2 => ?_; go_simp; refine hK2 _ _ ?_; clear hK2 K2; refine wpAny_done (by kernel_rfl) ?_ _; go_simp
  go_wp2
  refine bodyPost_ret (v := .tuple #[.slice (some ⟨g, 0, none⟩) (acc.length + 1) cap, .agg #[.int .i64 0, .int .i64 (-1)]]) (by simp [results, Tryz.results109, go_sem, p0, p1]) rfl ⟨_, rfl, ?_, HI5.out.out _ _⟩
  exact ref_row HI5.out (by simp) _ _
 ) : G := h
theorem zcaz {G : Prop} (h : G := by
  simp only [Result.andThen_ok, Sem.run_bind, hg, Sem.run_pure, hck, h3]
  cases o with
  | none =>
   cases hf : l.find? (fun e => decide (s = e.1)) with
   | none => simp [hz]
   | some x => rw [hf] at h2; simp at h2
  | some y =>
   cases hf : l.find? (fun e => decide (s = e.1)) with
   | none => rw [hf] at h2; simp at h2
   | some x => rw [hf] at h2; simp at h2; simp [h2]
 ) : G := h
theorem zcba {G : Prop} (h : G := by
  have HHY : Hid (CallBad _ _ _ _ _ _ _ wc pc) := CallBad.mk HAc.out hpc HOc.out he; obtain ⟨gc3, gcf, gcl⟩ := HOc.out.cell; have gcl1 : w.heap.size < wc.heap.size + 1 := by omega
  have gcl2 : w.heap.size < wc.heap.size + 2 := by omega
  have gcl3 : w.heap.size < wc.heap.size + 1 + 1 := by omega
  clear ha hpc; exact zbay
 ) : G := h
theorem zcbb {G : Prop} (h : G := by
  have HHY : Hid (CallBad _ _ _ _ _ _ _ wc pc) := CallBad.mk HAc.out hpc HOc.out he; obtain ⟨gc3, gcf, gcl⟩ := HOc.out.cell; have gcl1 : w.heap.size < wc.heap.size + 1 := by omega
  have gcl2 : w.heap.size < wc.heap.size + 2 := by omega
  have gcl3 : w.heap.size < wc.heap.size + 1 + 1 := by omega
  clear ha hpc; exact zbad
 ) : G := h
theorem zcbc {G : Prop} (h : G := by
  rintro e5 w5 ⟨b, rfl, hb, hlb, hbel5⟩; have hbelA := HBEL3.out.trans (hbel5.mono HBEL3.out.size); have hlb2 := Nat.le_trans HBEL3.out.size hlb; exact zbbl
 ) : G := h
theorem zcbd {G : Prop} (h : G := by
  have HC2 := hide (rstatement2_any HF.out wh d j _ hd hr.symm (by nofun) HP0.out); rw [hr] at HQ2; have hq : r = .bad er pl := unhide HQ2; subst hq; clear hr HQ2; go_wp2_with fail; refine cm HC2.out ?_
  rintro e wv ⟨⟨v, rfl, q2, rfl⟩, ⟨j2, hp2⟩, he, ha2⟩; exact zbat
 ) : G := h
theorem zcbe {G : Prop} (h : G := by
  have hbb : w3.heap[w.heap.size]? = wc.heap[w.heap.size]? := (hgr3.block w.heap.size (by simp; omega) (fun e => HOc.out.own e.symm)).trans (Below.heap_alloc wc _ w.heap.size gcl)
  exact zdah
 ) : G := h
theorem zcbf {G : Prop} (h : G := by
  go_wp2_with fail; go_ret; refine ⟨rfl, ?_, HS2.out⟩; rw [HSS.out]; unfold osF; simp only; rw [HKP.out]; obtain ⟨es, e1, e2⟩ := HO2.out.fmap
  exact HO2.out.next HF.out (Sk.refl _ _ _) ⟨es, e1, e2⟩ HO2.out.bbox (fun e he => Nat.lt_succ_of_lt (HO2.out.lt e he))
 ) : G := h
theorem zcbg {G : Prop} (h : G := by
  obtain ⟨gc3, gcf, gcl⟩ := HOc.out.cell; have gcl1 : w.heap.size < wc.heap.size + 1 := by omega
  have gcl2 : w.heap.size < wc.heap.size + 2 := by omega
  have gcl3 : w.heap.size < wc.heap.size + 1 + 1 := by omega
  clear ha hpc hnc; exact zbay
 ) : G := h
theorem zcbh {G : Prop} (h : G := by
  obtain ⟨gc3, gcf, gcl⟩ := HOc.out.cell; have gcl1 : w.heap.size < wc.heap.size + 1 := by omega
  have gcl2 : w.heap.size < wc.heap.size + 2 := by omega
  have gcl3 : w.heap.size < wc.heap.size + 1 + 1 := by omega
  clear ha hpc hnc; exact zbad
 ) : G := h
theorem zcbi {G : Prop} (h : G := by
  intro j u hj
  match j, hj with
  | 0, hj => simp at hj; subst hj; simp [Addr.add]
  | 1, hj => simp at hj; subst hj; simp [Addr.add]
  | 2, hj => simp at hj; subst hj; simp [Addr.add]
  | 3, hj => simp at hj; subst hj; simp [Addr.add]
 ) : G := h
theorem zcbj {G : Prop} (h : G := by
  have hst := pastN_stop digB s q hqs hd; have hqq : e = q := by omega
  subst hqq; have HD1 := hide hd; clear hd hst hqe; go_wp2_with fail; refine (isDigit_any _ _).mono ?_; rw [HD1.out]; rintro e2 w2 ⟨rfl, rfl⟩; exact zbcm
 ) : G := h
theorem zcbk {G : Prop} (h : G := by
  have hst := pastN_stop digB s q hqs hd; have hqq : e = q := by omega
  subst hqq; have HD1 := hide hd; clear hd hst hqe; go_wp2_with fail; refine (isDigit_any _ _).mono ?_; rw [HD1.out]; rintro e2 w2 ⟨rfl, rfl⟩; exact zbae
 ) : G := h
theorem zcbl {G : Prop} (h : G := by
  rw [extract_at s j e i hes hi]; have hi2 : i < e - j := by rw [extract_size s j e (by omega) hes] at hi; exact hi
  exact past_in digB s (s.size - j) j (by omega) (j + i) (by omega) (by rw [HEE.out]; omega) (by omega)
 ) : G := h
theorem zcbm {G : Prop} (h : G := by
  rw [extract_at s k e i hes hi]; have hi2 : i < e - k := by rw [extract_size s k e (by omega) hes] at hi; exact hi
  exact past_in digB s (s.size - k) k (by omega) (k + i) (by omega) (by rw [HE.out]; omega) (by omega)
 ) : G := h
theorem zcbn {G : Prop} (h : G := by
  clear hp1 ha hn HC; go_wp2_with fail; go_ret; exact ⟨⟨_, rfl, q, rfl, HN.out⟩, HP.out, HA.out⟩
 ) : G := h
theorem zcbo {G : Prop} (h : G := by
  go_simp; refine hK _ _ ?_; clear hK K; exact Go.Proofs.YtoimgcjbcbhclaaGreatDoor.wz 8 4 (CONT wc pc HHY.out)
 ) : G := h
theorem zcbp {G : Prop} (h : G := by
  split at h
  ·
   exact zbdh
  ·
   obtain ⟨u, i1, h1, h⟩ := binds h; have h2 := deep_kw (l := l) (hF.st _ _) u i1 h1; have h4 := ih _ _ _ _ h; rw [ills_app, ills_cons, ills_nil] at h4; exact zbcf
 ) : G := h
theorem zcbq {G : Prop} (h : G := by
  rintro e5 w5 ⟨rfl, hb5⟩; have hbelA := HBEL3.out.trans (hb5.mono HBEL3.out.size); exact zbbn
 ) : G := h
theorem zcbr {G : Prop} (h : G := by
  clear hp1 ha HC; go_wp2_with fail; go_ret; exact ⟨⟨_, rfl, _, rfl⟩, HP.out, he, HA.out⟩
 ) : G := h
theorem zcbs {G : Prop} (h : G := by
  have HM1 := hide (Open.later HOP.out (Ap.of hby) HLT.out).ev; clear hby
  cases hr : mustP c.l tSemi j1 with
  | out =>
   exact zbak
  | bad er p =>
   exact zbdw
  | ok x2 j2 =>
   exact zbct
 ) : G := h
theorem zcbt {G : Prop} (h : G := by
  go_wp2_with fail; go_ret; exact ⟨⟨_, rfl, _, rfl⟩, ⟨j, HP1.out⟩, he, HA1.out⟩
 ) : G := h
theorem zcbu {G : Prop} (h : G := by
  have HR2 := hide hr2; have HW2 := hide hb2; rw [← hW2]; clear hW2 hr2 hb2; refine hK.out _ _ HR2.out (fun _ => ?_); clear hK K; refine wh 12 (.bool false) HR2.out ?_; exact zbbs
 ) : G := h
theorem zcbv {G : Prop} (h : G := by
  have HR2 := hide hr2; have HW2 := hide hb2; rw [← hW2]; clear hW2 hr2 hb2; refine hK.out _ _ HR2.out (fun _ => ?_); clear hK K; refine wh 12 (.bool true) HR2.out ?_; exact zbbs
 ) : G := h
theorem zcbw {G : Prop} (h : G := by
  clear HC hr6 hb6; go_wp2_with fail
  go_roundw
  case rel => exact ⟨k + 1, by omega, by go_num, by rw [HTK.out]; exact HR6.out, HB6.out⟩
  case measure => simp [intOf]; omega
 ) : G := h
theorem zcbx {G : Prop} (h : G := by
  go_wp2_with fail; go_ret; exact ⟨⟨_, rfl, q, rfl, H1.out⟩, H2.out, H3.out⟩
 ) : G := h
theorem zcby {G : Prop} (h : G := by
  go_wp2_with fail; have hds : ∀ i, (hi : i < (s.extract j e).size) → digB ((s.extract j e)[i].toNat : Int) = true := fun i hi => by
   exact zbbg
  exact zbcs
 ) : G := h
theorem zcbz {G : Prop} (h : G := by
  go_wp2_with fail; go_ret; exact ⟨⟨_, rfl, q, rfl⟩, H2.out, he, H3.out⟩
 ) : G := h
theorem zcca {G : Prop} (h : G := by
  rw [hr] at HQ2; simp only [bind_out] at HQ2; exact absurd HQ2.out.symm HO.out
 ) : G := h
theorem zccb {G : Prop} (h : G := by
  clear hr; go_wp2_with fail; refine cm HC.out ?_; intro e w' hp; obtain ⟨rfl, ha⟩ := hp; exact ⟨rfl, ppBad HS.out.symm (HA0.out.next ha)⟩
 ) : G := h
theorem zccc {G : Prop} (h : G := by
  have HC := hide (rmust_old c _ jm _ _ he tShut HP.out); go_wp2_with fail; refine cm HC.out ?_; rintro e wm ⟨rfl, rfl⟩; clear HC; exact zbdi
 ) : G := h
theorem zccd {G : Prop} (h : G := by
  go_simp; refine cm HC.out ?_; intro e w' hp; obtain ⟨rfl, ha⟩ := hp; exact ⟨rfl, ppBad HS.out.symm (HAy.out.drew.next ha)⟩
 ) : G := h
theorem zcce {G : Prop} (h : G := by
  intro j u hj; have hl : j < n * 1 := by
   rw [← h.1]; exact (List.getElem?_eq_some_iff.1 hj).1
  have h3 := h.cellAt j hl; exact zbdu
 ) : G := h
theorem zbaa {G : Prop} (h : G := by
  refine wp_region_any (by kernel_rfl) ?_; change wpAny _ _ _ _ _ _ _ (World.drew _); refine wt 0 (nPtr p0) ?_; refine wt 1 (nPtr p0) ?_; refine wt 2 (nPtr p0) ?_; refine wt 3 (.pointer (some ⟨p0, 3, none⟩)) ?_
  refine wt 5 (.string s) ?_; refine wt 6 (rPtr c) ?_; refine wr2 4 7 (fun K hK => ?_) fun K hK => ?_
  ·
   go_simp; refine hK _ _ ?_; clear hK K; refine wr1 7 fun K hK => ?_; go_simp; refine cm HCC.out ?_; intro e wc hp; obtain ⟨⟨vc, rfl, hnc⟩, hrd, ha⟩ := hp; obtain ⟨pc, rfl, hmc⟩ := hnc.nv
   have ha0 := ((Ap.refl c.R wg1.heap.size wg1).drew).next ha; have HY : Hid (Ap c.R wg1.heap.size wg1 wc ∧ Rdr c wc i5 d ∧ NAt (From wg1.heap.size) wc b2 pc) := ⟨ha0, hrd, hmc⟩
   obtain ⟨gc3, gcf, gcl⟩ := (Open.later HOP.out ha0 HLT.out).cell; have gcl1 : p0 < wc.heap.size + 1 := by omega
   have gcl2 : p0 < wc.heap.size + 1 + 1 := by omega
   clear hrd ha ha0 hnc hmc; refine hK _ _ ?_; clear hK K; refine wr1 8 fun K hK => ?_; go_simp; refine hK _ _ ?_; clear hK K; refine wr1 9 fun K hK => ?_; go_simp
   refine cm (node_any 13 s (.slice (some ⟨wc.heap.size, 0, none⟩) 1 1) (wc.alloc (.cells #[nPtr pc] 22)) ⟨_, _, _, rfl⟩) ?_; rintro e wd0 ⟨rfl, rfl⟩; refine hK _ _ ?_; clear hK K; refine wr1 10 fun K hK => ?_; go_simp
   refine hK _ _ ?_; clear hK K; refine wpAny_same (listed' := tf 11 4) (by kernel_rfl) rfl ?_; exact CONT wc pc HY.out
  ·
   go_simp; refine cm HCC.out ?_; intro e wc hp; obtain ⟨⟨vc, rfl, hnc⟩, hrd, ha⟩ := hp; obtain ⟨pc, rfl, hmc⟩ := hnc.nv; have ha0 := ((Ap.refl c.R wg1.heap.size wg1).drew).next ha
   have HY : Hid (Ap c.R wg1.heap.size wg1 wc ∧ Rdr c wc i5 d ∧ NAt (From wg1.heap.size) wc b2 pc) := ⟨ha0, hrd, hmc⟩; obtain ⟨gc3, gcf, gcl⟩ := (Open.later HOP.out ha0 HLT.out).cell
   have gcl1 : p0 < wc.heap.size + 1 := by omega
   have gcl2 : p0 < wc.heap.size + 1 + 1 := by omega
   clear hrd ha ha0 hnc hmc; refine hK _ _ ?_; clear hK K; refine wr2 4 8 (fun K hK => ?_) fun K hK => ?_
   ·
    go_simp; refine hK _ _ ?_; clear hK K; refine wr1 8 fun K hK => ?_; exact zdaf
   ·
    go_simp; refine hK _ _ ?_; clear hK K; refine wr2 4 9 (fun K hK => ?_) fun K hK => ?_
    ·
     exact zdaf
    ·
     go_simp; refine cm (node_any 13 s (.slice (some ⟨wc.heap.size, 0, none⟩) 1 1) (wc.alloc (.cells #[nPtr pc] 22)) ⟨_, _, _, rfl⟩) ?_; rintro e wd0 ⟨rfl, rfl⟩; refine hK _ _ ?_; clear hK K
     refine wr2 4 10 (fun K hK => ?_) fun K hK => ?_
     ·
      go_simp; refine hK _ _ ?_; clear hK K; refine wr1 10 fun K hK => ?_; exact zcak
     ·
      go_simp; refine hK _ _ ?_; clear hK K; refine wr1 4 fun K hK => ?_; exact zcak
 ) : G := h
theorem zbab {G : Prop} (h : G := by
  have b5 : ((tkA c.l j).kd != 5) = false := by rw [h5]; rfl
  rw [if_pos ⟨h5, hf⟩] at HQ; have hl := HNX.out h5; clear hf h5; have hnj : ((j : Int) + 1) = (((j + 1 : Nat)) : Int) := by omega
  obtain ⟨m1, m2, m3, m4, m5, m6, m7, e0, e1, e2, e3, e4, e5, e6, e7, e8⟩ := ops_made2 ((wr.setCell ⟨c.P, 1, none⟩ (.int .i64 ((j : Int) + 1))).alloc (tokO (tkA c.l j))) (wr.heap.size + 1) (by simp)
  have HP3 : Hid (Ps c ((((wr.setCell ⟨c.P, 1, none⟩ (.int .i64 ((j : Int) + 1))).alloc (tokO (tkA c.l j))).alloc (.map m7 7)).drew.drew) (j + 1) 0 (-1)) := by rw [hnj]; exact (((HPS.out.step hl).alloc _).alloc _).drew.drew
  have HA3 : Hid (Ap c.P w.heap.size w ((((wr.setCell ⟨c.P, 1, none⟩ (.int .i64 ((j : Int) + 1))).alloc (tokO (tkA c.l j))).alloc (.map m7 7)).drew.drew)) := (((HAP.out.setCell (p := ⟨c.P, 1, none⟩) (Or.inr rfl) _).alloc (by have := HAP.out.size; simp; omega) _).alloc (by have := HAP.out.size; simp; omega) _).drew.drew
  have HN3 : Hid (NV w.heap.size ((((wr.setCell ⟨c.P, 1, none⟩ (.int .i64 ((j : Int) + 1))).alloc (tokO (tkA c.l j))).alloc (.map m7 7)).drew.drew) t (nPtr q)) := NV.later ⟨q, rfl, HN.out⟩ (((((Ap.refl c.P wr.heap.size wr).setCell (p := ⟨c.P, 1, none⟩) (Or.inr rfl) _).alloc (by simp) _).alloc (by simp) _).drew.drew) HLT.out
  have HK3 : Hid (((((wr.setCell ⟨c.P, 1, none⟩ (.int .i64 ((j : Int) + 1))).alloc (tokO (tkA c.l j))).alloc (.map m7 7)).drew.drew).heap[g]? = some (.cells lvCells 9 (0, 0))) := (HA3.out.block g (lt_of_heap HK.out) HGN.out).trans HK.out
  cases hr2 : rpairs c.l F d rest (j + 1) with
  | out => rw [hr2] at HQ; exact absurd HQ.out.symm HO.out
  | bad er pl =>
   exact zcag
  | ok u j2 =>
   have HC3 := hide (HPC.out _ _ _ hr2.symm (by nofun) HP3.out HK3.out); rw [hr2] at HQ; have HQQ : Hid (rpairLoop c.l (rpairs c.l F d rest) s k (.mk (opK (tkA c.l j).tx) noText 0 [t, u]) j2 = r) := unhide HQ; exact zcaf
 ) : G := h
theorem zbac {G : Prop} (h : G := by
  have b5 : ((tkA c.l j).kd != 5) = false := by rw [h5]; rfl
  rw [if_pos ⟨h5, hf⟩] at HQ; have hl := HNX.out h5; clear hf h5; have hnj : ((j : Int) + 1) = (((j + 1 : Nat)) : Int) := by omega
  obtain ⟨m1, m2, m3, m4, m5, m6, m7, e0, e1, e2, e3, e4, e5, e6, e7, e8⟩ := ops_made2 ((wr.setCell ⟨c.P, 1, none⟩ (.int .i64 ((j : Int) + 1))).alloc (tokO (tkA c.l j))) (wr.heap.size + 1) (by simp)
  have HP3 : Hid (Ps c ((((wr.setCell ⟨c.P, 1, none⟩ (.int .i64 ((j : Int) + 1))).alloc (tokO (tkA c.l j))).alloc (.map m7 7)).drew.drew) (j + 1) 0 (-1)) := by rw [hnj]; exact (((HPS.out.step hl).alloc _).alloc _).drew.drew
  have HA3 : Hid (Ap c.P w.heap.size w ((((wr.setCell ⟨c.P, 1, none⟩ (.int .i64 ((j : Int) + 1))).alloc (tokO (tkA c.l j))).alloc (.map m7 7)).drew.drew)) := (((HAP.out.setCell (p := ⟨c.P, 1, none⟩) (Or.inr rfl) _).alloc (by have := HAP.out.size; simp; omega) _).alloc (by have := HAP.out.size; simp; omega) _).drew.drew
  have HN3 : Hid (NV w.heap.size ((((wr.setCell ⟨c.P, 1, none⟩ (.int .i64 ((j : Int) + 1))).alloc (tokO (tkA c.l j))).alloc (.map m7 7)).drew.drew) t (nPtr q)) := NV.later ⟨q, rfl, HN.out⟩ (((((Ap.refl c.P wr.heap.size wr).setCell (p := ⟨c.P, 1, none⟩) (Or.inr rfl) _).alloc (by simp) _).alloc (by simp) _).drew.drew) HLT.out
  have HK3 : Hid (((((wr.setCell ⟨c.P, 1, none⟩ (.int .i64 ((j : Int) + 1))).alloc (tokO (tkA c.l j))).alloc (.map m7 7)).drew.drew).heap[g]? = some (.cells lvCells 9 (0, 0))) := (HA3.out.block g (lt_of_heap HK.out) HGN.out).trans HK.out
  cases hr2 : rpairs c.l F d [] (j + 1) with
  | out => rw [hr2] at HQ; exact absurd HQ.out.symm HO.out
  | bad er pl =>
   exact zcag
  | ok u j2 =>
   have HC3 := hide (HPC.out _ _ _ hr2.symm (by nofun) HP3.out HK3.out); rw [hr2] at HQ; have HQQ : Hid (rpairLoop c.l (rpairs c.l F d []) s k (.mk (opK (tkA c.l j).tx) noText 0 [t, u]) j2 = r) := unhide HQ; exact zcaf
 ) : G := h
theorem zbad {G : Prop} (h : G := by
  refine hK _ _ ?_; clear hK K; refine wr2 4 8 (fun K hK => ?_) fun K hK => ?_
  ·
   go_simp; refine hK _ _ ?_; clear hK K; refine wr1 8 fun K hK => ?_; go_simp; refine hK _ _ ?_; clear hK K; refine wt 9 (.agg #[.int .i64 14, .string noText, .int .i64 0, .slice (some ⟨wc.heap.size, 0, none⟩) 1 1]) ?_
   refine wr1 10 fun K hK => ?_; exact zdaj
  ·
   go_simp; refine hK _ _ ?_; clear hK K; refine wt 9 (.agg #[.int .i64 14, .string noText, .int .i64 0, .slice (some ⟨wc.heap.size, 0, none⟩) 1 1]) ?_; refine wr2 4 10 (fun K hK => ?_) fun K hK => ?_
   ·
    go_simp; refine hK _ _ ?_; clear hK K; refine wr1 10 fun K hK => ?_; exact zdaj
   ·
    go_simp; refine hK _ _ ?_; clear hK K; refine wr2 4 11 (fun K hK => ?_) fun K hK => ?_
    ·
     exact zdaj
    ·
     go_simp; refine hK _ _ ?_; clear hK K; refine wr1 4 fun K hK => ?_; exact zcaj
 ) : G := h
theorem zbae {G : Prop} (h : G := by
  go_wp2_with fail; have hds : ∀ i, (hi : i < (s.extract j e).size) → digB ((s.extract j e)[i].toNat : Int) = true := fun i hi => by
   exact zcbl
  have hsz := extract_size s j e (by omega) hes; refine (atoi_any (s.extract j e) _ (by omega) (by omega) hds).mono ?_; rw [HNN.out]; rintro e3 w3 ⟨rfl, hbel3⟩; have HI3 := hide (HI.out.later hbel3); clear rc0 rc1 rf0 rf1
  obtain ⟨rc0, rc1, rf0, rf1⟩ := HI3.out.cells; clear hbel3 hds hsz
  go_wp2_with (at_builtin; refine wpList_append_own _ rfl _ _ 161 rfl (w.heap.size + 1) 167 i0 noTok 4 40 Tryz.underlying161 hi hz0 hz1 hz2 rfl (by decide) _ _ _ rfl (HI3.out.own.alloc _) ⟨w3.heap.size, 0, none⟩ 1 1 [.int .i64 3, .string ⟨#[]⟩, .int .i64 n, .int .i64 (j : Int)] rfl rfl ?c1 ?c2 ?c3 ?c4 ?c5 ?_)
  case c1 =>
   exact zcbi
  case c2 =>
   intro u hu; simp only [List.mem_cons, List.not_mem_nil, or_false] at hu
   rcases hu with rfl | rfl | rfl | rfl <;> rfl
  case c3 => unfold maxLen; omega
  case c4 => omega
  case c5 => have := HI3.out.size; simp; omega
  intro v' w5 hown' hgrow _; have HI5 := hide (HI3.out.app (t := Tk.mk 3 ⟨#[]⟩ n j) _ hown' hgrow); clear hown' hgrow; go_wp2_with fail
  exact ⟨WI_mk e (acc ++ [Tk.mk 3 ⟨#[]⟩ n j]) v' hes (by simp; omega) HST.out HI5.out (by kernel_rfl), by simp [mu6, intOf]; omega⟩
 ) : G := h
theorem zbaf {G : Prop} (h : G := by
  intro m
  induction m with
  | zero => intro t ht; have := cnt_pos t; omega
  | succ m ih =>
   intro t ht hm ts a w hp0 hi hnt; obtain ⟨hIp, hpl, _, _, v, f3, hrow, hri⟩ := hnt.cells; have hlen : (t.ks.map Ad.p).length = t.ks.length := List.length_map _; obtain ⟨ua, uc, hu⟩ := row_shut hrow; subst hu
   rw [hlen] at f3; have HC := hide (hst a t ts w hp0 hi hnt); have HP0 := hide (hP a t ts hp0); have HW := hide (wk_eq f a t); have HKS := hide hnt.parts; have HROW := hide hrow; have HRI := hide hri
   have HIH := hide (ih); have HHT := hide ht; have HHM := hide hm; have HF3 := hide f3; have HPL := hide hpl; have HIP := hide hIp; have HLEN := hide hlen; have HTR := hide htr; have HSY := hide hsy
   have hkb : t.ks.length ≤ 90000 := by have h1 := cnts_len t.ks; have h2 := cnt_eq t; omega
   clear hst hP hi hnt hrow hri ih ht hm f3 hpl hIp hlen htr hsy hp0; obtain ⟨p, hp⟩ : ∃ p, p = t.p := ⟨_, rfl⟩; rw [← hp] at HC HF3 HPL HIP ⊢; clear hp
   cases hx : (f a t).2 with
   | false =>
    rw [hx] at HC HP0 HW; clear hx; go_enter Tryz.func31, Tryz.ntmps31; go_wp2_with fail; refine cm HC.out ?_; rintro e w1 ⟨rfl, hg1, ha1⟩; have HG1 := hide hg1; have HA1 := hide ha1; clear HC hg1 ha1; go_wp2_with fail
    exact bodyPost_ret (v := .tuple #[]) (by simp [results, Tryz.results31, go_sem]) rfl ⟨rfl, by rw [HW.out]; exact HG1.out, by rw [HW.out]; exact HP0.out, HA1.out⟩
   | true =>
    rw [hx] at HC HP0 HW; clear hx; obtain ⟨a1, ha1⟩ : ∃ a1, a1 = (f a t).1 := ⟨_, rfl⟩; rw [← ha1] at HC HP0 HW; clear ha1; go_enter Tryz.func31, Tryz.ntmps31; go_wp2_with fail; refine cm HC.out ?_
    rintro e w1 ⟨rfl, hg1, ha1⟩; obtain ⟨hs1, hz1⟩ := unhide HSY _ _ ha1; have g3 : w1.cell? ⟨p, 3, none⟩ = some (.slice ua t.ks.length uc) := by rw [World.cell?_of_block (w := w) (hs1 p HIP.out HPL.out)]; exact unhide HF3
    have hpl1 : p < w1.heap.size := Nat.lt_of_lt_of_le HPL.out hz1; have HG1 := hide hg1; have HA1 := hide ha1; clear HC hg1 ha1 hs1 hz1; go_wp2_with fail
    go_loopw [23] (fun i wr => ∃ k : Nat, k ≤ t.ks.length ∧ i = .int .i64 k ∧ Inv (wks f a1 (t.ks.take k)) wr ∧ P (wks f a1 (t.ks.take k)) (t.ks.drop k ++ ts) ∧ Rl w wr) (fun i _ => t.ks.length - (intOf i).toNat)
    case atStart => exact ⟨0, Nat.zero_le _, rfl, by rw [List.take_zero, wks]; exact HG1.out, by rw [List.take_zero, wks]; exact HP0.out, HA1.out⟩
    case round =>
     obtain ⟨k, hk, rfl, hg, hpk, hap⟩ := hrel; have HGK := hide hg; have HPK := hide hpk; have HAK := hide hap; clear hg hap hpk
     by_cases hlt : k < t.ks.length
     ·
      obtain ⟨g, cap, hv, hcell⟩ := row_open HROW.out (by rw [HLEN.out]; omega)
      simp only [Value.slice.injEq] at hv; obtain ⟨rfl, _, rfl⟩ := hv; have hkp : k < (t.ks.map Ad.p).length := by rw [HLEN.out]; exact hlt
      have hgb := unhide HRI g rfl; have hgl := (own_lt HROW.out g rfl).1; obtain ⟨hs2, hz2⟩ := unhide HSY _ _ HAK.out; obtain ⟨q, hq⟩ : ∃ q, q = (t.ks[k]).p := ⟨_, rfl⟩
      have hck : wr.cell? ⟨g, k, none⟩ = some (nPtr q) := by
       rw [World.cell?_of_block (w := w) (a := ⟨g, k, none⟩) (hs2 g hgb hgl), hcell k hkp, List.getElem_map, hq]
      have hnk : AAt I wr t.ks[k] := AAt.later hs2 _ (unhide HKS _ (List.getElem_mem hlt)); have hgl2 : g < wr.heap.size := Nat.lt_of_lt_of_le hgl hz2; have hcn : (t.ks[k]).cnt ≤ m := by
       have h1 := cnts_mem t.ks _ (List.getElem_mem hlt); have h2 := cnt_eq t; have h3 := unhide HHT; omega
      have hpk := unhide HPK; rw [List.drop_eq_getElem_cons hlt, List.cons_append] at hpk; have HC := hide (HIH.out t.ks[k] hcn (by have := unhide HHM; omega) (t.ks.drop (k + 1) ++ ts) _ wr hpk HGK.out hnk)
      have HWK := hide (wks_take f t.ks a1 k hlt); rw [← hq] at HC; have hki : (k : Int) < (t.ks.length : Int) := by omega
      clear hcell hnk hcn hpk hs2 hz2 hq; go_wp2_with fail; refine cm HC.out ?_; rintro e w2 ⟨rfl, hc2, hp2, ha2⟩; have HC2 := hide hc2; have HP2 := hide hp2; have HA2 := hide (unhide HTR _ _ _ HAK.out ha2)
      clear hc2 ha2 hp2 HC hck; go_wp2_with fail
      go_roundw
      case rel => exact ⟨k + 1, by omega, by go_num, by rw [HWK.out]; exact HC2.out, by rw [HWK.out]; exact HP2.out, HA2.out⟩
      case measure => simp [intOf]; omega
     ·
      have hk2 : k = t.ks.length := by omega
      subst hk2; go_wp2_with fail
      go_end0
      have h1 := unhide HGK; have h2 := unhide HPK; rw [List.take_length] at h1 h2; rw [List.drop_length, List.nil_append] at h2; rw [HW.out]; exact ⟨rfl, h1, h2, HAK.out⟩
 ) : G := h
theorem zbag {G : Prop} (h : G := by
  go_enter Tryz.func129, Tryz.ntmps129; go_wp2_with fail; refine cm HFN.out ?_; rintro e w0 ⟨rfl, rfl⟩; go_wp2_with fail; refine cm HD.out ?_; rintro e w2 ⟨⟨v, rfl, hr⟩, hb2⟩; obtain ⟨hO2, hr2, hs2⟩ := HKEY.out w2 v hr hb2
  obtain ⟨oa, oc, rfl⟩ := hr.form; have HO2 := hide hO2; have HR2 := hide hr2; have HS2 := hide hs2; have d0 : w2.cell? ⟨bb, 0, none⟩ = some (optP (bodyP b a)) := by rw [Lib.cell_of_heap hO2.bbox]; rfl
  have dl := lt_of_heap hO2.bbox; have hq := neq_opt (hO2.cls _ HPA.out) (fun q hq => hO2.cls q (HBA.out q hq)); clear hr hb2 hr2 hs2 HD HKEY HFN
  cases hkb : (bodyP b a == some a.p) with
  | true =>
   rw [hkb] at hq; have HKP : Hid (keepA (bodyP b a) a = false) := by show _ = _; unfold keepA; rw [hkb]; rfl
   obtain ⟨bp, hbp⟩ : ∃ bp, bp = bodyP b a := ⟨_, rfl⟩; rw [← hbp] at d0 hq; obtain ⟨p, hp⟩ : ∃ p, p = a.p := ⟨_, rfl⟩; rw [← hp] at hq ⊢
   have hq2 : (binOp .neq 22 (nPtr p) (optP bp)).run Tryz.prog w2 = .ok (.bool false) w2 := hq; clear hq hO2 hkb hbp hp; exact zcbf
  | false =>
   rw [hkb] at hq
   by_cases hz : 0 < (declT a.tr).length
   ·
    have HKP : Hid (keepA (bodyP b a) a = true) := by show _ = _; unfold keepA; rw [hkb]; simp [hz]
    obtain ⟨es, e1, e2⟩ := hO2.fmap; have f0 : w2.cell? ⟨fb, 0, none⟩ = some (.map (some fm)) := by rw [Lib.cell_of_heap hO2.fbox]; rfl
    have g0 : w2.cell? ⟨nb, 0, none⟩ = some (.map (some mb)) := by rw [Lib.cell_of_heap hO2.word]; rfl
    have fl := lt_of_heap hO2.fbox; have gl := lt_of_heap hO2.word; have hlk := lookup_ptr mb A.length (nodL A) a.p w2 hO2.nums (hO2.cls _ HPA.out) (fun e he => hO2.cls _ (nodL_mem he))
    rw [nodL_find HPA.out, HIX.out] at hlk; have hup := updateI_new 121 119 fm es (i : Int) (.agg #[nPtr a.p, .slice oa (declT a.tr).length oc]) w2 Tryz.underlying121 e1 (e2.new i HLT.out); have HE1 := hide e1
    have HE2 := hide e2; have hzi : (0 : Int) < ((declT a.tr).length : Int) := by omega
    have HA0 : Hid (∀ X, Ents I B X (L ++ [(i, a)]) (es ++ [((i : Int), .agg #[nPtr a.p, .slice oa (declT a.tr).length oc])]) → Ents I B X (L ++ [(i, a)]) (es ++ [((i : Int), .agg #[nPtr a.p, .slice oa (declT a.tr).length oc])])) := fun _ h => h
    have HE3 : Hid (Ents I B w2 (L ++ [(i, a)]) (es ++ [((i : Int), .agg #[nPtr a.p, .slice oa (declT a.tr).length oc])])) := e2.snoc i a _ HR2.out
    generalize (declT a.tr).length = dn at hup hzi HE3 ⊢
    obtain ⟨bp, hbp⟩ : ∃ bp, bp = bodyP b a := ⟨_, rfl⟩; rw [← hbp] at d0 hq; obtain ⟨p, hp⟩ : ∃ p, p = a.p := ⟨_, rfl⟩; rw [← hp] at hq hlk hup HE3 ⊢
    have hq2 : (binOp .neq 22 (nPtr p) (optP bp)).run Tryz.prog w2 = .ok (.bool true) w2 := hq; clear hq hO2 hkb e1 e2 hz HA0 hbp hp; go_wp2_with fail; go_ret; refine ⟨rfl, ?_, HS2.out.trans (Sk.map _ _ _ _)⟩; rw [HSS.out]
    unfold osF; simp only; rw [HKP.out]; refine HO2.out.next HF.out (Sk.map _ _ _ _) ⟨_, ?_, HE3.out.sk HF.out (Sk.map _ _ _ _)⟩ ?_ ?_
    ·
     rw [setMap_at (lt_of_heap HE1.out), List.length_append]; rfl
    ·
     rw [setMap_other (Ne.symm n7)]; exact HO2.out.bbox
    ·
     intro e he; rw [if_pos rfl] at he
     rcases List.mem_append.1 he with he | he
     ·
      exact Nat.lt_succ_of_lt (HO2.out.lt e he)
     ·
      rw [List.mem_singleton.1 he]; exact Nat.lt_succ_self _
   ·
    have HKP : Hid (keepA (bodyP b a) a = false) := by show _ = _; unfold keepA; rw [hkb]; simp [hz]
    have hz0 : (declT a.tr).length = 0 := by omega
    rw [hz0]; obtain ⟨bp, hbp⟩ : ∃ bp, bp = bodyP b a := ⟨_, rfl⟩; rw [← hbp] at d0 hq; obtain ⟨p, hp⟩ : ∃ p, p = a.p := ⟨_, rfl⟩; rw [← hp] at hq ⊢
    have hq2 : (binOp .neq 22 (nPtr p) (optP bp)).run Tryz.prog w2 = .ok (.bool true) w2 := hq; clear hq hO2 hkb hz hz0 hbp hp; exact zcbf
 ) : G := h
theorem zbah {G : Prop} (h : G := by
  have t1 : (((s[q].toNat : Nat) : Int) == 39) = false := by rw [show (39 : Int) = (((39 : UInt8).toNat : Nat) : Int) from rfl, b1]; simp [c1]
  by_cases c2 : s[q] = 10
  ·
   have t2 : (((s[q].toNat : Nat) : Int) == 10) = true := by rw [c2]; rfl
   rw [strR_lf s q said hqs (by rw [hbt]; exact c2)] at hqe
   cases hqe
  ·
   have t2 : (((s[q].toNat : Nat) : Int) == 10) = false := by rw [show (10 : Int) = (((10 : UInt8).toNat : Nat) : Int) from rfl, b2]; simp [c2]
   by_cases c3 : s[q] = 92
   ·
    have t3 : (((s[q].toNat : Nat) : Int) != 92) = false := by rw [c3]; rfl
    by_cases hq4 : q + 1 < s.size
    ·
     have ql2 : (((q : Int) + 1) == (s.size : Int)) = false := beq_eq_false_iff_ne.2 (by omega); have hbt2 := bt_eq s (q + 1) hq4; have d1 := byte_eq s[q + 1] 110; have d2 := byte_eq s[q + 1] 39
     have d3 := byte_eq s[q + 1] 92
     by_cases k1 : s[q + 1] = 110
     ·
      exact zcaq
     ·
      have u1 : (((s[q + 1].toNat : Nat) : Int) == 110) = false := by rw [show (110 : Int) = (((110 : UInt8).toNat : Nat) : Int) from rfl, d1]; simp [k1]
      by_cases k2 : s[q + 1] = 39
      ·
       have u2 : (((s[q + 1].toNat : Nat) : Int) == 39) = true := by rw [k2]; rfl
       rw [strR_esc s q said s[q + 1] hqs (by rw [hbt]; exact c3) hq4 (by rw [hbt2, k2]; rfl)] at hqe
       have HQ := hide hqe; have hos := ofB_size said; have hos2 : (ofBytes said).size ≤ 3000 := by omega
       clear hqe hos b1 b2 b3 c1 c2 c3 hbt hbt2 d1 d2 d3 k1 k2; exact zcav
      ·
       have u2 : (((s[q + 1].toNat : Nat) : Int) == 39) = false := by rw [show (39 : Int) = (((39 : UInt8).toNat : Nat) : Int) from rfl, d2]; simp [k2]
       by_cases k3 : s[q + 1] = 92
       ·
        have u3 : (((s[q + 1].toNat : Nat) : Int) == 92) = true := by rw [k3]; rfl
        rw [strR_esc s q said s[q + 1] hqs (by rw [hbt]; exact c3) hq4 (by rw [hbt2, k3]; rfl)] at hqe
        have HQ := hide hqe; have hos := ofB_size said; have hos2 : (ofBytes said).size ≤ 3000 := by omega
        clear hqe hos b1 b2 b3 c1 c2 c3 hbt hbt2 d1 d2 d3 k1 k2 k3; exact zcav
       ·
        have u3 : (((s[q + 1].toNat : Nat) : Int) == 92) = false := by rw [show (92 : Int) = (((92 : UInt8).toNat : Nat) : Int) from rfl, d3]; simp [k3]
        have hno : esc (bt s (q + 1)) = none := by rw [hbt2]; simp [esc, k1, k2, k3]
        rw [strR_noesc s q said hqs (by rw [hbt]; exact c3) (fun _ => hno)] at hqe
        cases hqe
    ·
     have ql2 : (((q : Int) + 1) == (s.size : Int)) = true := beq_iff_eq.2 (by omega); rw [strR_noesc s q said hqs (by rw [hbt]; exact c3) (fun h => absurd h hq4)] at hqe
     cases hqe
   ·
    exact zcam
 ) : G := h
theorem zbai {G : Prop} (h : G := by
  refine hK _ _ ?_; clear hK K; refine wr2 4 9 (fun K hK => ?_) fun K hK => ?_
  ·
   go_simp; refine hK _ _ ?_; clear hK K; refine wr1 9 fun K hK => ?_; exact zcau
  ·
   go_simp; refine hK _ _ ?_; clear hK K; refine wr1 4 fun K hK => ?_; exact zcau
 ) : G := h
theorem zbaj {G : Prop} (h : G := by
  exact zcau
 ) : G := h
theorem zbak {G : Prop} (h : G := by
  rw [hr] at HS; simp only [bind_out] at HS; exact absurd HS.out.symm HO.out
 ) : G := h
theorem zbal {G : Prop} (h : G := by
  go_simp; refine hK _ _ ?_; clear hK K; have hown := HOc.out.row; have HOWN := hide hown; have hsz := HAc.out.size; clear hown; refine wr1 9 fun K hK => ?_
  refine step_append_lies _ rfl _ _ 46 rfl w.heap.size 22 i0 (.pointer none) 1 8 Tryz.underlying46 hi0 hz0 hz1 hz2 rfl (by decide) _ _ _ rfl (HOWN.out.alloc _) ⟨wc.heap.size, 0, none⟩ 1 1 [nPtr pc] rfl rfl (one_cells wc pc _ rfl) (one_one pc) (by decide) (by simp [maxLen]) (by simp) (by simp; omega) (wc.heap.size + 1) (by simp) ?_
  intro g cap w3 hown3 hgr3 hg3 _; refine hK _ _ ?_; clear hK K; have HEV := hide (Open.push2 HOc.out HNc.out rfl hown3 hgr3 hg3)
  have HBW : ∀ v, Hid (Below w.heap.size wc (w3.setCell ⟨w.heap.size, 3, none⟩ v)) := fun v => HOc.out.grows ((Below.refl _ wc).alloc hsz _) (by simp; omega) hgr3
  have hp3 : w3.cell? ⟨w.heap.size, 3, none⟩ = wc.cell? ⟨w.heap.size, 3, none⟩ ∧ w3.frozen? ⟨w.heap.size, 3, none⟩ = wc.frozen? ⟨w.heap.size, 3, none⟩ := by
   exact zcbe
  obtain ⟨hp3c, hp3f⟩ := hp3; rw [gc3] at hp3c; rw [gcf 3] at hp3f; clear hown3 hgr3 hg3; refine wt 10 (nPtr w.heap.size) ?_; refine wt 11 (.pointer (some ⟨w.heap.size, 3, none⟩)) ?_; refine wr1 12 fun K hK => ?_; go_simp
  refine hK _ _ ?_; clear hK K hp3c hp3f gc3 gcf gcl HOWN hcf hc3 hcl; refine wpAny_done (by kernel_rfl) ?_ _; go_simp; go_wp2_with fail; go_ret
  exact ⟨⟨_, rfl, HEV.out.nv⟩, HPc.out.ap (unhide (HBW _)) HLO.out, HAc.out.trans (Ap.of (unhide (HBW _)))⟩
 ) : G := h
theorem zbam {G : Prop} (h : G := by
  rintro e2 w2 ⟨rfl, rfl⟩; go_wp2_with fail
  go_round
  case rel => exact ⟨q + 1, by omega, by omega, by go_num, HST1.out⟩
  case measure => simp [intOf]; omega
 ) : G := h
theorem zban {G : Prop} (h : G := by
  refine hK _ _ ?_; clear hK K
  by_cases hus : us = []
  ·
   obtain rfl := HLV.out.2.1 hus; subst hus; obtain ⟨hucap, ga, rfl⟩ := HOc.out.cap (by rw [HKL.out]; decide)
   have HP1 := hide (push0 HOc.out HRc.out HAc.out HLO.out); refine wr1 11 fun K hK => ?_; go_simp; refine hK _ _ ?_; clear hK K hucap; refine wt 12 (nPtr pq) ?_; refine wt 13 (.pointer (some ⟨pq, 3, none⟩)) ?_
   refine wr1 14 fun K hK => ?_; go_simp; refine hK _ _ ?_; clear hK K; refine wpAny_done (by kernel_rfl) ?_ _; go_simp; obtain ⟨m1, m2, m3⟩ := unhide HP1; obtain ⟨pm, hpm, hnm⟩ := m1.nv
   have hpe : pm = pq := by simpa [nPtr] using hpm.symm
   subst hpe; have ht0 := unhide HT0; have HM1 := hide hnm; have HM2 := hide m2; have HM3 := hide m3; clear m1 m2 m3 hpm hnm; go_wp2_with fail
   go_roundw
   case rel => exact ⟨k, .mk 35 noText 0 [t], j2, pm, rfl, HS.out, HM2.out, HM3.out, by have h9 := unhide HM1; rw [show Tr.mk t0.kd t0.tx t0.n (t0.kids ++ []) = Tr.mk 35 noText 0 [t] by rw [ht0]; rfl] at h9; exact h9⟩
   case measure => rw [nxt_eq HM2.out, nxt_eq HRM.out]; omega
  ·
   obtain ⟨g2, cap2, qs, rfl, hql, hqn, hqc⟩ := HLV.out.many hus; have hu1 := HLV.out.2.2; have hpos : 0 < us.length := List.length_pos_iff.2 hus
   have HX := hide (Open.apart HOP.out HAn.out.size HOA.out HLT.out (show NAts (From wn.heap.size) wc us qs from hqn)); have hlen := NAts.length _ _ HOc.out.kids; have hkl := unhide HKL; have hsz := HAc.out.size
   have hown := HOc.out.row; rw [hlen] at hown; have HOWN := hide hown; have HQL := hide hql; have HLEN := hide hlen; clear hown hus hqn hlen; refine wr1 11 fun K hK => ?_
   refine step_append_lies _ rfl _ _ 46 rfl w.heap.size 22 i0 (.pointer none) 1 8 Tryz.underlying46 hi0 hz0 hz1 hz2 rfl (by decide) _ _ _ rfl HOWN.out ⟨g2, 0, none⟩ us.length cap2 (qs.map nPtr) rfl (by simp [hql]) hqc (map_one qs) hpos (by unfold maxLen; omega) (by omega) hsz wc.heap.size rfl ?_
   intro g cap w3 hown3 hgr3 hg3 _; refine hK _ _ ?_; clear hK K; have HP1 := hide (pushN (m := t0.kids.length + us.length) HOc.out HX.out HRc.out HAc.out HLO.out hown3 (by rw [HLEN.out, HQL.out]) hgr3 hg3)
   have hp3 : w3.cell? ⟨pq, 3, none⟩ = wc.cell? ⟨pq, 3, none⟩ ∧ w3.frozen? ⟨pq, 3, none⟩ = wc.frozen? ⟨pq, 3, none⟩ := by
    have hbb : w3.heap[pq]? = wc.heap[pq]? := hgr3.block pq gcl (fun e => HOc.out.own e.symm); exact zdah
   obtain ⟨hp3c, hp3f⟩ := hp3; rw [gc3] at hp3c; rw [gcf 3] at hp3f; clear hown3 hgr3 hg3 gc3 gcf hqc hkl; refine wt 12 (nPtr pq) ?_; refine wt 13 (.pointer (some ⟨pq, 3, none⟩)) ?_; refine wr1 14 fun K hK => ?_; go_simp
   refine hK _ _ ?_; clear hK K; refine wpAny_done (by kernel_rfl) ?_ _; go_simp; obtain ⟨m1, m2, m3⟩ := unhide HP1; obtain ⟨pm, hpm, hnm⟩ := m1.nv; have hpe : pm = pq := by simpa [nPtr] using hpm.symm
   subst hpe; have ht0 := unhide HT0; have HM1 := hide hnm; have HM2 := hide m2; have HM3 := hide m3; clear m1 m2 m3 hpm hnm; go_wp2_with fail
   go_roundw
   case rel => exact ⟨k, .mk 35 noText 0 (t :: us), j2, pm, rfl, HS.out, HM2.out, HM3.out, by have h9 := unhide HM1; rw [show Tr.mk t0.kd t0.tx t0.n (t0.kids ++ us) = Tr.mk 35 noText 0 (t :: us) by rw [ht0]; rfl] at h9; exact h9⟩
   case measure => rw [nxt_eq HM2.out, nxt_eq HRM.out]; omega
 ) : G := h
theorem zbao {G : Prop} (h : G := by
  go_simp; refine hK _ _ ?_; clear hK K; have hown := HOc.out.row; have HOWN := hide hown; have hsz := HAc.out.size; clear hown; refine wr1 9 fun K hK => ?_
  refine step_append_lies _ rfl _ _ 46 rfl w.heap.size 22 i0 (.pointer none) 1 8 Tryz.underlying46 hi0 hz0 hz1 hz2 rfl (by decide) _ _ _ rfl (HOWN.out.alloc _) ⟨wc.heap.size, 0, none⟩ 1 1 [nPtr pc] rfl rfl (one_cells wc pc _ rfl) (one_one pc) (by decide) (by simp [maxLen]) (by simp) (by simp; omega) (wc.heap.size + 1) (by simp) ?_
  intro g cap w3 hown3 hgr3 hg3 _; refine hK _ _ ?_; clear hK K
  have HBW : ∀ v, Hid (Below w.heap.size wc (w3.setCell ⟨w.heap.size, 3, none⟩ v)) := fun v => HOc.out.grows ((Below.refl _ wc).alloc hsz _) (by simp; omega) hgr3
  have hp3 : w3.cell? ⟨w.heap.size, 3, none⟩ = wc.cell? ⟨w.heap.size, 3, none⟩ ∧ w3.frozen? ⟨w.heap.size, 3, none⟩ = wc.frozen? ⟨w.heap.size, 3, none⟩ := by
   exact zcbe
  obtain ⟨hp3c, hp3f⟩ := hp3; rw [gc3] at hp3c; rw [gcf 3] at hp3f; clear hown3 hgr3 hg3; refine wt 10 (nPtr w.heap.size) ?_; refine wt 11 (.pointer (some ⟨w.heap.size, 3, none⟩)) ?_; refine wr1 12 fun K hK => ?_; go_simp
  refine hK _ _ ?_; clear hK K hp3c hp3f gc3 gcf gcl HOWN hcf hc3 hcl; refine wpAny_done (by kernel_rfl) ?_ _; go_simp; go_wp2_with fail; go_ret
  exact ⟨⟨_, rfl, _, rfl⟩, ⟨jc, HPc.out.ap (unhide (HBW _)) HLO.out⟩, he, HAc.out.trans (Ap.of (unhide (HBW _)))⟩
 ) : G := h
theorem zbap {G : Prop} (h : G := by
  have hlt2 := hrd.lt; clear hrd ha hn4 HC; obtain ⟨ps, hown, hk4, hkt⟩ := unhide HN4; have hlen := NAts.length _ _ hk4; have hOB := own_lt hown; rw [hlen] at hown; have HOWN := hide hown; have HLEN := hide hlen
  have HKK := hide hkt; have hsz := HA4.out.size; have hle := unhide HLE; have HOB := hide hOB; clear hown hk4 hkt HK4 HN4 hOB hlen
  go_wp2_with (at_builtin; refine wpList_append_lies _ rfl _ _ 46 rfl w.heap.size 22 i0 (.pointer none) 1 8 Tryz.underlying46 hi0 hz0 hz1 hz2 rfl (by decide) _ _ _ rfl (HOWN.out.alloc _) ⟨w4.heap.size, 0, none⟩ 1 1 [nPtr p4] rfl rfl (one_cells w4 p4 _ rfl) (one_one p4) (by decide) (by unfold maxLen; omega) (by omega) (by simp; omega) (w4.heap.size + 1) (by simp) ?_)
  intro g cap w5 hown' hgrow hg _; have HK5 : Hid (KV w.heap.size w5 (acc ++ [t]) (.slice (some ⟨g, 0, none⟩) (acc.length + 1) cap)) := kv_push HKK.out (by rw [List.map_append]; exact hown') (by simp [HLEN.out]) hgrow hg
  have HA5 := hide ((HA4.out.alloc hsz (.cells #[nPtr p4] 22)).grown hgrow (by simp; omega) (fun k hk => (unhide HOB k hk).2))
  have HR5 := hide (HR4.out.ap (((Below.refl w.heap.size w4).alloc hsz (.cells #[nPtr p4] 22)).grown hgrow (by simp; omega) (fun k hk => (unhide HOB k hk).2)) HLO.out)
  clear hown' hgrow hg HKK HOWN
  by_cases hx : fx c.l j2 = shut
  ·
   have HC := hide (take_yes c shut w5 j2 d HR5.out hx HNS.out); rw [if_pos hx] at HQ2; clear hx; go_wp2_with fail; refine cm HC.out ?_; rintro e w6 ⟨rfl, hr6, ha6⟩; have HA6 := hide (HA5.out.next ha6)
   have HR6 := hide hr6; have HK6 := hide (KV.later HK5.out ha6 HLT.out); clear hr6 ha6; go_wp2_with fail; go_ret; exact ppOk HQ2.out.symm ⟨HK6.out, fun hh => absurd hh (by simp), by simp; omega⟩ HR6.out HA6.out
  ·
   have HC := hide (take_not c shut w5 j2 d HR5.out hx); rw [if_neg hx] at HQ2; clear hx; go_wp2_with fail; refine cm HC.out ?_; rintro e w6 ⟨rfl, hb6⟩; have HA6 := hide (HA5.out.next (Ap.of hb6))
   have HR6 := hide (HR5.out.later hb6); have HK6 := hide (KV.later HK5.out (Ap.of hb6) HLT.out); clear hb6 HC
   cases hr : mustP c.l tComma j2 with
   | out =>
    exact zcca
   | bad er p =>
    have HC := hide (must_any c tComma w6 j2 d HR6.out (by decide)); rw [hr] at HC HQ2; simp only [bind_bad] at HQ2; clear hr; go_wp2_with fail; refine cm HC.out ?_; intro e w' hp; obtain ⟨rfl, ha⟩ := hp
    exact ⟨rfl, ppBad HQ2.out.symm (HA6.out.next ha)⟩
   | ok x7 j7 =>
    have HC := hide (must_any c tComma w6 j2 d HR6.out (by decide)); have h7 : j2 < j7 := by
     unfold mustP at hr
     split at hr
     ·
      cases hr; omega
     ·
      cases hr
    rw [hr] at HC HQ2; simp only [bind_ok] at HQ2; clear hr; go_wp2_with fail; refine cm HC.out ?_; intro e w7 hp; obtain ⟨⟨v7, rfl, rfl⟩, hrd, ha⟩ := hp; have HA7 := hide (HA6.out.next ha); have HR7 := hide hrd
    have HK7 := hide (KV.later HK6.out ha HLT.out); have hlt7 := hrd.lt; clear hrd ha HC; go_wp2_with fail
    go_roundw
    case rel => exact ⟨k, acc ++ [t], j7, HQ2.out, HR7.out, HA7.out, HK7.out, by simp; omega⟩
    case measure => rw [nxt_eq HR7.out, nxt_eq HRM.out]; omega
 ) : G := h
theorem zbaq {G : Prop} (h : G := by
  rw [hf] at HF HVW; have HC := hide (unhide HF W1 HW1.out); go_wp2_with fail; refine cm HC.out ?_; rintro e w3 ⟨rfl, rfl⟩; clear HC; have HC2 := hide (unhide HI w3 (HN.out.later HW1.out)); go_wp2_with fail
  refine cm HC2.out ?_; rintro e w4 ⟨⟨u4, rfl, hr4⟩, hb4⟩; obtain ⟨R, hR⟩ : ∃ R, R = varsT x := ⟨_, rfl⟩; rw [← hR] at hr4 hvk; obtain ⟨a4, c4, rfl⟩ := srow_form hr4; have HR4 := hide hr4
  have HO4 := hide (SRow.later HO1.out hb4); have HB4 := hide (HB1.out.trans (hb4.mono HB1.out.size)); have HFO : Hid ((vw x).foldl addB L = R.foldl addB L1) := by
   show _ = _
   rw [HVW.out, HOV.out, hR, varsT, fold_once, List.foldl_append, HLL.out]; rfl
  clear HC2 hr4 hb4 hR hcc q0 q1; go_wp2_with fail
  go_loopw [3, 36] (fun o j wr2 => ∃ i : Nat, i ≤ R.length ∧ j = .int .i64 i ∧ SRow w.heap.size wr2 o ((R.take i).foldl addB L1) ∧ Below w4.heap.size w4 wr2) (fun _ j _ => R.length - (intOf j).toNat)
  case atStart => exact ⟨0, Nat.zero_le _, rfl, HO4.out, Below.refl _ _⟩
  case round =>
   obtain ⟨i, hi, rfl, hown, hbel⟩ := hrel; have HOWN2 := hide hown; have HB5 := hide hbel; obtain ⟨ob, od, rfl⟩ := srow_form hown; clear hown hbel; have HBW := hide (HB4.out.trans (HB5.out.mono HB4.out.size))
   by_cases hli : i < R.length
   ·
    obtain ⟨g4, cp4, hv, hg4, _, hc4⟩ := srow_cell (SRow.later HR4.out HB5.out) i hli; simp only [Value.slice.injEq] at hv; obtain ⟨rfl, _, rfl⟩ := hv; have hii : (i : Int) < (R.length : Int) := by omega
    have hfl : ((R.take i).foldl addB L1).length ≤ 60000 := by
     have h1 := fold_len (R.take i) L1; rw [List.length_take] at h1; omega
    have HTK : Hid ((R.take (i + 1)).foldl addB L1 = addB ((R.take i).foldl addB L1) R[i]) := by
     show _ = _
     rw [List.take_succ_eq_append_getElem hli, List.foldl_append]; rfl
    have HC := hide (radd_any ((R.take i).foldl addB L1) R[i] _ _ HOWN2.out (by omega) HBW.out.size)
    generalize R[i] = y at hc4 HC HTK
    generalize (R.take i).foldl addB L1 = M at HC HTK HOWN2 hfl
    go_wp2_with fail; refine cm HC.out ?_; rintro e w6 ⟨⟨u6, rfl, hr6⟩, hb6⟩; obtain ⟨a6, c6, rfl⟩ := srow_form hr6; have HR6 := hide hr6; have HB6 := hide (HB5.out.trans (hb6.mono HB5.out.size)); clear HC hr6 hb6
    go_wp2_with fail
    go_roundw
    case rel => exact ⟨i + 1, by omega, by go_num, by rw [HTK.out]; exact HR6.out, HB6.out⟩
    case measure => simp [intOf]; omega
   ·
    have hii : i = R.length := by omega
    subst hii; go_wp2_with fail
    go_roundw
    case rel =>
     refine ⟨k + 1, by omega, by go_num, ?_, HBW.out⟩; rw [HST.out, HFO.out]; have h := unhide HOWN2; rw [List.take_length] at h; rw [List.take_length]; exact h
    case measure => simp [intOf]; omega
 ) : G := h
theorem zbar {G : Prop} (h : G := by
  go_wp2_with fail; refine (fail_any _ _ _).mono ?_; rintro e4 w4 ⟨b, rfl, hb, hlb, hbel2⟩; have hbelA := HB.out.trans (hbel2.mono hsz); have hbelB : Below (w.alloc O35).heap.size (w.alloc O35) w4 := by simpa using hbelA
  obtain ⟨hc, hf⟩ := bcell hbelB; have HBB := hide hb; have HBEL2 := hide hbelB; have hlb2 : (w.alloc O35).heap.size ≤ b := by simp; omega
  clear hb hbelA hbelB hbel2 hlb; go_wp2_with fail
  exact bodyPost_ret (v := .tuple #[noTok, .int .i64 0, .iface 144 (.pointer (some ⟨b, 0, none⟩))]) (by simp [results, Tryz.results160, go_sem, hc]) rfl ⟨b, rfl, bad_end HBEL2.out hlb2 HBB.out _ _ _ _⟩
 ) : G := h
theorem zbas {G : Prop} (h : G := by
  rw [hr] at HC HS; simp only [bind_bad] at HS; exact zccb
 ) : G := h
theorem zbat {G : Prop} (h : G := by
  have nb := (ha2.block _ (lt_of_heap HNB.out) (by have := unhide HLT; omega)).trans HNB.out
  obtain ⟨c0, c1, c2, c3, cf⟩ := node_cells nb; have cf3 := cf 3; have hnl := lt_of_heap nb; have hA := HA0.out.next ha2
  have HB : Hid (Below w.heap.size wv ((wv.setCell ⟨w.heap.size, 3, none⟩ (.slice (some ⟨wv.heap.size, 0, none⟩) 2 2)).alloc (.cells #[nPtr q, nPtr q2] 22))) := ((Below.refl w.heap.size wv).setCell (p := ⟨w.heap.size, 3, none⟩) (Nat.le_refl _) _).alloc (by simp; omega) _
  have HA := hide (hA.trans (Ap.of HB.out)); have HP := hide (hp2.ap HB.out HLO.out); clear hp2 ha2 HC2 nb hA; go_wp2_with fail; go_ret; exact ⟨⟨_, rfl, _, rfl⟩, ⟨j2, HP.out⟩, he, HA.out⟩
 ) : G := h
theorem zbau {G : Prop} (h : G := by
  exact zcbi
 ) : G := h
theorem zbav {G : Prop} (h : G := by
  refine hK _ _ ?_; clear hK K; refine wr2 4 9 (fun K hK => ?_) fun K hK => ?_
  ·
   go_simp; refine hK _ _ ?_; clear hK K; refine wr1 9 fun K hK => ?_; go_simp; refine hK _ _ ?_; clear hK K; refine wt 10 (.agg #[.int .i64 13, .string s, .int .i64 0, .slice (some ⟨wc.heap.size, 0, none⟩) 1 1]) ?_
   refine wr1 11 fun K hK => ?_; exact zdai
  ·
   go_simp; refine hK _ _ ?_; clear hK K; refine wt 10 (.agg #[.int .i64 13, .string s, .int .i64 0, .slice (some ⟨wc.heap.size, 0, none⟩) 1 1]) ?_; refine wr2 4 11 (fun K hK => ?_) fun K hK => ?_
   ·
    go_simp; refine hK _ _ ?_; clear hK K; refine wr1 11 fun K hK => ?_; exact zdai
   ·
    go_simp; refine hK _ _ ?_; clear hK K; refine wr2 4 12 (fun K hK => ?_) fun K hK => ?_
    ·
     exact zdai
    ·
     go_simp; refine hK _ _ ?_; clear hK K; refine wr1 4 fun K hK => ?_; exact zcah
 ) : G := h
theorem zbaw {G : Prop} (h : G := by
  obtain ⟨k, hk, rfl, hown, hbel⟩ := hrel; have HOWN := hide hown; have HB5 := hide hbel; obtain ⟨oa, oc, rfl⟩ := srow_form hown; clear hown hbel; have HBW := hide (HB4.out.trans (HB5.out.mono HB4.out.size))
  by_cases hlt : k < NL.length
  ·
   obtain ⟨g, cap, q, hv, hg, hcc, hn⟩ := ((HRW.out.later HB5.out).row HBW.out).cell k hlt; simp only [Value.slice.injEq] at hv; obtain ⟨rfl, _, rfl⟩ := hv; obtain ⟨hql, _, q1, _⟩ := hn.cells
   have hki : (k : Int) < (NL.length : Int) := by omega
   have hfl2 : (((NL.take k).map Tr.tx).foldl addB V).length ≤ 70000 := by
    have h1 := fold_len ((NL.take k).map Tr.tx) V; rw [List.length_map, List.length_take] at h1; omega
   have HTK : Hid (((NL.take (k + 1)).map Tr.tx).foldl addB V = addB (((NL.take k).map Tr.tx).foldl addB V) (NL[k]).tx) := by
    show _ = _
    rw [List.take_succ_eq_append_getElem hlt, List.map_append, List.foldl_append]; rfl
   have HC := hide (radd_any (((NL.take k).map Tr.tx).foldl addB V) (NL[k]).tx _ wr HOWN.out (by omega) HBW.out.size)
   generalize (NL[k]).tx = y at q1 HC HTK
   generalize ((NL.take k).map Tr.tx).foldl addB V = M at HC HTK HOWN hfl2
   clear hn; go_wp2_with fail; refine cm HC.out ?_; rintro e w6 ⟨⟨u6, rfl, hr6⟩, hb6⟩; obtain ⟨a6, c6, rfl⟩ := srow_form hr6; have HR6 := hide hr6; have HB6 := hide (HB5.out.trans (hb6.mono HB5.out.size)); exact zcbw
  ·
   have hii : k = NL.length := by omega
   subst hii; go_wp2_with fail; go_ret; refine ⟨⟨_, rfl, ?_⟩, HBW.out⟩; have h := unhide HOWN; rw [List.take_length] at h; rw [List.take_length]; exact h
 ) : G := h
theorem zbax {G : Prop} (h : G := by
  refine hK _ _ ?_; clear hK K; refine wr1 9 fun K hK => ?_; go_simp; refine hK _ _ ?_; clear hK K; refine wpAny_same (listed' := tf 10 4) (by kernel_rfl) rfl ?_; exact CONT wc pc HY.out
 ) : G := h
theorem zbay {G : Prop} (h : G := by
  refine hK _ _ ?_; clear hK K; refine wr1 8 fun K hK => ?_; go_simp; refine hK _ _ ?_; clear hK K; refine wt 9 (.agg #[.int .i64 14, .string noText, .int .i64 0, .slice (some ⟨wc.heap.size, 0, none⟩) 1 1]) ?_
  refine wr1 10 fun K hK => ?_; go_simp; refine hK _ _ ?_; clear hK K; refine wr1 11 fun K hK => ?_; go_simp; refine hK _ _ ?_; clear hK K; refine wpAny_same (listed' := tf 12 4) (by kernel_rfl) rfl ?_
  exact CONT wc pc HHY.out
 ) : G := h
theorem zbaz {G : Prop} (h : G := by
  obtain ⟨ps, hown, hk4⟩ := unhide HK4; have hlen := NAts.length _ _ hk4; have hOB := own_lt hown; rw [hlen] at hown; have HOWN := hide hown; have HLEN := hide hlen; have HKK := hide hk4; have hsz := HA4.out.size
  have HOB := hide hOB; clear hown hk4 HK4 hOB hlen
  go_wp2_with (at_builtin; refine wpList_append_lies _ rfl _ _ 46 rfl w.heap.size 22 i0 (.pointer none) 1 8 Tryz.underlying46 hi0 hz0 hz1 hz2 rfl (by decide) _ _ _ rfl (HOWN.out.alloc _) ⟨w4.heap.size, 0, none⟩ 1 1 [nPtr p4] rfl rfl (one_cells w4 p4 _ rfl) (one_one p4) (by decide) (by unfold maxLen; omega) (by omega) (by simp; omega) (w4.heap.size + 1) (by simp) ?_)
  intro g cap w5 hown' hgrow hg _; have HB5 := hide (((Below.refl w.heap.size w4).alloc hsz (.cells #[nPtr p4] 22)).grown hgrow (by simp; omega) (fun k hk => (unhide HOB k hk).2))
  have HA5 := hide ((HA4.out.alloc hsz (.cells #[nPtr p4] 22)).grown hgrow (by simp; omega) (fun k hk => (unhide HOB k hk).2))
  have HP5 : Hid (∃ j, Ps c w5 j er (pl : Int)) := by
   obtain ⟨j2, hp⟩ := unhide HP4; exact ⟨j2, hp.ap HB5.out HLO.out⟩
  have HZ5 : Hid (RowZ w.heap.size w5 (.slice (some ⟨g, 0, none⟩) (acc.length + 1) cap)) := ⟨ps ++ [p4], by have := unhide HLEN; simp; omega, by have hl := unhide HLEN; rw [List.length_append, List.length_singleton, hl, List.map_append]; exact hown'⟩
  clear hown' hgrow hg HKK HOWN; go_wp2_with fail
  go_roundg k
  case measure => omega
  case rel => exact Or.inr ⟨er, pl, HQQ.out, he, HP5.out, HA5.out, HZ5.out⟩
 ) : G := h
theorem zbba {G : Prop} (h : G := by
  obtain ⟨ps, hown, hk4, hkt⟩ := unhide HN4; have hlen := NAts.length _ _ hk4; have hOB := own_lt hown; rw [hlen] at hown; have HOWN := hide hown; have HLEN := hide hlen; have HKK := hide hkt; have hsz := HA4.out.size
  have HOB := hide hOB; clear hown hk4 hkt HK4 HN4 hOB hlen
  go_wp2_with (at_builtin; refine wpList_append_lies _ rfl _ _ 46 rfl w.heap.size 22 i0 (.pointer none) 1 8 Tryz.underlying46 hi0 hz0 hz1 hz2 rfl (by decide) _ _ _ rfl (HOWN.out.alloc _) ⟨w4.heap.size, 0, none⟩ 1 1 [nPtr p4] rfl rfl (one_cells w4 p4 _ rfl) (one_one p4) (by decide) (by unfold maxLen; omega) (by omega) (by simp; omega) (w4.heap.size + 1) (by simp) ?_)
  intro g cap w5 hown' hgrow hg _; have HB5 := hide (((Below.refl w.heap.size w4).alloc hsz (.cells #[nPtr p4] 22)).grown hgrow (by simp; omega) (fun k hk => (unhide HOB k hk).2))
  have HA5 := hide ((HA4.out.alloc hsz (.cells #[nPtr p4] 22)).grown hgrow (by simp; omega) (fun k hk => (unhide HOB k hk).2))
  have HK5 : Hid (KV w.heap.size w5 (acc ++ [t]) (.slice (some ⟨g, 0, none⟩) (acc.length + 1) cap)) := kv_push HKK.out (by rw [List.map_append]; exact hown') (by simp [HLEN.out]) hgrow hg
  have HP5 := hide (HP4.out.ap HB5.out HLO.out); have HKW5 := hide (HPC.out.kept _ _ _ HKW4.out HB5.out HLB.out); clear hown' hgrow hg HKK HOWN; go_wp2_with fail
  go_roundg k
  case measure => omega
  case rel => exact Or.inl ⟨acc ++ [t], j2, HQQ.out, HK5.out, HP5.out, HA5.out, by have hh := unhide HLE8; simp; omega, HKW5.out⟩
 ) : G := h
theorem zbbb {G : Prop} (h : G := by
  go_simp; refine hK2 _ _ ?_; clear hK2 K2; refine wpAny_ready (rs := [5]) (by kernel_rfl) (by simp) ?_; refine AllReady.cons rfl (fun K2 hK2 => ?_) AllReady.nil
  refine step_append_lies _ (by rfl) _ _ 161 (by rfl) (w.heap.size + 1) 167 i0 noTok 4 40 Tryz.underlying161 hi hz0 hz1 hz2 rfl (by decide) v acc.length _ (by rfl) (HI0.out.own.alloc (.cells #[.int .i64 6, .string ⟨#[]⟩, .int .i64 0, .int .i64 (s.size : Int)] 167)) ⟨W0.heap.size, 0, none⟩ 1 1 [.int .i64 6, .string ⟨#[]⟩, .int .i64 0, .int .i64 (s.size : Int)] (by rfl) (by rfl) (new4_cells _ _ _ _ _) (new4_one _ _ _ _) (by omega) (by unfold maxLen; omega) (by omega) (by have := HI0.out.size; simp; omega) _ rfl ?_
  intro g cap w5 hown' hgrow _ _; refine hK2 _ _ ?_; clear hK2 K2; have hI5 := HI0.out.app (t := (Tk.mk 6 ⟨#[]⟩ 0 s.size)) _ hown' hgrow; have HI5 := hide hI5; have hL5 := hI5.lists HL.out
  obtain ⟨p0, p1, q0, q1⟩ := hI5.cells; have l0 := hL5.f0; have l1 := hL5.f1; clear hown' hgrow hI5 hL5; refine wt 7 (.slice (some ⟨g, 0, none⟩) (acc.length + 1) cap) ?_; exact zcay
 ) : G := h
theorem zbbc {G : Prop} (h : G := by
  refine wh 4 (rPtr c) HR0.out.drew ?_; refine wq1 5 fun K hK => ?_; go_simp; refine cm (fixed_any c _ i d HR0.out.drew) ?_; rintro e wq ⟨rfl, hbq⟩; have HRq := hide (HR0.out.drew.later hbq)
  have HAq := hide (HA0.out.next (Ap.of ((Below.refl _ _).drew.trans hbq))); clear hbq; refine hK.out _ _ HRq.out (fun _ => ?_); clear hK K
  refine wg 6 (.tuple #[.func (.func f) #[.pointer (some ⟨c.R, 0, none⟩)] #[], .bool true]) rfl (Or.inl ⟨by kernel_rfl, fun W hW => by have hh := HL.out W hW; go_simp⟩) HRq.out ?_
  refine wh 7 (.tuple #[.func (.func f) #[.pointer (some ⟨c.R, 0, none⟩)] #[], .bool true]) HRq.out ?_; refine wh 8 (.func (.func f) #[.pointer (some ⟨c.R, 0, none⟩)] #[]) HRq.out ?_; refine wh 9 (.bool true) HRq.out ?_
  refine wh 10 (.func (.func f) #[.pointer (some ⟨c.R, 0, none⟩)] #[]) HRq.out ?_; refine wh 11 (.bool true) HRq.out ?_; refine wpAnyH_done (by kernel_rfl) ?_ _; go_simp; have HC : Hid _ := unhide HP wq HRq.out
  go_wp2_with fail; refine cm HC.out ?_; intro e w2 hp
  cases r with
  | out => exact absurd rfl HO.out
  | bad er p =>
   obtain ⟨rfl, ha⟩ := hp; exact ⟨rfl, ppBad rfl (HAq.out.next ha)⟩
  | ok x j =>
   obtain ⟨⟨v, rfl, hv⟩, hrd, ha⟩ := hp; have HV := hide (NV.mono hv HAq.out.size); have HR2 := hide hrd; have HA2 := hide (HAq.out.next ha); clear hv hrd ha; go_wp2_with fail; go_ret; exact ppOk rfl HV.out HR2.out HA2.out
 ) : G := h
theorem zbbd {G : Prop} (h : G := by
  have HNN := hide hn; clear hn; have HE := hide he; clear he; go_enter Tryz.func159, Tryz.ntmps159; go_wp2_with fail; refine (digit_any _).mono ?_; rintro e1 w1 ⟨x, rfl, hx, hbel⟩; obtain ⟨hc, hf⟩ := bcell hbel
  have HBEL := hide hbel; have HX := hide hx; clear hx hbel; go_wp2_with fail; have hpast := past_any s k x digB w1 (by unfold maxLen; omega) (by omega) HX.out
  rw [HE.out] at hpast; refine hpast.mono ?_; clear hpast; rintro e2 w2 ⟨rfl, rfl⟩; go_wp2_with fail; have hds : ∀ i, (hi : i < (s.extract k e).size) → digB ((s.extract k e)[i].toNat : Int) = true := fun i hi => by
   exact zcbm
  have hsz := extract_size s k e (by omega) hes; refine (atoi_any (s.extract k e) w2 (by omega) (by omega) hds).mono ?_; rw [HNN.out]; rintro e3 w3 ⟨rfl, hbel3⟩; have hbelA := HBEL.out.trans (hbel3.mono HBEL.out.size)
  clear hc hf HBEL; obtain ⟨hc, hf⟩ := bcell hbelA; have HBEL := hide hbelA; clear hbelA hbel3 hds hsz; go_wp2_with fail
  exact bodyPost_ret (v := .tuple #[.agg #[.int .i64 3, .string ⟨#[]⟩, .int .i64 n, .int .i64 (k : Int)], .int .i64 (e : Int), .nilIface]) (by simp [results, Tryz.results159, go_sem, hc]) rfl ⟨rfl, good_end HBEL.out _ _ _ _⟩
 ) : G := h
theorem zbbe {G : Prop} (h : G := by
  go_enter Tryz.func185, Tryz.ntmps185; go_wp2_with fail
  go_region
  go_wp2_with fail; refine cm (HC.out _) ?_; rintro e w1 ⟨rfl, rfl⟩; clear HC; go_wp2_with fail; go_ret; exact ⟨rfl, ((Below.refl _ _).alloc (Nat.le_refl _) _).drew⟩
 ) : G := h
theorem zbbf {G : Prop} (h : G := by
  exact zdah
 ) : G := h
theorem zbbg {G : Prop} (h : G := by
  exact zcbl
 ) : G := h
theorem zbbh {G : Prop} (h : G := by
  go_wp2_with fail; refine (fail_any _ _ _).mono ?_; rintro e4 w4 ⟨b, rfl, hb, hlb, hbel2⟩; have hbel := HBEL.out.trans (hbel2.mono HBEL.out.size); have hlb2 := Nat.le_trans HBEL.out.size hlb; clear hc hf
  obtain ⟨hc, hf⟩ := bcell hbel; have HB := hide hb; have HBEL2 := hide hbel; clear hb hbel hbel2 hlb; go_wp2_with fail
  exact bodyPost_ret (v := .tuple #[noTok, .int .i64 0, .iface 144 (.pointer (some ⟨b, 0, none⟩))]) (by simp [results, Tryz.results159, go_sem, hc]) rfl ⟨b, rfl, bad_end HBEL2.out hlb2 HB.out _ _ _ _⟩
 ) : G := h
theorem zbbi {G : Prop} (h : G := by
  intro u hu; simp only [List.mem_cons, List.not_mem_nil, or_false] at hu
  rcases hu with rfl | rfl | rfl | rfl <;> rfl
 ) : G := h
theorem zbbj {G : Prop} (h : G := by
  have HC := hide (must_any c tSemi (w3.setCell ⟨p0, 3, none⟩ (.slice (some ⟨g, 0, none⟩) (t0.kids.length + 1) cap)) jx d HM2.out (by decide)); rw [hr] at HC HS; simp only [bind_bad] at HS; clear hr; go_wp2_with fail
  refine cm HC.out ?_; intro e w' hp; obtain ⟨rfl, ha⟩ := hp; exact ⟨rfl, ppBad HS.out.symm (HM3.out.next ha)⟩
 ) : G := h
theorem zbbk {G : Prop} (h : G := by
  exact zcav
 ) : G := h
theorem zbbl {G : Prop} (h : G := by
  obtain ⟨hc, hf⟩ := bcell hbelA; have HBELA := hide hbelA; have HBB := hide hb; clear hbelA hbel5 hb hlb; go_wp2_with fail
  exact bodyPost_ret (v := .tuple #[noTok, .int .i64 0, .iface 144 (.pointer (some ⟨b, 0, none⟩))]) (by simp [results, Tryz.results100, go_sem, hc]) rfl ⟨b, rfl, bad_end HBELA.out hlb2 HBB.out _ _ _ _⟩
 ) : G := h
theorem zbbm {G : Prop} (h : G := by
  clear hp3 ha3 HC3; go_wp2_with fail; go_ret; exact ⟨⟨_, rfl, _, rfl⟩, ⟨j3, (HP3.out.alloc _).alloc _⟩, he, (HA3.out.alloc HA3.out.size _).alloc (by have := HA3.out.size; simp; omega) _⟩
 ) : G := h
theorem zbbn {G : Prop} (h : G := by
  obtain ⟨hc, hf⟩ := bcell hbelA; have HBELA := hide hbelA; clear hbelA hb5; go_wp2_with fail
  exact bodyPost_ret (v := .tuple #[.agg #[.int .i64 kd, .string tx, .int .i64 n, .int .i64 (k : Int)], .int .i64 (e : Int), .nilIface]) (by simp [results, Tryz.results100, go_sem, hc]) rfl ⟨rfl, good_end HBELA.out _ _ _ _⟩
 ) : G := h
theorem zbbo {G : Prop} (h : G := by
  obtain ⟨o, h1, h2⟩ := find_ents s l 0 0; have h9 := Tryz.underlying9; have h3 : (Instr.findKey 9 (.string s) (mapOf l).toList).run Tryz.prog W = .ok o W := by
   unfold Instr.findKey; rw [Sem.run_bind, run_underlying h9 W]; simp only [Result.andThen_ok, mapOf]; rw [h1]; rfl
  unfold Instr.lookup; rw [Sem.run_bind, run_underlying hT W]; have hck : ∀ b, (Instr.checkKey b 10000 9 (.string s)).run Tryz.prog W = .ok () W := by
   intro b; rw [Instr.checkKey, Sem.run_bind, run_underlying h9 W]; rfl
  have hg : (getObj m).run Tryz.prog W = .ok (.map (mapOf l) k) W := by simp [getObj, Sem.run, hm]
  exact zcaz
 ) : G := h
theorem zbbp {G : Prop} (h : G := by
  by_cases h1 : s = tVar
  ·
   subst h1; decide +kernel
  by_cases h2 : s = tLet
  ·
   subst h2; decide +kernel
  by_cases h3 : s = tConst
  ·
   subst h3; decide +kernel
  simp [look2, dcs, h1, h2, h3]
 ) : G := h
theorem zbbq {G : Prop} (h : G := by
  have nb := (ha2.block _ (lt_of_heap HNB.out) (by have := unhide HLT; omega)).trans HNB.out
  obtain ⟨c0, c1, c2, c3, cf⟩ := node_cells nb; have cf3 := cf 3; have hnl := lt_of_heap nb; have hA := HA0.out.next ha2
  have HB : Hid (Below w.heap.size wv ((wv.setCell ⟨w.heap.size, 3, none⟩ (.slice (some ⟨wv.heap.size, 0, none⟩) 2 2)).alloc (.cells #[nPtr q, nPtr q2] 22))) := ((Below.refl w.heap.size wv).setCell (p := ⟨w.heap.size, 3, none⟩) (Nat.le_refl _) _).alloc (by simp; omega) _
  have HA := hide (hA.trans (Ap.of HB.out)); have HP := hide (hp2.ap HB.out HLO.out); clear hp2 ha2 HC2 nb hA; have HC3 := hide (rskip_old c _ j2 er pl he tElse HP.out); go_wp2_with fail; refine cm HC3.out ?_
  rintro e wz ⟨rfl, hb⟩; have HA9 := hide (HA.out.next (Ap.of hb)); have HP9 := hide (HP.out.later hb); clear hb HC3 c0 c1 c2 c3 cf cf3 hnl; go_wp2_with fail; go_ret; exact ⟨⟨_, rfl, _, rfl⟩, ⟨j2, HP9.out⟩, he, HA9.out⟩
 ) : G := h
theorem zbbr {G : Prop} (h : G := by
  have hbb : w3.heap[p0]? = wd.heap[p0]? := (hgr3.block p0 (by simp; omega) (fun e => HOd.out.own e.symm)).trans (Below.heap_alloc wd _ p0 ecl)
  exact ⟨World.cell?_of_block (w := wd) hbb, World.frozen?_of_block (w := wd) hbb⟩
 ) : G := h
theorem zbbs {G : Prop} (h : G := by
  refine wpAnyH_done (by kernel_rfl) ?_ _; go_simp; go_wp2_with fail
  exact bodyPost_ret (v := .tuple #[.agg #[.string ⟨#[]⟩, .int .i64 0, .int .i64 0, .int .i64 0], .bool false]) (by simp [results, Tryz.results293, go_sem, q0, q1, q2, q3]) rfl ⟨rfl, below4 HW2.out (Nat.le_refl _) _ _ _ _⟩
 ) : G := h
theorem zbbt {G : Prop} (h : G := by
  have HC := hide (deepV hF wy.drew d (j1 + 1) HRy.out.drew (by rw [hr]; nofun))
  rw [hr] at HC HS; simp only [bind_bad] at HS; clear hr; go_wp2_with fail; refine wp_region_any (by kernel_rfl) ?_; change wpAny _ _ _ _ _ _ _ (World.drew _); refine wt 0 (nPtr p0) ?_; refine wt 1 (nPtr p0) ?_
  refine wt 2 (nPtr p0) ?_; refine wt 3 (.pointer (some ⟨p0, 3, none⟩)) ?_; refine wt 5 (rPtr c) ?_; refine wt 6 (rPtr c) ?_; refine wt 7 (.func (.func 243) #[rPtr c] #[]) ?_; refine wr2 4 8 (fun K hK => ?_) fun K hK => ?_
  ·
   go_simp; refine hK _ _ ?_; clear hK K; refine wr1 8 fun K hK => ?_; exact zccd
  ·
   exact zccd
 ) : G := h
theorem zbbu {G : Prop} (h : G := by
  have HC := hide (deepV hF wm d (j1 + 1) HRm.out (by rw [hr]; nofun))
  rw [hr] at HC HS; simp only [bind_ok] at HS; clear hr; go_wp2_with fail; refine cm HC.out ?_; intro e w2 hp; obtain ⟨⟨v2, rfl, p2, rfl, hn2⟩, hrd, ha⟩ := hp; clear HC; have HA2 := hide (HAm.out.next ha)
  have HR2 := hide hrd; replace HN1 := hide (nats_pair HN1.out ha HLT.out HAm.out.size hn2); clear hn2; clear hrd ha HAm HRm
  have HC := hide (node_any 24 noText (.slice (some ⟨w2.heap.size, 0, none⟩) 2 2) (w2.alloc (.cells #[nPtr p1, nPtr p2] 22)) ⟨_, _, _, rfl⟩); go_wp2_with fail; refine cm HC.out ?_; rintro e wn ⟨rfl, rfl⟩; clear HC
  go_wp2_with fail; go_ret; obtain ⟨m1, m2, m3⟩ := made HR2.out HA2.out HN1.out (by simp [maxLen]) #[nPtr p1, nPtr p2] rfl 2 rfl 24 noText (w2.heap.size + 1) rfl; exact ppOk HS.out.symm m1.nv m2 m3
 ) : G := h
theorem zbbv {G : Prop} (h : G := by
  rw [hr2] at hp HQ2; have hq : r = .bad er pl := unhide HQ2; subst hq; obtain ⟨⟨v, rfl, rfl⟩, hp2, he, ha2⟩ := hp; have HP2 := hide hp2; have HA2 := hide (HA.out.next ha2); clear hp2 ha2 HC2 hr2; go_wp2_with fail; go_ret
  exact ⟨⟨_, rfl, _, rfl⟩, HP2.out, he, HA2.out⟩
 ) : G := h
theorem zbbw {G : Prop} (h : G := by
  have HFF := hide (fits_ways s (tkA c.l j).tx); rw [if_neg (fun h => h5 h.1)] at HQ; have b5 : ((tkA c.l j).kd != 5) = true := bne_iff_ne.2 h5
  rcases unhide HFF with ⟨_, b1⟩ | ⟨_, b1, b2, b3⟩ | ⟨_, b1, b2, b3, b4⟩ | ⟨_, b1, b2⟩ | ⟨_, b1, b2, b3, b4⟩
  all_goals
   have hq : r = .ok t j := HQ.out.symm; subst hq; clear HQ h5 HFF HPC HNX HO HK HSO
   generalize tkA c.l j = tk at *
   go_wp2_with fail; refine cm HC1.out ?_; rintro e w2 ⟨rfl, rfl⟩; clear HC1; go_wp2_with fail
   go_region
   go_wp2_with fail
   go_region
   go_wp2_with fail; go_ret
   exact ⟨⟨_, rfl, q, rfl, nv_at (NV.later ⟨q, rfl, HN.out⟩ (((Ap.refl c.P w2.heap.size w2).alloc (Nat.le_refl _) _).drew.drew) HLT.out)⟩, (HPS.out.alloc _).drew.drew, (HAP.out.alloc HAP.out.size _).drew.drew⟩
 ) : G := h
theorem zbbx {G : Prop} (h : G := by
  subst hq; obtain ⟨⟨v, rfl, rfl⟩, hp2, ha2⟩ := hp; have HP2 := hide hp2; have HA2 := hide (HA.out.next ha2); have HN2 := hide (NV.later HN.out ha2 HLT.out); clear hp2 ha2 HC2 hr2; go_wp2_with fail; go_ret
  exact ⟨⟨_, rfl, HN2.out⟩, HP2.out, HA2.out⟩
 ) : G := h
theorem zbby {G : Prop} (h : G := by
  rw [hr] at HC HS; simp only [bind_bad] at HS; clear hr; go_wp2_with fail; refine cm HC.out ?_; intro e w' hp; obtain ⟨rfl, ha⟩ := hp; exact ⟨rfl, ppBad HS.out.symm (HA2.out.next ha)⟩
 ) : G := h
theorem zbbz {G : Prop} (h : G := by
  rw [hr] at HC HS; simp only [bind_bad] at HS; clear hr; go_wp2_with fail; refine cm HC.out ?_; intro e w' hp; obtain ⟨rfl, ha⟩ := hp; exact ⟨rfl, ppBad HS.out.symm (HA1.out.next ha)⟩
 ) : G := h
theorem zbca {G : Prop} (h : G := by
  go_wp2_with fail; refine cm HC.out ?_; rintro e w6 ⟨⟨u6, rfl, hr6⟩, hb6⟩; obtain ⟨a6, c6, rfl⟩ := srow_form hr6; have HR6 := hide hr6; have HB6 := hide (HB.out.trans (hb6.mono HB.out.size)); exact zcbw
 ) : G := h
theorem zbcb {G : Prop} (h : G := by
  go_wp2_with fail; refine cm HC5.out ?_; intro e w4 hp
  cases r with
  | out => exact absurd rfl HO.out
  | bad er pl =>
   obtain ⟨⟨v, rfl, q, rfl⟩, hp2, he, ha⟩ := hp; have H2 := hide hp2; have H3 := hide (HA3.out.next ha); clear hp2 ha HC5; exact zcbz
  | ok t j =>
   obtain ⟨⟨v, rfl, q, rfl, hn⟩, hp2, ha⟩ := hp; have H1 : Hid (NAt (fun b => w.heap.size ≤ b) w4 t q) := NAt.mono (fun b hb _ => Nat.le_trans HA3.out.size hb) _ _ hn; have H2 := hide hp2; have H3 := hide (HA3.out.next ha)
   clear hn hp2 ha HC5; exact zcbx
 ) : G := h
theorem zbcc {G : Prop} (h : G := by
  clear h hk; go_enter Tryz.func312, Tryz.ntmps312; have HC := hide (token_any c w i d HR0.out); unfold tkV at HC; have hfl := fldKind (tkA c.l i); go_wp2_with fail; refine cm HC.out ?_; rintro e wt ⟨rfl, hbt⟩; clear HC
  have HRt := hide (HR0.out.later hbt); have HBt := hide hbt; clear hbt; go_wp2_with fail; go_ret; exact ⟨rfl, HBt.out⟩
 ) : G := h
theorem zbcd {G : Prop} (h : G := by
  have h1 := unhide HQ; rw [hb0, bind_ok] at h1; unfold catchP at h1; rw [if_pos hc0] at h1; rw [h1]
  cases mustP c.l tOpen (j + 1) with
  | out => rfl
  | bad er pl => rfl
  | ok x1 k1 =>
   simp only [bind_ok]
   cases nameP c.l k1 with
   | out => rfl
   | bad er pl => rfl
   | ok x2 k2 =>
    simp only [bind_ok]
    cases mustP c.l tShut k2 with
    | out => rfl
    | bad er pl => rfl
    | ok x3 k3 =>
     simp only [bind_ok]
     cases blockP c.l F d k3 with
     | out => rfl
     | bad er pl => rfl
     | ok x4 k4 =>
      simp only [bind_ok]
      cases finallyP c.l F d k4 with
      | out => rfl
      | bad er pl => rfl
      | ok x5 k5 =>
       simp only [bind_ok]; rw [if_neg (by simp)]; rfl
 ) : G := h
theorem zbce {G : Prop} (h : G := by
  have HA := hide (hA.trans (Ap.of HB.out)); have HP := hide (hp1.ap HB.out HLO.out); have HC2 := hide (rmust_old c _ j er pl he tSemi HP.out); clear hp1 ha HC nb hA; go_wp2_with fail; refine cm HC2.out ?_
  rintro e wz ⟨rfl, rfl⟩; clear HC2; go_wp2_with fail; go_ret; exact ⟨⟨_, rfl, _, rfl⟩, ⟨j, HP.out⟩, he, HA.out⟩
 ) : G := h
theorem zbcf {G : Prop} (h : G := by
  first | omega | (simp [ar, need] <;> omega) | (simp [ar, need] at * <;> omega)
 ) : G := h
theorem zbcg {G : Prop} (h : G := by
  refine hK _ _ ?_; clear hK K; refine wr2 4 7 (fun K hK => ?_) fun K hK => ?_
  ·
   go_simp; refine hK _ _ ?_; clear hK K; refine wr1 7 fun K hK => ?_; exact zcbo
  ·
   go_simp; refine hK _ _ ?_; clear hK K; refine wr1 4 fun K hK => ?_; exact zcbo
 ) : G := h
theorem zbch {G : Prop} (h : G := by
  have HC' := hide (HC.out _ hr.symm (by nofun)); rw [hr] at HS; have hq : r = .bad er pl := unhide HS; subst hq; clear HC HPC hr; go_enter Tryz.func254, Tryz.ntmps254; go_wp2_with fail; refine cm HC'.out ?_
  rintro e w1 ⟨⟨v, rfl, q, rfl⟩, ⟨j, hp1⟩, he, ha1⟩; have HC1 := hide (rok_old he hp1); have HP1 := hide hp1; have HA1 := hide ha1; clear hp1 ha1 HC'; go_wp2_with fail; refine wp_loop_rounds 1 ?_; rw [rounds_succ]
  go_wp2_with fail; refine cm HC1.out ?_; rintro e w2 ⟨rfl, rfl⟩; clear HC1; exact zcbt
 ) : G := h
theorem zbci {G : Prop} (h : G := by
  have HC := hide (must_any c tSemi (w3.setCell ⟨p0, 3, none⟩ (.slice (some ⟨g, 0, none⟩) (t0.kids.length + 1) cap)) jx d HM2.out (by decide)); rw [hr] at HC HS; simp only [bind_ok] at HS; clear hr; go_wp2_with fail
  refine cm HC.out ?_; intro e w2 hp; obtain ⟨⟨v2, rfl, rfl⟩, hrd, ha⟩ := hp; clear HC; have HA2 := hide (HM3.out.next ha); have HR2 := hide hrd; replace HM1 := hide (EV.later HM1.out ha HLT.out); clear hrd ha HM3 HM2
  have ht0 := unhide HT0; subst ht0; go_wp2_with fail; go_ret; exact ppOk HS.out.symm HM1.out.nv HR2.out HA2.out
 ) : G := h
theorem zbcj {G : Prop} (h : G := by
  have HC := hide (must_any c tSemi (w3.setCell ⟨p0, 3, none⟩ (.slice (some ⟨g, 0, none⟩) (t0.kids.length + 1) cap)) jx d HM2.out (by decide)); rw [hr] at HC HS; simp only [bind_ok] at HS; clear hr; go_wp2_with fail
  refine cm HC.out ?_; intro e w1 hp; obtain ⟨⟨v1, rfl, rfl⟩, hrd, ha⟩ := hp; clear HC; have HA1 := hide (HM3.out.next ha); have HR1 := hide hrd; replace HM1 := hide (EV.later HM1.out ha HLT.out); clear hrd ha HM3 HM2
  have ht0 := unhide HT0; subst ht0; go_wp2_with fail; go_ret; exact ppOk HS.out.symm HM1.out.nv HR1.out HA1.out
 ) : G := h
theorem zbck {G : Prop} (h : G := by
  go_wp2_with fail; go_ret; exact ⟨⟨_, rfl, _, rfl⟩, HP2.out, he, HA2.out⟩
 ) : G := h
theorem zbcl {G : Prop} (h : G := by
  go_wp2_with fail; refine cm HC.out ?_; intro e w1 hp
  cases r with
  | out => exact absurd rfl HO.out
  | bad er pl =>
   obtain ⟨⟨v, rfl, q, rfl⟩, hp1, he, ha⟩ := hp; have HP := hide hp1; have HA := hide ha; exact zcbr
  | ok t j =>
   obtain ⟨⟨v, rfl, q, rfl, hn⟩, hp1, ha⟩ := hp; have HP := hide hp1; have HA := hide ha; have HN := hide hn; exact zcbn
 ) : G := h
theorem zbcm {G : Prop} (h : G := by
  go_wp2_with fail; exact bodyPost_ret (v := .tuple #[.slice none 0 0, .agg #[.int .i64 3, .int .i64 (j : Int)]]) (by simp [results, go_sem, rc0, rc1]) rfl ⟨rfl, HI.out.out _ _⟩
 ) : G := h
theorem zbcn {G : Prop} (h : G := by
  refine hK _ _ ?_; clear hK K; refine wr1 9 fun K hK => ?_; go_simp; refine hK _ _ ?_; clear hK K; refine wt 10 (.agg #[.int .i64 13, .string s, .int .i64 0, .slice (some ⟨wc.heap.size, 0, none⟩) 1 1]) ?_
  refine wr1 11 fun K hK => ?_; go_simp; refine hK _ _ ?_; clear hK K; refine wr1 12 fun K hK => ?_; go_simp; refine hK _ _ ?_; clear hK K; refine wpAny_same (listed' := tf 13 4) (by kernel_rfl) rfl ?_
  exact CONT wc pc HHY.out
 ) : G := h
theorem zbco {G : Prop} (h : G := by
  clear ht; go_wp2_with fail; refine cm HC4.out ?_; rintro e w4 ⟨⟨v', rfl, q4, rfl, hn4⟩, hp4, ha4⟩; have HP5 := hide hp4; have HA5 := hide (HA4.out.next ha4)
  have HN5 := hide (nats_two HN4.out ha4 HLT.out HA4.out.size hn4); clear hp4 ha4 hn4 HC4 kk h1 f1; go_wp2_with fail; go_ret
  exact ⟨⟨_, rfl, (nv_row HN5.out HA5.out.size (by simp [maxLen]) #[nPtr q, nPtr q4] rfl 2 rfl 24 noText 0 _ rfl).nv⟩, (HP5.out.alloc _).alloc _, (HA5.out.alloc HA5.out.size _).alloc (by have := HA5.out.size; simp; omega) _⟩
 ) : G := h
theorem zbcp {G : Prop} (h : G := by
  go_wp2_with fail; refine cm HC1.out ?_; rintro e w2 ⟨rfl, rfl⟩; clear HC1; exact zcbt
 ) : G := h
theorem zbcq {G : Prop} (h : G := by
  have := look_vals c (fx c.l i) W hW.base.vals; rw [hq] at this; exact this
 ) : G := h
theorem zbcr {G : Prop} (h : G := by
  go_wp2_with fail; refine cm HC.out ?_; rintro e wn ⟨rfl, rfl⟩; clear HC; go_wp2_with fail; go_ret; obtain ⟨m1, m2, m3⟩ := unhide HX; exact ppOk rfl m1 m2 m3
 ) : G := h
theorem zbcs {G : Prop} (h : G := by
  have hsz := extract_size s j e (by omega) hes; refine (atoi_any (s.extract j e) _ (by omega) (by omega) hds).mono ?_; rw [HNN.out]; rintro e3 w3 ⟨rfl, hbel3⟩; have HI3 := hide (HI.out.later hbel3); clear rc0 rc1 rf0 rf1
  obtain ⟨rc0, rc1, rf0, rf1⟩ := HI3.out.cells; clear hbel3 hds hsz; go_wp2_with fail
  exact bodyPost_ret (v := .tuple #[.slice none 0 0, .agg #[.int .i64 2, .int .i64 (j : Int)]]) (by simp [results, go_sem, rc0, rc1]) rfl ⟨rfl, HI3.out.out _ _⟩
 ) : G := h
theorem zbct {G : Prop} (h : G := by
  have HC := hide (must_any c tSemi wy j1 d HRy.out (by decide)); rw [hr] at HC HS; simp only [bind_ok] at HS; clear hr; go_wp2_with fail; refine cm HC.out ?_; intro e w2 hp; obtain ⟨⟨v2, rfl, rfl⟩, hrd, ha⟩ := hp
  clear HC; have HA2 := hide (HAy.out.next ha); have HR2 := hide hrd; replace HM1 := hide (EV.later HM1.out ha HLT.out); clear hrd ha HAy HRy; have ht0 := unhide HT0; subst ht0; go_wp2_with fail; go_ret
  exact ppOk HS.out.symm HM1.out.nv HR2.out HA2.out
 ) : G := h
theorem zbcu {G : Prop} (h : G := by
  have HR2 := hide hr2; have HW2 := hide hb2; rw [← hW2]; clear hW2 hr2 hb2; refine hK.out _ _ HR2.out (fun _ => ?_); clear hK K; refine wh 12 (.bool true) HR2.out ?_; refine wpAnyH_done (by kernel_rfl) ?_ _; go_simp
  go_wp2_with fail
  exact bodyPost_ret (v := .tuple #[.agg #[.string x.tx, .int .i64 x.kd, .int .i64 x.parts, .int .i64 x.str], .bool true]) (by simp [results, Tryz.results293, go_sem, q0, q1, q2, q3]) rfl ⟨rfl, below4 HW2.out (Nat.le_refl _) _ _ _ _⟩
 ) : G := h
theorem zbcv {G : Prop} (h : G := by
  refine wt 13 (nPtr w.heap.size) ?_; refine wt 14 (.pointer (some ⟨w.heap.size, 3, none⟩)) ?_; refine wr1 15 fun K hK => ?_; go_simp; refine hK _ _ ?_; clear hK K gc3 gcf gcl; refine wpAny_done (by kernel_rfl) ?_ _
  go_simp; obtain ⟨jc, hpc⟩ := HHY.out.ps; have HPC := hide hpc; clear hpc; go_wp2_with fail; go_ret
  exact ⟨⟨_, rfl, _, rfl⟩, ⟨jc, HPC.out.ap (unhide (HBW _)) HLO.out⟩, HHY.out.he, HHY.out.ap.trans (Ap.of (unhide (HBW _)))⟩
 ) : G := h
theorem zbcw {G : Prop} (h : G := by
  go_wp2_with fail; refine cm HC.out ?_; rintro e w1 ⟨rfl, rfl⟩; clear HC; go_wp2_with fail; go_ret; exact ⟨⟨_, rfl, _, rfl⟩, ⟨i, HP.out.alloc _⟩, he, (Ap.refl c.P w1.heap.size w1).alloc (Nat.le_refl _) _⟩
 ) : G := h
theorem zbcx {G : Prop} (h : G := by
  go_simp; refine cm HC.out ?_; intro e w' hp; obtain ⟨rfl, ha⟩ := hp; exact ⟨rfl, ppBad HS.out.symm (HAn.out.drew.next ha)⟩
 ) : G := h
theorem zbcy {G : Prop} (h : G := by
  exact ((((((Ap.refl c.P w.heap.size w).setCell (p := ⟨c.P, 1, none⟩) (Or.inr rfl) _).alloc (by simp) _).alloc (by simp <;> omega) _).alloc (by simp <;> omega) _).alloc (by simp <;> omega) _).drew
 ) : G := h
theorem zbcz {G : Prop} (h : G := by
  rw [hr] at HC HS; simp only [bind_bad] at HS; clear hr; go_wp2_with fail; refine cm HC.out ?_; intro e w' hp; obtain ⟨rfl, ha⟩ := hp; exact ⟨rfl, ppBad HS.out.symm (HAq.out.next ha)⟩
 ) : G := h
theorem zbda {G : Prop} (h : G := by
  clear ht; go_wp2_with fail; refine cm HC4.out ?_; rintro e w4 ⟨⟨v, rfl, q4, rfl⟩, ⟨j4, hp4⟩, he, ha4⟩; have HP5 := hide hp4; have HA5 := hide (HA4.out.next ha4); clear hp4 ha4 HC4 kk h1 f1; go_wp2_with fail; go_ret
  exact ⟨⟨_, rfl, _, rfl⟩, ⟨j4, (HP5.out.alloc _).alloc _⟩, he, (HA5.out.alloc HA5.out.size _).alloc (by have := HA5.out.size; simp; omega) _⟩
 ) : G := h
theorem zbdb {G : Prop} (h : G := by
  rename_i h; exact Nx.ok (Nat.le_refl _) (next_lt hE hi (by rw [h]; decide))
 ) : G := h
theorem zbdc {G : Prop} (h : G := by
  refine ⟨ps, owns_stay (I := fun b => B ≤ b) (Stay.of_ap ha hR fun _ h => h) (fun g hg => (own_lt hr g hg).2) hr, NAts.mono (fun b hb _ => hb.1) _ _ h1, NAts.append (M := w.heap.size) _ _ (NAts.cons ?_ NAts.nil) h1⟩
  exact NAt.mono (fun b hb _ => ⟨⟨Nat.le_trans hB hb, fun e => by have := (hown b e).1; have : w.heap.size ≤ b := hb; omega⟩, hb⟩) _ _ hn
 ) : G := h
theorem zbdd {G : Prop} (h : G := by
  go_enter Tryz.func177, Tryz.ntmps177; go_wp2_with fail; go_ret; exact ⟨rfl, by rw [HC.out]; exact HE.out, Below.refl _ _⟩
 ) : G := h
theorem zbde {G : Prop} (h : G := by
  refine wt 13 (nPtr w.heap.size) ?_; refine wt 14 (.pointer (some ⟨w.heap.size, 3, none⟩)) ?_; refine wr1 15 fun K hK => ?_; go_simp; refine hK _ _ ?_; clear hK K gc3 gcf gcl; refine wpAny_done (by kernel_rfl) ?_ _
  go_simp; go_wp2_with fail; go_ret; exact ⟨⟨_, rfl, HEV.out.nv⟩, HHY.out.ps.ap (unhide (HBW _)) HLO.out, HHY.out.ap.trans (Ap.of (unhide (HBW _)))⟩
 ) : G := h
theorem zbdf {G : Prop} (h : G := by
  have h1 := hall e he hb; have h0 := (mem_ready.1 hr).1; rw [heq] at h1
  cases hx : listed[i]? with
  | none => simp [hx] at h1
  | some x => simp [hx] at h0 h1; rw [h0] at h1; cases h1
 ) : G := h
theorem zbdg {G : Prop} (h : G := by
  have _h1 := hL; have _h2 := hal; clear _h1 _h2; have HST := hide ((congrArg (fun p => toksR ws signsS s p acc) (pastN_go gapB s j hlt hgap)).trans he); have HI := hide hinv; clear he hinv hgap hL
  conv => arg 2; whnf
  unfold fr Q6; go_wp2_with fail; exact ⟨WI_mk (j + 1) acc v (by omega) (by omega) HST.out HI.out (by kernel_rfl), by simp [mu6, intOf]; omega⟩
 ) : G := h
theorem zbdh {G : Prop} (h : G := by
  cases h; first | omega | (simp [ar, need] <;> omega) | (simp [ar, need] at * <;> omega)
 ) : G := h
theorem zbdi {G : Prop} (h : G := by
  have HC := hide (rbraces_old c wm.drew jm _ _ (d : Int) false he HP.out.drew); clear he; go_wp2_with fail; exact CONTB wm s ⟨er, pl, HQB.out, HC.out, HOP.out, HA.out⟩
 ) : G := h
theorem zbdj {G : Prop} (h : G := by
  cases gk with
  | zero => exact absurd hq.symm HO.out
  | succ k => exact ⟨k, rfl⟩
 ) : G := h
theorem zbdk {G : Prop} (h : G := by
  go_wp2_with fail; refine cm HC.out ?_; rintro e w2 ⟨⟨u, rfl, hr⟩, hb2⟩; have HR := hide (owns_lower hr HBA.out.size); have HB2 := hide (HBA.out.trans (hb2.mono HBA.out.size)); obtain ⟨ua, uc, rfl⟩ := srow_form hr
  clear hr hb2 HC; go_wp2_with fail
  go_ret2
  exact ⟨⟨_, rfl, HR.out⟩, HB2.out⟩
 ) : G := h
theorem zbdl {G : Prop} (h : G := by
  have HA2 := hide (HA.out.next ha2); have HP3 := hide hp3; have HC3 := hide (rmust_old c w2 j2 er pl he tShut hp3); clear HC2 ha2 hp3; go_wp2_with fail; refine cm HC3.out ?_; rintro e w3 ⟨rfl, rfl⟩; clear HC3
  go_wp2_with fail; go_ret; exact ⟨⟨_, rfl, q, rfl⟩, ⟨_, HP3.out⟩, he, HA2.out⟩
 ) : G := h
theorem zbdm {G : Prop} (h : G := by
  go_enter Tryz.func112, Tryz.ntmps112; go_wp2_with fail; go_ret; exact ⟨by rw [HST.out]; rfl, rfl⟩
 ) : G := h
theorem zbdn {G : Prop} (h : G := by
  go_wp2_with fail; refine cm HC.out ?_; rintro e w1 ⟨⟨u, rfl, hr⟩, hb⟩; obtain ⟨ua, uc, rfl⟩ := hr.form; have HR := hide (hr.low HB.out.size); have HB1 := hide (HB.out.trans (hb.mono HB.out.size)); clear HC hr hb
  go_wp2_with fail; go_ret; exact ⟨⟨_, rfl, HR.out⟩, HB1.out⟩
 ) : G := h
theorem zbdo {G : Prop} (h : G := by
  intro v' w5 hown' hgrow _; have HI5 := hide (HI.out.app (t := Tk.mk 2 (s.extract j e) 0 j) _ hown' hgrow); clear hown' hgrow; go_wp2_with fail
  exact ⟨WI_mk e (acc ++ [Tk.mk 2 (s.extract j e) 0 j]) v' hes (by simp; omega) HST.out HI5.out (by kernel_rfl), by simp [mu6, intOf]; omega⟩
 ) : G := h
theorem zbdp {G : Prop} (h : G := by
  intro v' w5 hown' hgrow _; have HI5 := hide (HI.out.app (t := Tk.mk 1 (s.extract j e) 0 j) _ hown' hgrow); clear hown' hgrow; go_wp2_with fail
  exact ⟨WI_mk e (acc ++ [Tk.mk 1 (s.extract j e) 0 j]) v' hes (by simp; omega) HST.out HI5.out (by kernel_rfl), by simp [mu6, intOf]; omega⟩
 ) : G := h
theorem zbdq {G : Prop} (h : G := by
  go_wp2_with fail; refine (HLR.out.word (s.extract j e)).mono ?_; rw [HW.out]; rintro e3 w3 ⟨rfl, rfl⟩; go_wp2_with fail
  exact bodyPost_ret (v := .tuple #[.slice none 0 0, .agg #[.int .i64 4, .int .i64 (j : Int)]]) (by simp [results, go_sem, rc0, rc1]) rfl ⟨rfl, HI.out.out _ _⟩
 ) : G := h
theorem zbdr {G : Prop} (h : G := by
  have HC := hide (block_any hF hN w3 d j3 _ rfl (by rw [hr]; nofun) HR3.out)
  rw [hr] at HC HS; simp only [bind_bad] at HS; clear hr; go_wp2_with fail; refine cm HC.out ?_; intro e w' hp; obtain ⟨rfl, ha⟩ := hp; exact ⟨rfl, ppBad HS.out.symm (HA3.out.next ha)⟩
 ) : G := h
theorem zbds {G : Prop} (h : G := by
  intro b; rw [Instr.checkKey, Sem.run_bind, run_underlying h9 W]; rfl
 ) : G := h
theorem zbdt {G : Prop} (h : G := by
  have HC := hide (deepV hF wm d (j1 + 1) HRm.out (by rw [hr]; nofun))
  rw [hr] at HC HS; simp only [bind_bad] at HS; clear hr; go_wp2_with fail; refine cm HC.out ?_; intro e w' hp; obtain ⟨rfl, ha⟩ := hp; exact ⟨rfl, ppBad HS.out.symm (HAm.out.next ha)⟩
 ) : G := h
theorem zbdu {G : Prop} (h : G := by
  rw [hj] at h3; have h4 : (⟨g, 0, none⟩ : Addr).add j = ⟨g, j, none⟩ := by simp [Addr.add]; exact Eq.symm
  rw [h4]; exact h3
 ) : G := h
theorem zbdv {G : Prop} (h : G := by
  rintro e w1 ⟨rfl, hb⟩; have HB := hide hb; have HF := hide (fault_any c 3 w1 i d (HR.out.later hb)); clear hb; go_wp2_with fail; refine cm HF.out ?_; rintro e w2 ⟨rfl, hb2⟩
  exact ⟨rfl, ppBad rfl (Ap.of (HB.out.trans (hb2.mono HB.out.size)))⟩
 ) : G := h
theorem zbdw {G : Prop} (h : G := by
  have HC := hide (must_any c tSemi wy j1 d HRy.out (by decide)); rw [hr] at HC HS; simp only [bind_bad] at HS; clear hr; go_wp2_with fail; refine cm HC.out ?_; intro e w' hp; obtain ⟨rfl, ha⟩ := hp
  exact ⟨rfl, ppBad HS.out.symm (HAy.out.next ha)⟩
 ) : G := h
theorem zbdx {G : Prop} (h : G := by
  refine hK _ _ ?_; clear hK K; refine wr1 7 fun K hK => ?_; go_simp; refine hK _ _ ?_; clear hK K; refine wpAny_same (listed' := tf 8 4) (by kernel_rfl) rfl ?_; exact CONT wc pc HHY.out
 ) : G := h
theorem zbdy {G : Prop} (h : G := by
  intro t j h; cases h; rw [ill_mk, ills_nil]; first | omega | (simp [ar, need] <;> omega) | (simp [ar, need] at * <;> omega)
 ) : G := h
theorem zbdz {G : Prop} (h : G := by
  have h1 : Below w.heap.size w (RW w) := ((Below.refl _ _).alloc (Nat.le_refl _) _).alloc (by simp) _; have h2 : Below w.heap.size w w2 := h1.trans (HB2.out.mono (by omega))
  exact h2.trans ((ha.mono (B' := w.heap.size) (by omega)).below (by omega))
 ) : G := h
theorem zbea {G : Prop} (h : G := by
  go_wp2_with fail; refine cm HC.out ?_; rintro e w1 ⟨⟨u, rfl, hr⟩, hb⟩; obtain ⟨ua, uc, rfl⟩ := hr.form; have HR := hide hr; have HB := hide hb; clear HC hr hb; go_wp2_with fail; go_ret; exact ⟨⟨_, rfl, HR.out⟩, HB.out⟩
 ) : G := h
theorem zbeb {G : Prop} (h : G := by
  go_wp2_with fail; refine cm HG.out ?_; rintro e w2' ⟨rfl, rfl⟩; clear HG; go_wp2_with fail
  go_roundw
  case rel => exact ⟨k + 1, by omega, by go_num, HT2.out, by first | rfl | trivial⟩
  case measure => simp [intOf]; omega
 ) : G := h
theorem zbec {G : Prop} (h : G := by
  obtain ⟨ps, h1, h2⟩ := h; have hl := NLs.length _ _ h2; obtain ⟨g, cap, rfl, hc⟩ := row_open h1 (by omega); obtain ⟨hp, hn⟩ := NLs.get _ _ h2 k hk; exact ⟨g, cap, ps[k], by rw [hl], (own_lt h1 g rfl).1, hc k hp, hn⟩
 ) : G := h
theorem zbed {G : Prop} (h : G := by
  cases ad <;> rcases hown.2 with ⟨rfl, rfl⟩ | ⟨g, cap, cur, rfl, _, _, hnc, _⟩ <;>
   simp [Builtin.append_, run_underlying ht, sizeOf, typeInfo, Builtin.lenOf, Builtin.firstCells, loadCells, loadCellsFrom, storeCells, *]
 ) : G := h
theorem zbee {G : Prop} (h : G := by
  clear hno hk2; go_wp2_with fail; refine cm HC4.out ?_; intro e w4 hp; obtain ⟨⟨v, rfl, q, rfl⟩, hp4, he, ha4⟩ := id hp; have HH := hide (HD.out _ _ hp); clear hp hp4 ha4 HC4; go_wp2_with fail; go_ret; exact unhide HH
 ) : G := h
theorem zbef {G : Prop} (h : G := by
  have h1 : ((pre ++ y :: a.all) ++ z :: (Ad.alls z.ks ++ post))[(pre ++ y :: a.all).length]? = some z := by
   rw [List.getElem?_append_right (Nat.le_refl _)]; simp
  rw [← hs2] at h1; exact (List.getElem?_eq_some_iff.1 h1).2
 ) : G := h
theorem zbeg {G : Prop} (h : G := by
  rw [e]; have HV := hide hv; clear b1 b2 b3 hb h1 h2 hv; go_enter Tryz.func237, Tryz.ntmps237
  go_wp2
  go_ret2
  refine ⟨?_, rfl⟩
  show Ending.returned (.tuple #[.int .u8 (s[i].toNat : Int), .bool true]) = _
  rw [HV.out]; rfl
 ) : G := h
theorem zbeh {G : Prop} (h : G := by
  split at h
  ·
   cases h
  ·
   cases h; exact ⟨fun h => absurd h (by decide), fun h => absurd h (by decide)⟩
 ) : G := h
theorem zbei {G : Prop} (h : G := by
  obtain ⟨hl, h0 | ⟨g, cap, cur, hv, hge, hh, hr⟩⟩ := h
  ·
   exact ⟨hl, Or.inl h0⟩
  ·
   exact ⟨hl, Or.inr ⟨g, cap, cur, hv, hge, by rw [hb.block g (Array.getElem?_eq_some_iff.1 hh).1]; exact hh, hr⟩⟩
 ) : G := h
theorem zbej {G : Prop} (h : G := by
  intro t ht
  cases t with
  | mk kd tx nn ks => rw [count_mk] at ht; omega
 ) : G := h
theorem zbek {G : Prop} (h : G := by
  go_wp2_with fail; exact bodyPost_ret (v := .tuple #[.slice none 0 0, .agg #[.int .i64 3, .int .i64 (((q + 1 : Nat) : Int))]]) (by simp [results, Tryz.results109, go_sem, rc0, rc1]) rfl ⟨rfl, HI.out.out _ _⟩
 ) : G := h
theorem zbel {G : Prop} (h : G := by
  refine ⟨fun h => (by rw [h] at hr; cases hr), fun j hj => ?_⟩
  by_cases hji : j = i
  ·
   subst hji; exact hy.wpOp hi hS ⟨fun _ => hS, H⟩
  ·
   have hm := ready_mono hj hji; rw [H.1] at hm; cases hm
 ) : G := h
theorem zbem {G : Prop} (h : G := by
  split at h
  ·
   cases h; omega
  ·
   obtain ⟨u, i1, h1, h⟩ := binds h; have h2 := deep_cb (l := l) (hF.st _ _) u i1 h1; have h4 := ih _ _ _ _ h; rw [counts_app, counts_cons, counts_nil] at h4; omega
 ) : G := h
theorem zben {G : Prop} (h : G := by
  refine hK.out _ _ HR2.out (fun _ => ?_); clear hK K; refine wh 12 (.bool true) HR2.out ?_; refine wpAnyH_done (by kernel_rfl) ?_ _; go_simp; go_wp2_with fail; go_ret; exact ⟨ret_bool (by simp), HW2.out⟩
 ) : G := h
theorem zbeo {G : Prop} (h : G := by
  go_wp2_with fail; exact bodyPost_ret (v := .tuple #[.pointer none, .iface 144 (.pointer (some ⟨b, 0, none⟩))]) (by simp [results, Tryz.results14, go_sem]) rfl ⟨b, rfl, H1.out, H2.out, H3.out⟩
 ) : G := h
theorem zbep {G : Prop} (h : G := by
  obtain ⟨v, i1, h1, h⟩ := binds h; obtain ⟨_, i2, h2, h⟩ := binds h; cases h; have e1 := deep_cb (l := l) (hF.vl _ _) v _ h1; have e2 := must_eq h2; rw [count_mk, counts_cons, counts_nil]; omega
 ) : G := h
theorem zbeq {G : Prop} (h : G := by
  obtain ⟨_, _, _, h⟩ := bind_inv h; obtain ⟨_, _, _, h⟩ := bind_inv h
  cases h; exact hd_ne
 ) : G := h
theorem zber {G : Prop} (h : G := by
  rw [hr] at HC HS; simp only [bind_bad] at HS; clear hr; go_wp2_with fail; refine cm HC.out ?_; intro e w' hp; obtain ⟨rfl, ha⟩ := hp; exact ⟨rfl, ppBad HS.out.symm (HAk.out.next ha)⟩
 ) : G := h
theorem zbes {G : Prop} (h : G := by
  show _ = _
  rw [HBEL.out.block 6 (by simp; omega), Below.heap_alloc w _ 6 hlt]; exact unhide HG
 ) : G := h
theorem zbet {G : Prop} (h : G := by
  by_cases hjm : j = m
  ·
   subst hjm; exact hjun
  ·
   rw [getD_set_ne true hjm] at hun; exact hun
 ) : G := h
theorem zbeu {G : Prop} (h : G := by
  go_enter Tryz.func187, Tryz.ntmps187; go_wp2_with fail; refine cm HC.out ?_; rintro e w1 ⟨rfl, hb⟩; have HB := hide hb; clear HC hb; go_wp2_with fail; go_ret; exact ⟨rfl, HB.out⟩
 ) : G := h
theorem zbev {G : Prop} (h : G := by
  refine hK.out _ _ HR2.out (fun _ => ?_); clear hK K; refine wh 12 (.bool false) HR2.out ?_; refine wpAnyH_done (by kernel_rfl) ?_ _; go_simp; go_wp2_with fail; go_ret; exact ⟨rfl, HW2.out⟩
 ) : G := h
theorem zbew {G : Prop} (h : G := by
  split
  ·
   exact Imp.bind (deepP_imp (h.vl _ _)) fun _ _ => Imp.refl _
  ·
   exact Imp.refl _
 ) : G := h
theorem zbex {G : Prop} (h : G := by
  have hst := pastN_stop lodB s q hqs (by unfold lodB; rw [hl, hd]; rfl)
  exfalso; omega
 ) : G := h
theorem zbey {G : Prop} (h : G := by
  have h1 := counts_len a.tr.kids; have h2 := a.cnt_tr; have h3 : a.tr.count = 1 + Tr.counts a.tr.kids := by cases a.tr with | mk kd tx n ks => exact count_mk _ _ _ _
  omega
 ) : G := h
theorem zbez {G : Prop} (h : G := by
  have h0 := fx_lt hE hi ‹_› (by decide); exact Nx.bind (nameP_nx hE h0) fun s j h1 h2 => ((ih d _ j (by omega) h2).le (by omega)).imp fun h => ⟨h.1, by omega⟩
 ) : G := h
theorem zbfa {G : Prop} (h : G := by
  rw [ha.block _ (by omega) (by omega), HB2.out.block _ (by omega)]; have := heap_new (w.alloc (.cells #[.pointer none] 22)) (.cells #[.nilIface] 28); simpa using this
 ) : G := h
theorem zbfb {G : Prop} (h : G := by
  obtain ⟨u, ps, hb, hr, _, hk⟩ := NAt.opens2 h; obtain ⟨c0, c1, _, c3, _⟩ := node_cells hb; exact ⟨lt_of_heap hb, c0, c1, u, c3, ps, hr, NAts.nl _ _ hk⟩
 ) : G := h
theorem zbfc {G : Prop} (h : G := by
  obtain ⟨cur, hb, h1, h2, h3, h4⟩ := h.tokens; rw [cell_of hb, ← tks_get c.l i j hi hj, ← h4, List.getElem?_take_of_lt (by omega), Array.getElem?_toList]
 ) : G := h
theorem zbfd {G : Prop} (h : G := by
  rw [HRR.out] at HC; go_wp2_with fail; refine cm HC.out ?_; intro e w' hp; obtain ⟨rfl, ha⟩ := hp; exact ⟨rfl, ppBad HQ.out.symm (HA3.out.next ha)⟩
 ) : G := h
theorem zbfe {G : Prop} (h : G := by
  have := program_any (hF c hc) ⟨KK, fns_nx (by rw [hc]; exact hE) KK⟩ (fns_ok c.l KK) W _ rfl (by rw [hc, hr]; nofun) hrd
  rw [hc, hr] at this; exact this
 ) : G := h
theorem zbff {G : Prop} (h : G := by
  obtain ⟨hl, h0 | ⟨g, cap, cur, hv, hge, hr⟩⟩ := h
  ·
   exact ⟨hl, Or.inl h0⟩
  ·
   exact ⟨hl, Or.inr ⟨g, cap, cur, hv, by omega, hr⟩⟩
 ) : G := h
theorem zbfg {G : Prop} (h : G := by
  rcases Nat.lt_or_ge b w.heap.size with h1 | h1
  ·
   exact h1
  ·
   have h2 : w.heap[b]? = none := Array.getElem?_eq_none h1; simp [World.cell?, h2] at h
 ) : G := h
theorem zbfh {G : Prop} (h : G := by
  obtain ⟨ps, h1, h2⟩ := h; exact ⟨ps, owns_stay (I := fun _ => True) (Below.stay hb) (fun _ _ => trivial) h1, NLs.later (Below.stay hb) _ _ h2⟩
 ) : G := h
theorem zbfi {G : Prop} (h : G := by
  have b1 := unhide HB; have b2 := unhide HB2; have b3 := unhide HB3; exact (b1.trans (b2.mono b1.size)).trans (b3.mono (Nat.le_trans b1.size b2.size))
 ) : G := h
theorem zbfj {G : Prop} (h : G := by
  have : Tr.counts t.kids = Tr.counts (t.kids.take (k + 1)) + Tr.counts (t.kids.drop (k + 1)) := by rw [← counts_app, List.take_append_drop]
  omega
 ) : G := h
theorem zbfk {G : Prop} (h : G := by
  rw [hr] at HQ; simp only [bind_out] at HQ; exact absurd HQ.out.symm HO.out
 ) : G := h
theorem zbfl {G : Prop} (h : G := by
  go_wp2_with fail
  go_ret2
  exact ⟨⟨_, rfl, srow_nil _ _⟩, HB1.out⟩
 ) : G := h
theorem zbfm {G : Prop} (h : G := by
  go_enter Tryz.func237, Tryz.ntmps237
  go_wp2
  go_ret2
  exact ⟨rfl, rfl⟩
 ) : G := h
theorem zbfn {G : Prop} (h : G := by
  rename_i s hs
  have h0 := sgP_lt hE hi hs; exact Nx.bind (deepP_nx ((hF.sg _ _ h0).imp fun h => by omega)) fun t j h1 h2 => Nx.ok (by omega) h2
 ) : G := h
theorem zbfo {G : Prop} (h : G := by
  go_wp2_with fail
  go_round
  case rel => exact ⟨q + 1, by omega, by go_num, Or.inr ⟨by omega, rfl⟩⟩
  case measure => simp [intOf]; omega
 ) : G := h
theorem zbfp {G : Prop} (h : G := by
  exact ((((HPW.out.step hl).alloc _).alloc _).alloc _ |>.alloc _).drew
 ) : G := h
theorem zbfq {G : Prop} (h : G := by
  split at h
  ·
   cases h; exact ha
  ·
   obtain ⟨u, i1, h1, h⟩ := binds h; exact ih _ _ _ _ (mem_app ha (deep_kh (hF.st _ _) u i1 h1)) h
 ) : G := h
theorem zbfr {G : Prop} (h : G := by
  go_simp; refine cm HC.out ?_; intro e w' hp; obtain ⟨rfl, ha⟩ := hp; exact ⟨rfl, ppBad HS.out.symm (HAf.out.drew.next ha)⟩
 ) : G := h
theorem zbfs {G : Prop} (h : G := by
  go_simp; refine cm HC.out ?_; intro e w' hp; obtain ⟨rfl, ha⟩ := hp; exact ⟨rfl, ppBad HS.out.symm (HA2.out.drew.next ha)⟩
 ) : G := h
theorem zbft {G : Prop} (h : G := by
  unfold exprP at h'; obtain ⟨v, _, _, h'⟩ := bind_inv h'; obtain ⟨_, _, _, h'⟩ := bind_inv h'
  cases h'
  exact ⟨v, [], rfl⟩
 ) : G := h
theorem zbfu {G : Prop} (h : G := by
  go_wp2_with fail; go_ret; exact ⟨⟨_, rfl, _, rfl⟩, ⟨i, HP.out.alloc _⟩, he, (Ap.refl c.P _ w3).alloc (Nat.le_refl _) _⟩
 ) : G := h
theorem zbfv {G : Prop} (h : G := by
  refine Nx.bind (nameP_nx hE h2) fun s j2 h3 h4 => ?_; exact (rfuncTail_nx hE hF h4 fun h => by have := hq h; omega).le (by omega)
 ) : G := h
theorem zbfw {G : Prop} (h : G := by
  rcases hr.2 with hn | ⟨g, cap, cur, hv, hb, rest⟩
  ·
   exact Or.inl hn
  ·
   exact Or.inr ⟨g, cap, cur, hv, by omega, rest⟩
 ) : G := h
theorem zbfx {G : Prop} (h : G := by
  go_simp; refine cm HCC.out ?_; intro e wc hp; obtain ⟨rfl, ha⟩ := hp; exact ⟨rfl, ppBad rfl (HAg1.out.drew.next ha)⟩
 ) : G := h
theorem zbfy {G : Prop} (h : G := by
  refine Nx.bind (nameP_nx hE h2) fun s j2 h3 h4 => ?_; exact (funcTail_nx hE hF h4 fun h => by have := hq h; omega).le (by omega)
 ) : G := h
theorem zbfz {G : Prop} (h : G := by
  go_wp2
  go_ret; exact ⟨ret_bool (by have := unhide HE; rw [List.take_of_length_le (by omega)] at this; exact this.symm), rfl⟩
 ) : G := h
theorem zbga {G : Prop} (h : G := by
  go_simp; refine cm HCF.out ?_; intro e wc hp; obtain ⟨rfl, ha⟩ := hp; exact ⟨rfl, ppBad rfl (HAz.out.drew.next ha)⟩
 ) : G := h
theorem zbgb {G : Prop} (h : G := by
  go_simp; refine cm HCF.out ?_; intro e wc hp; obtain ⟨rfl, ha⟩ := hp; exact ⟨rfl, ppBad rfl (HAf.out.drew.next ha)⟩
 ) : G := h
theorem zbgc {G : Prop} (h : G := by
  intro k hk
  rcases List.mem_cons.1 hk with rfl | hk
  ·
   exact ⟨_, hv⟩
  ·
   rw [List.mem_singleton.1 hk]; exact ⟨_, hs⟩
 ) : G := h
theorem zbgd {G : Prop} (h : G := by
  intro k hk
  rcases List.mem_cons.1 hk with rfl | hk
  ·
   exact ⟨_, hp⟩
  ·
   rw [List.mem_singleton.1 hk]; exact ⟨_, hb⟩
 ) : G := h
theorem zbge {G : Prop} (h : G := by
  intro k hk
  rcases List.mem_cons.1 hk with rfl | hk
  ·
   exact ⟨_, ha⟩
  ·
   rw [List.mem_singleton.1 hk]; exact ⟨_, hb⟩
 ) : G := h
theorem zbgf {G : Prop} (h : G := by
  obtain ⟨p, hp, hn⟩ := h; have : q = p := by injection hp with h1; injection h1 with h2; injection h2
  rw [this]; exact hn
 ) : G := h
theorem zbgg {G : Prop} (h : G := by
  refine mem_snoc HALL.out ?_; have h1 := unhide HRR; unfold deepP at h1
  split at h1
  ·
   cases h1
  ·
   exact HKO.out _ _ _ _ h1
 ) : G := h
end Go.Proofs.YtoimgcjbcbhclaaGreatDoor
