/-
  Parts of proofs that stand more than once.
-/
import Derived.Test.YtodmgaikhbmlnaaGreatDoorEc10
set_option maxRecDepth 100000
set_option maxHeartbeats 16000000
namespace Go.Proofs.YtodmgaikhbmlnaaGreatDoor
open Go.RowKit
theorem zdad {G : Prop} (h : G := by
  have _h3 := hge; have _h4 := hes; clear _h3 _h4; have _h1 := hL; have _h2 := hal; clear _h1 _h2; obtain ⟨i0, hi, hz0, hz1, hz2⟩ := info_parts infoRT; have hps := pastN_stop gapB s j hlt hng; rw [hps] at he
  have HE := hide he; have hng2 := hng; simp only [gapB, Bool.or_eq_false_iff] at hng2; obtain ⟨g1, g2⟩ := hng2; have HI := hide hinv; obtain ⟨rc0, rc1, rf0, rf1⟩ := hinv.cells; have HLR := hide (hinv.lists hL)
  clear he hinv hng hps hL; have hq : r = .bad 3 j := by rw [← HE.out, toksR_bad ws signsS s j acc 3 j hlt hrd]
  subst hq; have HEE := hide hee; have HLET := hide hlet; have HDIG := hide hdig; clear hee hlet hdig HE hrd
  conv => arg 2; whnf
  unfold fr Q6; go_wp2_with fail; refine (isLetter_any _ _).mono ?_; rw [HLET.out]; rintro e1 w1 ⟨rfl, rfl⟩; go_wp2_with fail; refine (isDigit_any _ _).mono ?_; rw [HDIG.out]; rintro e1 w1 ⟨rfl, rfl⟩; go_wp2_with fail
  go_loop [5] (fun v => ∃ q : Nat, j ≤ q ∧ q ≤ e ∧ v = .int .i64 q ∧ pastN digB s q = e) (fun v => s.size - (intOf v).toNat)
  case atStart => exact ⟨j, Nat.le_refl _, by omega, rfl, HEE.out⟩
  case round =>
   obtain ⟨q, hq1, hq2, rfl, hqe⟩ := hrel
   by_cases hqs : q < s.size
   ·
    cases hd : digB (s[q].toNat : Int)
    ·
     exact zcbo
    ·
     exact zcaa
   ·
    exfalso; omega
 ) : G := h
theorem zdae {G : Prop} (h : G := by
  go_simp; refine hK _ _ ?_; clear hK K; refine wr1 8 fun K hK => ?_; go_simp; refine cm (node_any 14 noText (.slice (some ⟨wc.heap.size, 0, none⟩) 1 1) (wc.alloc (.cells #[nPtr pc] 22)) ⟨_, _, _, rfl⟩) ?_
  rintro e wd0 ⟨rfl, rfl⟩; refine hK _ _ ?_; clear hK K; refine wr1 9 fun K hK => ?_; exact zbaj
 ) : G := h
theorem zdaf {G : Prop} (h : G := by
  go_simp; refine hK _ _ ?_; clear hK K; refine wr1 9 fun K hK => ?_; go_simp; refine cm (node_any 13 s (.slice (some ⟨wc.heap.size, 0, none⟩) 1 1) (wc.alloc (.cells #[nPtr pc] 22)) ⟨_, _, _, rfl⟩) ?_
  rintro e wd0 ⟨rfl, rfl⟩; refine hK _ _ ?_; clear hK K; refine wr1 10 fun K hK => ?_; exact zcam
 ) : G := h
theorem zdag {G : Prop} (h : G := by
  cases hl : letB (s[q].toNat : Int)
  ·
   cases hd : digB (s[q].toNat : Int)
   ·
    exact zbfn
   ·
    exact zcab
  ·
   exact zcae
 ) : G := h
theorem zdah {G : Prop} (h : G := by
  exact ⟨World.cell?_of_block (w := wc) hbb, World.frozen?_of_block (w := wc) hbb⟩
 ) : G := h
theorem zdai {G : Prop} (h : G := by
  go_simp; refine hK _ _ ?_; clear hK K; refine wr1 12 fun K hK => ?_; exact zcaj
 ) : G := h
theorem zdaj {G : Prop} (h : G := by
  go_simp; refine hK _ _ ?_; clear hK K; refine wr1 11 fun K hK => ?_; exact zcal
 ) : G := h
theorem zcaa {G : Prop} (h : G := by
  have HST1 := hide ((pastN_go digB s q hqs hd).trans hqe); have hle := pastN_ge digB s (q + 1); rw [HST1.out] at hle; have HD1 := hide hd; clear hd hqe; go_wp2_with fail; refine (isDigit_any _ _).mono ?_; rw [HD1.out]
  exact zbam
 ) : G := h
theorem zcab {G : Prop} (h : G := by
  have HST1 := hide ((pastN_go lodB s q hqs (by unfold lodB; rw [hl, hd]; rfl)).trans hqe)
  have hle := pastN_ge lodB s (q + 1); rw [HST1.out] at hle; have HL1 := hide hl; have HD1 := hide hd; clear hl hd hqe; go_wp2_with fail; refine (isLetter_any _ _).mono ?_; rw [HL1.out]; rintro e2 w2 ⟨rfl, rfl⟩
  go_wp2_with fail; refine (isDigit_any _ _).mono ?_; rw [HD1.out]; exact zbam
 ) : G := h
theorem zcac {G : Prop} (h : G := by
  have htc : t.count = 1 + Tr.counts t.kids := by cases t with | mk kd tx nn ks => exact count_mk _ _ _ _
  have hkl : t.kids.length ≤ 20000 := by have := counts_len t.kids; omega
  obtain ⟨wA, hwA⟩ : ∃ wA, wA = w.alloc (.cells #[.bool s, .bool i, .bool b] 112) := ⟨_, rfl⟩; have hbA : Below w.heap.size w wA := by rw [hwA]; exact (Below.refl _ _).alloc (Nat.le_refl _) _
  have hpA : PlAt w.heap.size s i b wA := by rw [hwA]; exact PlAt.new _ _ _ _
  have hnA := h.later hbA; obtain ⟨hpl, c0, c1, u, c3, hr⟩ := h.cells; rw [hkd] at c0; have HBA := hide hbA; have HPL := hide hpA; have HC := hide (wrongBranch_any t p s i b wA hnA (by omega)); have h0 := hpA.c0
  have h1 := hpA.c1; have h2 := hpA.c2
  generalize brE t s = er at HC
  exact zbau
 ) : G := h
theorem zcad {G : Prop} (h : G := by
  obtain ⟨gc3, gcf, gcl⟩ := (Open.later HOP.out ha0 HLT.out).cell; have gcl1 : p0 < wc.heap.size + 1 := by omega
  have gcl2 : p0 < wc.heap.size + 1 + 1 := by omega
  clear hrd ha ha0 hnc hmc; refine hK _ _ ?_; clear hK K; refine wr2 4 7 (fun K hK => ?_) fun K hK => ?_
  ·
   go_simp; refine hK _ _ ?_; clear hK K; refine wr1 7 fun K hK => ?_; exact zdae
  ·
   go_simp; refine hK _ _ ?_; clear hK K; refine wr2 4 8 (fun K hK => ?_) fun K hK => ?_
   ·
    exact zdae
   ·
    go_simp; refine cm (node_any 14 noText (.slice (some ⟨wc.heap.size, 0, none⟩) 1 1) (wc.alloc (.cells #[nPtr pc] 22)) ⟨_, _, _, rfl⟩) ?_; rintro e wd0 ⟨rfl, rfl⟩; exact zbai
 ) : G := h
theorem zcae {G : Prop} (h : G := by
  have HST1 := hide ((pastN_go lodB s q hqs (by unfold lodB; rw [hl]; rfl)).trans hqe)
  have hle := pastN_ge lodB s (q + 1); rw [HST1.out] at hle; have HL1 := hide hl; clear hl hqe; go_wp2_with fail; refine (isLetter_any _ _).mono ?_; rw [HL1.out]; exact zbam
 ) : G := h
theorem zcaf {G : Prop} (h : G := by
  refine wp_region_any (by kernel_rfl) ?_; change wpAny _ _ _ _ _ _ _ (World.drew _); refine wt 0 (nPtr p0) ?_; refine wt 1 (nPtr p0) ?_; refine wt 2 (nPtr p0) ?_; refine wt 3 (.pointer (some ⟨p0, 3, none⟩)) ?_
  refine wt 5 (rPtr c) ?_; refine wt 6 (rPtr c) ?_; refine wt 7 (.func (.func 222) #[rPtr c] #[]) ?_; refine wr2 4 8 (fun K hK => ?_) fun K hK => ?_
  ·
   go_simp; refine hK _ _ ?_; clear hK K; refine wr1 8 fun K hK => ?_; go_simp; refine cm HC.out ?_; intro e wc hp; obtain ⟨⟨vc, rfl, pc, rfl, hnc⟩, hrd, ha⟩ := hp; have ha0 := ((Ap.refl c.R wy.heap.size wy).drew).next ha
   have HY : Hid (Ap c.R wy.heap.size wy wc ∧ Rdr c wc jx d ∧ NAt (From wy.heap.size) wc tx1 pc) := ⟨ha0, hrd, hnc⟩; obtain ⟨gc3, gcf, gcl⟩ := (Open.later HOP.out ha0 HLT.out).cell; clear hrd ha ha0 hnc; exact zbbf
  ·
   go_simp; refine cm HC.out ?_; intro e wc hp; obtain ⟨⟨vc, rfl, pc, rfl, hnc⟩, hrd, ha⟩ := hp; have ha0 := ((Ap.refl c.R wy.heap.size wy).drew).next ha
   have HY : Hid (Ap c.R wy.heap.size wy wc ∧ Rdr c wc jx d ∧ NAt (From wy.heap.size) wc tx1 pc) := ⟨ha0, hrd, hnc⟩; obtain ⟨gc3, gcf, gcl⟩ := (Open.later HOP.out ha0 HLT.out).cell; clear hrd ha ha0 hnc; exact zbai
 ) : G := h
theorem zcag {G : Prop} (h : G := by
  clear hr2 HQ hnj
  generalize tkA c.l j = tk at *
  go_wp2_with fail; refine cm HC1.out ?_; rintro e w2 ⟨rfl, rfl⟩; clear HC1; go_wp2_with fail
  go_region
  go_wp2_with fail
  go_region
  go_wp2_with fail; refine cm HC3.out ?_; rintro e w3 ⟨⟨v, rfl, p3, rfl, hn3⟩, hp3, ha3⟩; have HP4 := hide hp3; have HA4 := hide (HA3.out.next ha3); have HN4 := hide (nv_at (NV.later HN3.out ha3 HLT.out))
  have HU4 : Hid (NAt (fun b => w.heap.size ≤ b) w3 u p3) := NAt.mono (fun b hb _ => Nat.le_trans HA3.out.size hb) _ _ hn3; clear hn3 hp3 ha3 HC3 HP3 HA3 HN3 HK3 e0 e1 e2 e3 e4 e5 e6 e7 e8 h0 h1 f1 k0 k1 k2 k3 kg
  go_wp2_with fail
  go_roundg k
  case measure => omega
  case rel => exact Or.inl ⟨_, j2, HQQ.out, (nv_row (NAts.cons HN4.out (NAts.cons HU4.out NAts.nil)) HA4.out.size (by simp [maxLen]) #[nPtr q, nPtr p3] rfl 2 rfl _ noText 0 _ rfl).nv, (HP4.out.alloc _).alloc _, (HA4.out.alloc HA4.out.size _).alloc (by have := HA4.out.size; simp; omega) _⟩
 ) : G := h
theorem zcah {G : Prop} (h : G := by
  have HC3 := hide (HPC.out _ _ _ hr2.symm (by nofun) HP3.out HK3.out); rw [hr2] at HQ; have HQQ : Hid (r = .bad er pl) := HQ.out.symm; clear hr2 HQ hnj
  generalize tkA c.l j = tk at *
  go_wp2_with fail; refine cm HC1.out ?_; rintro e w2 ⟨rfl, rfl⟩; clear HC1; go_wp2_with fail
  go_region
  go_wp2_with fail
  go_region
  go_wp2_with fail; refine cm HC3.out ?_; rintro e w3 ⟨⟨v, rfl, p3, rfl⟩, ⟨j3, hp3⟩, he, ha3⟩; have HP4 := hide hp3; have HA4 := hide (HA3.out.next ha3)
  clear hp3 ha3 HC3 HP3 HA3 HN3 HK3 e0 e1 e2 e3 e4 e5 e6 e7 e8 h0 h1 f1 k0 k1 k2 k3 kg; go_wp2_with fail
  go_roundg k
  case measure => omega
  case rel => exact Or.inr ⟨er, pl, HQQ.out, he, ⟨j3, (HP4.out.alloc _).alloc _⟩, (HA4.out.alloc HA4.out.size _).alloc (by have := HA4.out.size; simp; omega) _, _, rfl⟩
 ) : G := h
theorem zcai {G : Prop} (h : G := by
  have htc : t.count = 1 + Tr.counts t.kids := by cases t with | mk kd tx nn ks => exact count_mk _ _ _ _
  have hkl : t.kids.length ≤ 20000 := by have := counts_len t.kids; omega
  obtain ⟨wA, hwA⟩ : ∃ wA, wA = w.alloc (.cells #[.bool s, .bool i, .bool b] 112) := ⟨_, rfl⟩; have hbA : Below w.heap.size w wA := by rw [hwA]; exact (Below.refl _ _).alloc (Nat.le_refl _) _
  have hpA : PlAt w.heap.size s i b wA := by rw [hwA]; exact PlAt.new _ _ _ _
  have hnA := h.later hbA; obtain ⟨hpl, c0, c1, u, c3, hr⟩ := h.cells; rw [hkd] at c0; have HBA := hide hbA; have HPL := hide hpA; have HC := hide (wrongFunction_any t p s i b wA hnA hk hc); have h0 := hpA.c0
  have h1 := hpA.c1; have h2 := hpA.c2
  generalize fnE t s = er at HC
  exact zbau
 ) : G := h
theorem zcaj {G : Prop} (h : G := by
  go_simp; refine hK _ _ ?_; clear hK K; exact wz 13 4 (CONT wc pc HHY.out)
 ) : G := h
theorem zcak {G : Prop} (h : G := by
  have HC := hide (rhead_any HF.out _ d (i + 1) _ hd hr.symm (by nofun) HK2.out.ps); rw [hr] at HQ; have hq : r = .bad er pl := unhide HQ; subst hq; clear hr HQ; go_wp2_with fail; refine cm HC.out ?_
  rintro e wh ⟨⟨v, rfl, q, rfl⟩, ⟨j, hp1⟩, he, ha⟩; have nb0 := (ha.block _ (lt_of_heap HK2.out.nd) (by have := unhide HLT; omega)).trans HK2.out.nd
  have hA0 := HK2.out.ap.next ha; have HC2 := hide (rstatement2_old c wh j er pl (d : Int) he hp1); have HNB := hide nb0; have HA0 := hide hA0; clear hp1 ha HC nb0 hA0 c0 c1 c2 c3 cf cf0 cf3 hnl x1 xf; go_wp2_with fail
  refine cm HC2.out ?_; rintro e wv ⟨⟨v, rfl, q2, rfl⟩, ⟨j2, hp2⟩, _, ha2⟩; exact zbax
 ) : G := h
theorem zcal {G : Prop} (h : G := by
  go_simp; refine hK _ _ ?_; clear hK K; exact wz 12 4 (CONT wc pc HHY.out)
 ) : G := h
theorem zcam {G : Prop} (h : G := by
  go_simp; refine hK _ _ ?_; clear hK K; exact wz 11 4 (CONT wc pc HY.out)
 ) : G := h
theorem zcan {G : Prop} (h : G := by
  have hbb : w3.heap[p0]? = wc.heap[p0]? := (hgr3.block p0 (by simp; omega) (fun e => HOc.out.own e.symm)).trans (Below.heap_alloc wc _ p0 gcl)
  exact zbbo
 ) : G := h
theorem zcao {G : Prop} (h : G := by
  have t3 : (((s[q].toNat : Nat) : Int) != 92) = true := by rw [bne, show (92 : Int) = (((92 : UInt8).toNat : Nat) : Int) from rfl, b3]; simp [c3]
  rw [strR_plain s q said hqs (by rw [hbt]; exact c1) (by rw [hbt]; exact c2) (by rw [hbt]; exact c3), hbt] at hqe
  have HQ := hide hqe; have hos := ofB_size said; have hos2 : (ofBytes said).size ≤ 3000 := by omega
  clear hqe hos b1 b2 b3 c1 c2 c3 hbt; go_wp2_with fail
  go_round
  case rel => exact ⟨q + 1, said ++ [s[q]], by omega, by omega, by simp; omega, by go_num, by rw [cat1 s q said hqs], HQ.out⟩
  case measure => simp [intOf]; omega
 ) : G := h
theorem zcap {G : Prop} (h : G := by
  go_wp2_with fail; refine (HLR.out.word (s.extract j e)).mono ?_; rw [HW.out]; rintro e3 w3 ⟨rfl, rfl⟩
  go_wp2_with (at_builtin; refine wpList_append_own _ rfl _ _ 61 rfl (w.heap.size + 1) 68 i0 noTok 4 40 Tryz.underlying61 hi hz0 hz1 hz2 rfl (by decide) _ _ _ rfl (HI.out.own.alloc _) ⟨w3.heap.size, 0, none⟩ 1 1 [.int .i64 2, .string (s.extract j e), .int .i64 0, .int .i64 (j : Int)] rfl rfl ?c1 ?c2 ?c3 ?c4 ?c5 ?_)
  case c1 =>
   exact zbay
  case c2 =>
   exact zbbs
  case c3 => unfold maxLen; omega
  case c4 => omega
  case c5 => have := HI.out.size; simp; omega
  exact zbeb
 ) : G := h
theorem zcaq {G : Prop} (h : G := by
  go_wp2_with fail; refine (HLR.out.word (s.extract j e)).mono ?_; rw [HW.out]; rintro e3 w3 ⟨rfl, rfl⟩
  go_wp2_with (at_builtin; refine wpList_append_own _ rfl _ _ 61 rfl (w.heap.size + 1) 68 i0 noTok 4 40 Tryz.underlying61 hi hz0 hz1 hz2 rfl (by decide) _ _ _ rfl (HI.out.own.alloc _) ⟨w3.heap.size, 0, none⟩ 1 1 [.int .i64 1, .string (s.extract j e), .int .i64 0, .int .i64 (j : Int)] rfl rfl ?c1 ?c2 ?c3 ?c4 ?c5 ?_)
  case c1 =>
   exact zbay
  case c2 =>
   exact zbbs
  case c3 => unfold maxLen; omega
  case c4 => omega
  case c5 => have := HI.out.size; simp; omega
  exact zbec
 ) : G := h
theorem zcar {G : Prop} (h : G := by
  clear hn hpw; go_wp2_with fail; refine cm HC.out ?_; rintro e x5 ⟨rfl, hq5⟩; have HB5 := hide (HB.out.trans (hq5.mono HB.out.size)); clear HC hq5
  cases r with
  | some e =>
   have hcc : ce = some e := by rw [HCE.out]; exact unhide HX1 e rfl
   subst hcc; unfold erV; go_wp2_with fail; go_ret; exact ⟨rfl, HB4.out.trans (HB5.out.mono HB4.out.size)⟩
  | none =>
   unfold erV; go_wp2_with fail
   go_roundw
   case rel => exact ⟨k + 1, by omega, by go_num, unhide HX2 trivial, HB5.out⟩
   case measure => simp [intOf]; omega
 ) : G := h
theorem zcas {G : Prop} (h : G := by
  obtain ⟨gc3, gcf, gcl⟩ := (Open.later HOP.out ha0 HLT.out).cell; have gcl1 : p0 < wc.heap.size + 1 := by omega
  have gcl2 : p0 < wc.heap.size + 1 + 1 := by omega
  clear hrd ha ha0 hnc hmc; refine hK _ _ ?_; clear hK K; refine wr1 7 fun K hK => ?_; go_simp; refine hK _ _ ?_; clear hK K; refine wr1 8 fun K hK => ?_; go_simp
  refine cm (node_any 14 noText (.slice (some ⟨wc.heap.size, 0, none⟩) 1 1) (wc.alloc (.cells #[nPtr pc] 22)) ⟨_, _, _, rfl⟩) ?_; rintro e wd0 ⟨rfl, rfl⟩; exact zbbf
 ) : G := h
theorem zcat {G : Prop} (h : G := by
  have u1 : (((s[q + 1].toNat : Nat) : Int) == 110) = true := by rw [k1]; rfl
  rw [strR_esc s q said 10 hqs (by rw [hbt]; exact c3) hq4 (by rw [hbt2, k1]; rfl)] at hqe
  have HQ := hide hqe; have hos := ofB_size said; have hos2 : (ofBytes said).size ≤ 3000 := by omega
  clear hqe hos b1 b2 b3 c1 c2 c3 hbt hbt2 d1 d2 d3 k1; go_wp2_with fail
  go_round
  case rel => exact ⟨q + 2, said ++ [10], by omega, by omega, by simp; omega, by go_num, by rw [cat2], HQ.out⟩
  case measure => simp [intOf]; omega
 ) : G := h
theorem zcau {G : Prop} (h : G := by
  have HC := hide (must_any c tEq wf j1 d HRwf.out (by decide)); rw [HMU.out] at HC; go_wp2_with fail; refine cm HC.out ?_; intro e wm hp; obtain ⟨⟨vm, rfl, rfl⟩, hrd, ha⟩ := hp; clear HC; have HRm := hide hrd
  have HAm := hide (HAwf.out.next ha); replace HN1 := hide (nat_later HN1.out ha HLT.out); clear hrd ha HRwf HAwf HPT f10
  cases hr : deepP c.l F.vl d (j1 + 1) with
  | out =>
   exact zbak
  | bad er p =>
   exact zbei
  | ok x2 j2 =>
   exact zbcc
 ) : G := h
theorem zcav {G : Prop} (h : G := by
  have hB3 : Below wc.heap.size wc _ := (((Below.refl wc.heap.size wc).alloc (Nat.le_refl _) (.cells #[nPtr pc] 22)).alloc (by simp) (nodeObj 14 noText 0 (.slice (some ⟨wc.heap.size, 0, none⟩) 1 1))).alloc (by simp <;> omega) (.cells #[nPtr (wc.heap.size + 1)] 22)
  have hbb : w3.heap[w.heap.size]? = wc.heap[w.heap.size]? := (hgr3.block w.heap.size (by simp; omega) (fun e => HHY.out.op.own e.symm)).trans (hB3.block w.heap.size gcl)
  exact zbbo
 ) : G := h
theorem zcaw {G : Prop} (h : G := by
  have HE := hide he; clear he; go_enter Tryz.func153, Tryz.ntmps153; go_wp2_with fail; refine (digit_any _).mono ?_; rintro e1 w1 ⟨x, rfl, hx, hbel⟩; obtain ⟨hc, hf⟩ := bcell hbel; have HBEL := hide hbel
  have HX := hide hx; clear hx hbel; go_wp2_with fail; have hpast := past_any s k x digB w1 (by unfold maxLen; omega) (by omega) HX.out
  rw [HE.out] at hpast; refine hpast.mono ?_; clear hpast; rintro e2 w2 ⟨rfl, rfl⟩; exact zbbr
 ) : G := h
theorem zcax {G : Prop} (h : G := by
  go_simp; refine hK _ _ ?_; clear hK K; exact wz 10 4 (CONT wc pc HY.out)
 ) : G := h
theorem zcay {G : Prop} (h : G := by
  refine wq1 6 fun K hK => ?_; go_simp; refine cm (unhide HSP _) ?_; rintro e w5 ⟨rfl, rfl⟩; refine hK.out _ _ hS0 (fun _ => ?_); clear hK K; refine wpAnyH_done (by kernel_rfl) ?_ _; go_simp
  obtain ⟨w1, hw1⟩ : ∃ w1, w1 = w.drew := ⟨_, rfl⟩; rw [← hw1]; have HB1 : Hid (Below w.heap.size w w1) := by rw [hw1]; exact HB0.out.drew
  clear hS0 eS e1 hw1; go_wp2_with fail; go_ret; exact ⟨rfl, HB1.out⟩
 ) : G := h
theorem zcaz {G : Prop} (h : G := by
  go_wp2_with fail
  go_round
  case rel => exact ⟨q + 2, said ++ [s[q + 1]], by omega, by omega, by simp; omega, by go_num, by rw [cat1 s (q + 1) said hq4], HQ.out⟩
  case measure => simp [intOf]; omega
 ) : G := h
theorem zcba {G : Prop} (h : G := by
  obtain ⟨gc3, gcf, gcl⟩ := (Open.later HOP.out ha0 HLT.out).cell; clear hrd ha ha0 hnc; exact zbbf
 ) : G := h
theorem zcbb {G : Prop} (h : G := by
  obtain ⟨gc3, gcf, gcl⟩ := (Open.later HOP.out ha0 HLT.out).cell; clear hrd ha ha0 hnc; exact zbai
 ) : G := h
theorem zcbc {G : Prop} (h : G := by
  refine wr1 8 fun K2 hK2 => ?_; go_simp; refine hK2 _ _ ?_; clear hK2 K2; refine wpAny_done (by kernel_rfl) ?_ _; go_simp
  go_wp2
  refine bodyPost_ret (v := .tuple #[.slice (some ⟨g, 0, none⟩) (acc.length + 1) cap, .agg #[.int .i64 0, .int .i64 (-1)]]) (by simp [results, Tryz.results45, go_sem, p0, p1]) rfl ⟨_, rfl, ?_, HI5.out.out _ _⟩
  exact ref_row HI5.out (by simp) _ _
 ) : G := h
theorem zcbd {G : Prop} (h : G := by
  have HHY : Hid (CallBad _ _ _ _ _ _ _ wc pc) := CallBad.mk HAc.out hpc HOc.out he; obtain ⟨gc3, gcf, gcl⟩ := HOc.out.cell; have gcl1 : w.heap.size < wc.heap.size + 1 := by omega
  have gcl2 : w.heap.size < wc.heap.size + 2 := by omega
  have gcl3 : w.heap.size < wc.heap.size + 1 + 1 := by omega
  clear ha hpc; exact zbbg
 ) : G := h
theorem zcbe {G : Prop} (h : G := by
  have HHY : Hid (CallBad _ _ _ _ _ _ _ wc pc) := CallBad.mk HAc.out hpc HOc.out he; obtain ⟨gc3, gcf, gcl⟩ := HOc.out.cell; have gcl1 : w.heap.size < wc.heap.size + 1 := by omega
  have gcl2 : w.heap.size < wc.heap.size + 2 := by omega
  have gcl3 : w.heap.size < wc.heap.size + 1 + 1 := by omega
  clear ha hpc; exact zbad
 ) : G := h
theorem zcbf {G : Prop} (h : G := by
  rintro e5 w5 ⟨b, rfl, hb, hlb, hbel5⟩; have hbelA := HBEL3.out.trans (hbel5.mono HBEL3.out.size); have hlb2 := Nat.le_trans HBEL3.out.size hlb; exact zbbv
 ) : G := h
theorem zcbg {G : Prop} (h : G := by
  refine wq1 11 fun K hK => ?_; go_simp; refine cm (HGO.out _ (HBZ.out.trans (hS0.mono HBZ.out.size))) ?_; rintro e w9 ⟨rfl, hb9⟩; have hS9 : Below w1.heap.size w1 w9 := hS0.trans (hb9.mono (Nat.le_refl _))
  refine hK.out _ _ hS9 (fun _ => ?_); clear hK K; refine wh 12 (eI R) hS9 ?_; exact zbcl
 ) : G := h
theorem zcbh {G : Prop} (h : G := by
  have HC2 := hide (rstatement2_any HF.out wh d j _ hd hr.symm (by nofun) HP0.out); rw [hr] at HQ2; have hq : r = .bad er pl := unhide HQ2; subst hq; clear hr HQ2; go_wp2_with fail; refine cm HC2.out ?_
  rintro e wv ⟨⟨v, rfl, q2, rfl⟩, ⟨j2, hp2⟩, he, ha2⟩; exact zbax
 ) : G := h
theorem zcbi {G : Prop} (h : G := by
  have hbb : w3.heap[w.heap.size]? = wc.heap[w.heap.size]? := (hgr3.block w.heap.size (by simp; omega) (fun e => HOc.out.own e.symm)).trans (Below.heap_alloc wc _ w.heap.size gcl)
  exact zdah
 ) : G := h
theorem zcbj {G : Prop} (h : G := by
  have hkk : k = t.kids.length := by omega
  subst hkk; have hcn : ce = none := by
   have h1 := unhide HNS; rw [List.take_length] at h1; rw [HCE.out]; exact h1
  subst hcn; go_wp2_with fail; go_ret; exact ⟨rfl, HB4.out.trans (HB.out.mono HB4.out.size)⟩
 ) : G := h
theorem zcbk {G : Prop} (h : G := by
  obtain ⟨gc3, gcf, gcl⟩ := HOc.out.cell; have gcl1 : w.heap.size < wc.heap.size + 1 := by omega
  have gcl2 : w.heap.size < wc.heap.size + 2 := by omega
  have gcl3 : w.heap.size < wc.heap.size + 1 + 1 := by omega
  clear ha hpc hnc; exact zbbg
 ) : G := h
theorem zcbl {G : Prop} (h : G := by
  obtain ⟨gc3, gcf, gcl⟩ := HOc.out.cell; have gcl1 : w.heap.size < wc.heap.size + 1 := by omega
  have gcl2 : w.heap.size < wc.heap.size + 2 := by omega
  have gcl3 : w.heap.size < wc.heap.size + 1 + 1 := by omega
  clear ha hpc hnc; exact zbad
 ) : G := h
theorem zcbm {G : Prop} (h : G := by
  intro j u hj
  match j, hj with
  | 0, hj => simp at hj; subst hj; simp [Addr.add]
  | 1, hj => simp at hj; subst hj; simp [Addr.add]
  | 2, hj => simp at hj; subst hj; simp [Addr.add]
  | 3, hj => simp at hj; subst hj; simp [Addr.add]
 ) : G := h
theorem zcbn {G : Prop} (h : G := by
  have h1 := unhide HB2; rw [hx4]; refine ⟨h1.os, h1.tape, h1.output, by simpa using h1.size, fun k hk => ?_⟩; rw [Below.heap_setCell x3 ⟨w.heap.size, 2, none⟩ _ k (by show k ≠ w.heap.size; omega)]
  exact h1.block k hk
 ) : G := h
theorem zcbo {G : Prop} (h : G := by
  have hst := pastN_stop digB s q hqs hd; have hqq : e = q := by omega
  subst hqq; have HD1 := hide hd; clear hd hst hqe; go_wp2_with fail; refine (isDigit_any _ _).mono ?_; rw [HD1.out]; rintro e2 w2 ⟨rfl, rfl⟩; exact zbcy
 ) : G := h
theorem zcbp {G : Prop} (h : G := by
  have hst := pastN_stop digB s q hqs hd; have hqq : e = q := by omega
  subst hqq; have HD1 := hide hd; clear hd hst hqe; go_wp2_with fail; refine (isDigit_any _ _).mono ?_; rw [HD1.out]; rintro e2 w2 ⟨rfl, rfl⟩; exact zbae
 ) : G := h
theorem zcbq {G : Prop} (h : G := by
  clear hS0 eA e3 hb9 hS9; go_wp2_with fail; go_ret; exact ⟨rfl, HB9.out⟩
 ) : G := h
theorem zcbr {G : Prop} (h : G := by
  rw [extract_at s j e i hes hi]; have hi2 : i < e - j := by rw [extract_size s j e (by omega) hes] at hi; exact hi
  exact past_in digB s (s.size - j) j (by omega) (j + i) (by omega) (by rw [HEE.out]; omega) (by omega)
 ) : G := h
theorem zcbs {G : Prop} (h : G := by
  rw [extract_at s k e i hes hi]; have hi2 : i < e - k := by rw [extract_size s k e (by omega) hes] at hi; exact hi
  exact past_in digB s (s.size - k) k (by omega) (k + i) (by omega) (by rw [HE.out]; omega) (by omega)
 ) : G := h
theorem zcbt {G : Prop} (h : G := by
  clear hp1 ha hn HC; go_wp2_with fail; go_ret; exact ⟨⟨_, rfl, q, rfl, HN.out⟩, HP.out, HA.out⟩
 ) : G := h
theorem zcbu {G : Prop} (h : G := by
  go_simp; refine hK _ _ ?_; clear hK K; exact wz 8 4 (CONT wc pc HHY.out)
 ) : G := h
theorem zcbv {G : Prop} (h : G := by
  rintro e5 w5 ⟨rfl, hb5⟩; have hbelA := HBEL3.out.trans (hb5.mono HBEL3.out.size); exact zbby
 ) : G := h
theorem zcbw {G : Prop} (h : G := by
  clear hp1 ha HC; go_wp2_with fail; go_ret; exact ⟨⟨_, rfl, _, rfl⟩, HP.out, he, HA.out⟩
 ) : G := h
theorem zcbx {G : Prop} (h : G := by
  have HM1 := hide (Open.later HOP.out (Ap.of hby) HLT.out).ev; clear hby
  cases hr : mustP c.l tSemi j1 with
  | out =>
   exact zbak
  | bad er p =>
   exact zbek
  | ok x2 j2 =>
   exact zbdg
 ) : G := h
theorem zcby {G : Prop} (h : G := by
  refine cm (SC.out.ha1 _ HS1.out) ?_; rintro e x2 ⟨rfl, hq2⟩; have HS2 : Hid (Below wA.heap.size wA x2) := HS1.out.trans (hq2.mono HS1.out.size); clear hq2; exact zbct
 ) : G := h
theorem zcbz {G : Prop} (h : G := by
  go_wp2_with fail; go_ret; exact ⟨⟨_, rfl, _, rfl⟩, ⟨j, HP1.out⟩, he, HA1.out⟩
 ) : G := h
theorem zcca {G : Prop} (h : G := by
  have HR2 := hide hr2; have HW2 := hide hb2; rw [← hW2]; clear hW2 hr2 hb2; refine hK.out _ _ HR2.out (fun _ => ?_); clear hK K; refine wh 12 (.bool false) HR2.out ?_; exact zbce
 ) : G := h
theorem zccb {G : Prop} (h : G := by
  have HR2 := hide hr2; have HW2 := hide hb2; rw [← hW2]; clear hW2 hr2 hb2; refine hK.out _ _ HR2.out (fun _ => ?_); clear hK K; refine wh 12 (.bool true) HR2.out ?_; exact zbce
 ) : G := h
theorem zccc {G : Prop} (h : G := by
  clear HC hr6 hb6; go_wp2_with fail
  go_roundw
  case rel => exact ⟨k + 1, by omega, by go_num, by rw [HTK.out]; exact HR6.out, HB6.out⟩
  case measure => simp [intOf]; omega
 ) : G := h
theorem zccd {G : Prop} (h : G := by
  have hRe := unhide HIN rfl; subst hRe; go_wp2_with fail; go_ret; exact ⟨rfl, HB0.out⟩
 ) : G := h
theorem zcce {G : Prop} (h : G := by
  go_wp2_with fail; go_ret; exact ⟨⟨_, rfl, q, rfl, H1.out⟩, H2.out, H3.out⟩
 ) : G := h
theorem zccf {G : Prop} (h : G := by
  go_wp2_with fail; have hds : ∀ i, (hi : i < (s.extract j e).size) → digB ((s.extract j e)[i].toNat : Int) = true := fun i hi => by
   exact zbbq
  exact zbdf
 ) : G := h
theorem zccg {G : Prop} (h : G := by
  go_wp2_with fail; go_ret; exact ⟨⟨_, rfl, q, rfl⟩, H2.out, he, H3.out⟩
 ) : G := h
theorem zcch {G : Prop} (h : G := by
  rw [hr] at HQ2; simp only [bind_out] at HQ2; exact absurd HQ2.out.symm HO.out
 ) : G := h
theorem zcci {G : Prop} (h : G := by
  clear hr; go_wp2_with fail; refine cm HC.out ?_; intro e w' hp; obtain ⟨rfl, ha⟩ := hp; exact ⟨rfl, ppBad HS.out.symm (HA0.out.next ha)⟩
 ) : G := h
theorem zccj {G : Prop} (h : G := by
  have HC := hide (rmust_old c _ jm _ _ he tShut HP.out); go_wp2_with fail; refine cm HC.out ?_; rintro e wm ⟨rfl, rfl⟩; clear HC; exact zbdv
 ) : G := h
theorem zcck {G : Prop} (h : G := by
  go_simp; refine cm HC.out ?_; intro e w' hp; obtain ⟨rfl, ha⟩ := hp; exact ⟨rfl, ppBad HS.out.symm (HAy.out.drew.next ha)⟩
 ) : G := h
theorem zccl {G : Prop} (h : G := by
  intro b; rw [Instr.checkKey, Sem.run_bind, run_underlying h9 W]; rfl
 ) : G := h
theorem zbaa {G : Prop} (h : G := by
  refine wp_region_any (by kernel_rfl) ?_; change wpAny _ _ _ _ _ _ _ (World.drew _); refine wt 0 (nPtr p0) ?_; refine wt 1 (nPtr p0) ?_; refine wt 2 (nPtr p0) ?_; refine wt 3 (.pointer (some ⟨p0, 3, none⟩)) ?_
  refine wt 5 (.string s) ?_; refine wt 6 (rPtr c) ?_; refine wr2 4 7 (fun K hK => ?_) fun K hK => ?_
  ·
   go_simp; refine hK _ _ ?_; clear hK K; refine wr1 7 fun K hK => ?_; go_simp; refine cm HCC.out ?_; intro e wc hp; obtain ⟨⟨vc, rfl, hnc⟩, hrd, ha⟩ := hp; obtain ⟨pc, rfl, hmc⟩ := hnc.nv
   have ha0 := ((Ap.refl c.R wg1.heap.size wg1).drew).next ha; have HY : Hid (Ap c.R wg1.heap.size wg1 wc ∧ Rdr c wc i5 d ∧ NAt (From wg1.heap.size) wc b2 pc) := ⟨ha0, hrd, hmc⟩
   obtain ⟨gc3, gcf, gcl⟩ := (Open.later HOP.out ha0 HLT.out).cell; have gcl1 : p0 < wc.heap.size + 1 := by omega
   have gcl2 : p0 < wc.heap.size + 1 + 1 := by omega
   clear hrd ha ha0 hnc hmc; refine hK _ _ ?_; clear hK K; refine wr1 8 fun K hK => ?_; go_simp; refine hK _ _ ?_; clear hK K; refine wr1 9 fun K hK => ?_; go_simp
   refine cm (node_any 13 s (.slice (some ⟨wc.heap.size, 0, none⟩) 1 1) (wc.alloc (.cells #[nPtr pc] 22)) ⟨_, _, _, rfl⟩) ?_; rintro e wd0 ⟨rfl, rfl⟩; refine hK _ _ ?_; clear hK K; refine wr1 10 fun K hK => ?_; go_simp
   refine hK _ _ ?_; clear hK K; refine wpAny_same (listed' := tf 11 4) (by kernel_rfl) rfl ?_; exact CONT wc pc HY.out
  ·
   go_simp; refine cm HCC.out ?_; intro e wc hp; obtain ⟨⟨vc, rfl, hnc⟩, hrd, ha⟩ := hp; obtain ⟨pc, rfl, hmc⟩ := hnc.nv; have ha0 := ((Ap.refl c.R wg1.heap.size wg1).drew).next ha
   have HY : Hid (Ap c.R wg1.heap.size wg1 wc ∧ Rdr c wc i5 d ∧ NAt (From wg1.heap.size) wc b2 pc) := ⟨ha0, hrd, hmc⟩; obtain ⟨gc3, gcf, gcl⟩ := (Open.later HOP.out ha0 HLT.out).cell
   have gcl1 : p0 < wc.heap.size + 1 := by omega
   have gcl2 : p0 < wc.heap.size + 1 + 1 := by omega
   clear hrd ha ha0 hnc hmc; refine hK _ _ ?_; clear hK K; refine wr2 4 8 (fun K hK => ?_) fun K hK => ?_
   ·
    go_simp; refine hK _ _ ?_; clear hK K; refine wr1 8 fun K hK => ?_; exact zdaf
   ·
    go_simp; refine hK _ _ ?_; clear hK K; refine wr2 4 9 (fun K hK => ?_) fun K hK => ?_
    ·
     exact zdaf
    ·
     go_simp; refine cm (node_any 13 s (.slice (some ⟨wc.heap.size, 0, none⟩) 1 1) (wc.alloc (.cells #[nPtr pc] 22)) ⟨_, _, _, rfl⟩) ?_; rintro e wd0 ⟨rfl, rfl⟩; refine hK _ _ ?_; clear hK K
     refine wr2 4 10 (fun K hK => ?_) fun K hK => ?_
     ·
      go_simp; refine hK _ _ ?_; clear hK K; refine wr1 10 fun K hK => ?_; exact zcam
     ·
      go_simp; refine hK _ _ ?_; clear hK K; refine wr1 4 fun K hK => ?_; exact zcam
 ) : G := h
theorem zbab {G : Prop} (h : G := by
  have b5 : ((tkA c.l j).kd != 5) = false := by rw [h5]; rfl
  rw [if_pos ⟨h5, hf⟩] at HQ; have hl := HNX.out h5; clear hf h5; have hnj : ((j : Int) + 1) = (((j + 1 : Nat)) : Int) := by omega
  obtain ⟨m1, m2, m3, m4, m5, m6, m7, e0, e1, e2, e3, e4, e5, e6, e7, e8⟩ := ops_made2 ((wr.setCell ⟨c.P, 1, none⟩ (.int .i64 ((j : Int) + 1))).alloc (tokO (tkA c.l j))) (wr.heap.size + 1) (by simp)
  have HP3 : Hid (Ps c ((((wr.setCell ⟨c.P, 1, none⟩ (.int .i64 ((j : Int) + 1))).alloc (tokO (tkA c.l j))).alloc (.map m7 7)).drew.drew) (j + 1) 0 (-1)) := by rw [hnj]; exact (((HPS.out.step hl).alloc _).alloc _).drew.drew
  have HA3 : Hid (Ap c.P w.heap.size w ((((wr.setCell ⟨c.P, 1, none⟩ (.int .i64 ((j : Int) + 1))).alloc (tokO (tkA c.l j))).alloc (.map m7 7)).drew.drew)) := (((HAP.out.setCell (p := ⟨c.P, 1, none⟩) (Or.inr rfl) _).alloc (by have := HAP.out.size; simp; omega) _).alloc (by have := HAP.out.size; simp; omega) _).drew.drew
  have HN3 : Hid (NV w.heap.size ((((wr.setCell ⟨c.P, 1, none⟩ (.int .i64 ((j : Int) + 1))).alloc (tokO (tkA c.l j))).alloc (.map m7 7)).drew.drew) t (nPtr q)) := NV.later ⟨q, rfl, HN.out⟩ (((((Ap.refl c.P wr.heap.size wr).setCell (p := ⟨c.P, 1, none⟩) (Or.inr rfl) _).alloc (by simp) _).alloc (by simp) _).drew.drew) HLT.out
  have HK3 : Hid (((((wr.setCell ⟨c.P, 1, none⟩ (.int .i64 ((j : Int) + 1))).alloc (tokO (tkA c.l j))).alloc (.map m7 7)).drew.drew).heap[g]? = some (.cells lvCells 9 (0, 0))) := (HA3.out.block g (lt_of_heap HK.out) HGN.out).trans HK.out
  cases hr2 : rpairs c.l F d rest (j + 1) with
  | out => rw [hr2] at HQ; exact absurd HQ.out.symm HO.out
  | bad er pl =>
   exact zcah
  | ok u j2 =>
   have HC3 := hide (HPC.out _ _ _ hr2.symm (by nofun) HP3.out HK3.out); rw [hr2] at HQ; have HQQ : Hid (rpairLoop c.l (rpairs c.l F d rest) s k (.mk (opK (tkA c.l j).tx) noText 0 [t, u]) j2 = r) := unhide HQ; exact zcag
 ) : G := h
theorem zbac {G : Prop} (h : G := by
  have b5 : ((tkA c.l j).kd != 5) = false := by rw [h5]; rfl
  rw [if_pos ⟨h5, hf⟩] at HQ; have hl := HNX.out h5; clear hf h5; have hnj : ((j : Int) + 1) = (((j + 1 : Nat)) : Int) := by omega
  obtain ⟨m1, m2, m3, m4, m5, m6, m7, e0, e1, e2, e3, e4, e5, e6, e7, e8⟩ := ops_made2 ((wr.setCell ⟨c.P, 1, none⟩ (.int .i64 ((j : Int) + 1))).alloc (tokO (tkA c.l j))) (wr.heap.size + 1) (by simp)
  have HP3 : Hid (Ps c ((((wr.setCell ⟨c.P, 1, none⟩ (.int .i64 ((j : Int) + 1))).alloc (tokO (tkA c.l j))).alloc (.map m7 7)).drew.drew) (j + 1) 0 (-1)) := by rw [hnj]; exact (((HPS.out.step hl).alloc _).alloc _).drew.drew
  have HA3 : Hid (Ap c.P w.heap.size w ((((wr.setCell ⟨c.P, 1, none⟩ (.int .i64 ((j : Int) + 1))).alloc (tokO (tkA c.l j))).alloc (.map m7 7)).drew.drew)) := (((HAP.out.setCell (p := ⟨c.P, 1, none⟩) (Or.inr rfl) _).alloc (by have := HAP.out.size; simp; omega) _).alloc (by have := HAP.out.size; simp; omega) _).drew.drew
  have HN3 : Hid (NV w.heap.size ((((wr.setCell ⟨c.P, 1, none⟩ (.int .i64 ((j : Int) + 1))).alloc (tokO (tkA c.l j))).alloc (.map m7 7)).drew.drew) t (nPtr q)) := NV.later ⟨q, rfl, HN.out⟩ (((((Ap.refl c.P wr.heap.size wr).setCell (p := ⟨c.P, 1, none⟩) (Or.inr rfl) _).alloc (by simp) _).alloc (by simp) _).drew.drew) HLT.out
  have HK3 : Hid (((((wr.setCell ⟨c.P, 1, none⟩ (.int .i64 ((j : Int) + 1))).alloc (tokO (tkA c.l j))).alloc (.map m7 7)).drew.drew).heap[g]? = some (.cells lvCells 9 (0, 0))) := (HA3.out.block g (lt_of_heap HK.out) HGN.out).trans HK.out
  cases hr2 : rpairs c.l F d [] (j + 1) with
  | out => rw [hr2] at HQ; exact absurd HQ.out.symm HO.out
  | bad er pl =>
   exact zcah
  | ok u j2 =>
   have HC3 := hide (HPC.out _ _ _ hr2.symm (by nofun) HP3.out HK3.out); rw [hr2] at HQ; have HQQ : Hid (rpairLoop c.l (rpairs c.l F d []) s k (.mk (opK (tkA c.l j).tx) noText 0 [t, u]) j2 = r) := unhide HQ; exact zcag
 ) : G := h
theorem zbad {G : Prop} (h : G := by
  refine hK _ _ ?_; clear hK K; refine wr2 4 8 (fun K hK => ?_) fun K hK => ?_
  ·
   go_simp; refine hK _ _ ?_; clear hK K; refine wr1 8 fun K hK => ?_; go_simp; refine hK _ _ ?_; clear hK K; refine wt 9 (.agg #[.int .i64 14, .string noText, .int .i64 0, .slice (some ⟨wc.heap.size, 0, none⟩) 1 1]) ?_
   refine wr1 10 fun K hK => ?_; exact zdaj
  ·
   go_simp; refine hK _ _ ?_; clear hK K; refine wt 9 (.agg #[.int .i64 14, .string noText, .int .i64 0, .slice (some ⟨wc.heap.size, 0, none⟩) 1 1]) ?_; refine wr2 4 10 (fun K hK => ?_) fun K hK => ?_
   ·
    go_simp; refine hK _ _ ?_; clear hK K; refine wr1 10 fun K hK => ?_; exact zdaj
   ·
    go_simp; refine hK _ _ ?_; clear hK K; refine wr2 4 11 (fun K hK => ?_) fun K hK => ?_
    ·
     exact zdaj
    ·
     go_simp; refine hK _ _ ?_; clear hK K; refine wr1 4 fun K hK => ?_; exact zcal
 ) : G := h
theorem zbae {G : Prop} (h : G := by
  go_wp2_with fail; have hds : ∀ i, (hi : i < (s.extract j e).size) → digB ((s.extract j e)[i].toNat : Int) = true := fun i hi => by
   exact zcbr
  have hsz := extract_size s j e (by omega) hes; refine (atoi_any (s.extract j e) _ (by omega) (by omega) hds).mono ?_; rw [HNN.out]; rintro e3 w3 ⟨rfl, hbel3⟩; have HI3 := hide (HI.out.later hbel3); clear rc0 rc1 rf0 rf1
  obtain ⟨rc0, rc1, rf0, rf1⟩ := HI3.out.cells; clear hbel3 hds hsz
  go_wp2_with (at_builtin; refine wpList_append_own _ rfl _ _ 61 rfl (w.heap.size + 1) 68 i0 noTok 4 40 Tryz.underlying61 hi hz0 hz1 hz2 rfl (by decide) _ _ _ rfl (HI3.out.own.alloc _) ⟨w3.heap.size, 0, none⟩ 1 1 [.int .i64 3, .string ⟨#[]⟩, .int .i64 n, .int .i64 (j : Int)] rfl rfl ?c1 ?c2 ?c3 ?c4 ?c5 ?_)
  case c1 =>
   exact zcbm
  case c2 =>
   intro u hu; simp only [List.mem_cons, List.not_mem_nil, or_false] at hu
   rcases hu with rfl | rfl | rfl | rfl <;> rfl
  case c3 => unfold maxLen; omega
  case c4 => omega
  case c5 => have := HI3.out.size; simp; omega
  intro v' w5 hown' hgrow _; have HI5 := hide (HI3.out.app (t := Tk.mk 3 ⟨#[]⟩ n j) _ hown' hgrow); clear hown' hgrow; go_wp2_with fail
  exact ⟨WI_mk e (acc ++ [Tk.mk 3 ⟨#[]⟩ n j]) v' hes (by simp; omega) HST.out HI5.out (by kernel_rfl), by simp [mu6, intOf]; omega⟩
 ) : G := h
end Go.Proofs.YtodmgaikhbmlnaaGreatDoor
