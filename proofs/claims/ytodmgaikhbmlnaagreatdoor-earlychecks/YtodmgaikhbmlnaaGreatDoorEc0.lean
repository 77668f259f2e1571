/-
  Parts of proofs that stand more than once.
-/
import Derived.WalkKit
import Derived.Deep.LoopGhost
import Derived.Deep.RegionWith
set_option maxRecDepth 100000
set_option maxHeartbeats 16000000
namespace Go.Proofs.YtodmgaikhbmlnaaGreatDoor
open Go.RowKit
theorem zeaa {G : Prop} (h : G := by
  have HLO := hide h.base.size; obtain ⟨i0', hi0, hz0, hz1, hz2⟩ := info_parts info22; have HR0 := hide h; have HA0 := hide (Ap.refl c.R w.heap.size w); have HLT := hide h.rlt; clear h; exact zrb
 ) : G := h
theorem zeab {G : Prop} (h : G := by
  go_loop [5] (fun v => ∃ q : Nat, j ≤ q ∧ q ≤ e ∧ v = .int .i64 q ∧ pastN lodB s q = e) (fun v => s.size - (intOf v).toNat)
  case atStart => exact ⟨j, Nat.le_refl _, by omega, rfl, HEE.out⟩
  case round =>
   obtain ⟨q, hq1, hq2, rfl, hqe⟩ := hrel
   by_cases hqs : q < s.size
   ·
    cases hl : letB (s[q].toNat : Int)
    ·
     cases hd : digB (s[q].toNat : Int)
     ·
      exact zrcc
     ·
      exact zcab
    ·
     exact zcae
   ·
    exfalso; omega
 ) : G := h
theorem zeac {G : Prop} (h : G := by
  go_loop [5, 12] (fun i v => ∃ (q : Nat) (said : List UInt8), j + 1 ≤ q ∧ q ≤ s.size ∧ said.length ≤ q ∧ i = .int .i64 q ∧ v = .string (ofBytes said) ∧ strR s q said = .ok l e) (fun i _ => s.size - (intOf i).toNat)
  case atStart => exact ⟨j + 1, [], Nat.le_refl _, by omega, by simp, by go_num, rfl, HR.out⟩
  case round =>
   obtain ⟨q, said, hq1, hq2, hq3, rfl, rfl, hqe⟩ := hrel
   by_cases hqs : q < s.size
   ·
    have hbt := bt_eq s q hqs; have b1 := byte_eq s[q] 39; have b2 := byte_eq s[q] 10; have b3 := byte_eq s[q] 92; have ql : ((q : Int) == (s.size : Int)) = false := beq_eq_false_iff_ne.2 (by omega)
    by_cases c1 : s[q] = 39
    ·
     exact zrdo
    ·
     exact zbaf
   ·
    have hqq : s.size = q := by omega
    subst hqq; rw [strR_end s s.size said hqs] at hqe; cases hqe
 ) : G := h
theorem zead {G : Prop} (h : G := by
  refine cm HC.out ?_; rintro e w3 ⟨⟨u3, rfl, hr3⟩, hb3⟩; obtain ⟨la, lc, rfl⟩ := hr3.form; have HB3 := hide (HBK.out.trans (hb3.mono HBK.out.size)); have HR3 := hide hr3; clear HC hr3 hb3; go_wp2_with fail
  go_loopw [101] (fun j wr => ∃ k : Nat, k ≤ (letsT (kidT t 1)).length ∧ j = .int .i64 k ∧ ((letsT (kidT t 1)).take k).any (fun x => namedB PS x.tx) = false ∧ Below w3.heap.size w3 wr) (fun j _ => (letsT (kidT t 1)).length - (intOf j).toNat)
  case atStart => exact ⟨0, Nat.zero_le _, rfl, rfl, Below.refl _ _⟩
  case round =>
   obtain ⟨k, hk, rfl, hno, hbk⟩ := hrel; have HNO := hide hno; have HBJ := hide hbk; have HBW := hide (HB3.out.trans (hbk.mono HB3.out.size)); clear hno
   by_cases hlt : k < (letsT (kidT t 1)).length
   ·
    exact zbat
   ·
    exact zrds
 ) : G := h
theorem zeae {G : Prop} (h : G := by
  have HPB2 := hide hpb2; have HB2 := hide (HBB.out.trans (hq2.mono HBB.out.size)); clear HC hq2 hwB HWR hpb2
  cases er with
  | some e =>
   unfold erV; go_wp2_with fail; go_ret; exact ⟨rfl, HB2.out⟩
  | none =>
   exact zrdi
 ) : G := h
theorem zeaf {G : Prop} (h : G := by
  have n4 : ¬ fx c.l i = tWhile := by rw [hf]; decide
  have n5 : ¬ fx c.l i = tWith := by rw [hf]; decide
  have HQ := hide hs; clear hs; exact zra
 ) : G := h
theorem zeag {G : Prop} (h : G := by
  have hfu : isFunT t = false := by unfold isFunT; rw [hkd]; rfl
  exact zry
 ) : G := h
theorem zeah {G : Prop} (h : G := by
  cases hr : paramsP c.l F j2 with
  | out =>
   exact zbak
  | bad er p =>
   have HC := hide (params_at (F := F) w2 d j2 (by rw [hr]; nofun) HR2.out)
   exact zbcj
  | ok x3 j3 =>
   have HC := hide (params_at (F := F) w2 d j2 (by rw [hr]; nofun) HR2.out)
   exact zrcg
 ) : G := h
theorem zeai {G : Prop} (h : G := by
  clear HS2 HP1 HA1 HN1
  rcases hrel with ⟨t, j, hq, hnv, hps, hap⟩ | ⟨er, pl, hq, he, ⟨j, hps⟩, hap, q, rfl⟩
  ·
   exact zrbv
  ·
   have HC1 := hide (rok_old he hps); have HP1 := hide hps; have HA1 := hide hap; clear hps hap; subst hq; exact zbda
 ) : G := h
theorem zeaj {G : Prop} (h : G := by
  cases hr : mustP c.l tFunction i with
  | out =>
   exact zbak
  | bad er p =>
   have HC := hide (must_any c tFunction w i d HR0.out (by decide)); exact zbav
  | ok x1 j1 =>
   have HC := hide (must_any c tFunction w i d HR0.out (by decide)); exact zrbo
 ) : G := h
theorem zeak {G : Prop} (h : G := by
  have HNP := hide (NAt.mono (J := fun b => w.heap.size ≤ b ∧ b < w3.heap.size) (fun b hb hl => ⟨hb, hl⟩) _ _ HN3.out)
  cases hr : blockP c.l F d j3 with
  | out =>
   exact zbak
  | bad er p =>
   exact zbeg
  | ok tb jb =>
   exact zrbt
 ) : G := h
theorem zeal {G : Prop} (h : G := by
  cases hd : digB (s[q].toNat : Int)
  ·
   have hst := pastN_stop digB s q hqs hd; exfalso; omega
  ·
   exact zcaa
 ) : G := h
theorem zeam {G : Prop} (h : G := by
  have HR := hide hR; have HLET := hide hlet; have HDIG := hide hdig; clear hlet hdig HE hrd hR; exact zrbl
 ) : G := h
theorem zean {G : Prop} (h : G := by
  cases hr : nameP c.l i with
  | out =>
   exact zbak
  | bad er p =>
   have HC := hide (name_any c w i d HR0.out); exact zbav
  | ok x1 j1 =>
   have HC := hide (name_any c w i d HR0.out); exact zrbo
 ) : G := h
theorem zeao {G : Prop} (h : G := by
  refine wpAnyH_ready (rs := [5, 10]) (by kernel_rfl) (by simp) (AllReadyH.cons rfl (fun K hK => ?_) (AllReadyH.cons rfl (fun K hK => ?_) AllReadyH.nil))
  ·
   exact zrbq
  ·
   exact zrbj
 ) : G := h
theorem zeap {G : Prop} (h : G := by
  have hl : i + 1 < c.l.length := next_lt h.base.ends h.lt (by rw [hk]; decide)
  exact zrk
 ) : G := h
theorem zeaq {G : Prop} (h : G := by
  have HFU : Hid (∀ W, Below w.heap.size w W → Calls Tryz.prog 141 #[nPtr p] W fun e w' => e = .returned (.bool false) ∧ w' = W) := fun W hW => by
   exact zbem
  exact zrz
 ) : G := h
theorem zear {G : Prop} (h : G := by
  rw [decide_eq_false hnp] at hx; have HX := hide hx; have HNB := hide hnb; have HNF := hide hnf; clear hx h hn1 hn3 hn4 hnp hnf hnb; exact zrx
 ) : G := h
theorem zra {G : Prop} (h : G := by
  have HS0 := hide (Stn.new h); have hc := rnext_any c (w.alloc nd0) i tLBrace (by decide) HS0.out.ps; rw [decide_eq_false n0] at hc; have HC := hide hc; clear hc; clear h; go_enter Tryz.func47, Tryz.ntmps47
  go_wp2_with fail; refine cm HC.out ?_; rintro e w1 ⟨rfl, hb⟩; have HS1 := hide (HS0.out.below hb); clear hb HC HS0; have HC := hide (rskip_no c w1 i tSemi (by decide) n1 HS1.out.ps); go_wp2_with fail; refine cm HC.out ?_
  rintro e w2 ⟨rfl, hb⟩; have HS2 := hide (HS1.out.below hb); clear hb HC HS1; have HC := hide (rskip_no c w2 i tFunction (by decide) n2 HS2.out.ps); go_wp2_with fail; refine cm HC.out ?_; rintro e w3 ⟨rfl, hb⟩
  have HS3 := hide (HS2.out.below hb); clear hb HC HS2; have HC := hide (rskip_no c w3 i tIf (by decide) n3 HS3.out.ps); go_wp2_with fail; refine cm HC.out ?_; rintro e w4 ⟨rfl, hb⟩; have HS4 := hide (HS3.out.below hb)
  clear hb HC HS3; have hc := rnext_any c w4 i tWhile (by decide) HS4.out.ps; rw [decide_eq_false n4] at hc; have HC := hide hc; clear hc; go_wp2_with fail; refine cm HC.out ?_; rintro e w5 ⟨rfl, hb⟩
  have HS5 := hide (HS4.out.below hb); clear hb HC HS4; have hc := rnext_any c w5 i tWith (by decide) HS5.out.ps; exact zraX
 ) : G := h
theorem zrb {G : Prop} (h : G := by
  go_enter Tryz.func164, Tryz.ntmps164; have HC := hide (must_any c tTry w i d HR0.out (by decide)); rw [hm] at HC; go_wp2_with fail; refine cm HC.out ?_; intro e wa hp; obtain ⟨⟨va, rfl, rfl⟩, hrd, ha⟩ := hp; clear HC
  have HRa := hide hrd; have HAa := hide (HA0.out.next ha); clear hrd ha; have HC := hide (block_any hF hN wa d i0 _ rfl (by rw [hb]; nofun) HRa.out)
  rw [hb] at HC; go_wp2_with fail; refine cm HC.out ?_; intro e wb hp; obtain ⟨⟨vb, rfl, hnb⟩, hrd, ha⟩ := hp; clear HC; have HRb := hide hrd; have HAb := hide (HAa.out.next ha)
  obtain ⟨pb, rfl, hmb⟩ := (EV.mono hnb HAa.out.size).nv; have HNb := hide hmb; clear hnb hmb; clear hrd ha
  have HC := hide (node_any 12 noText (.slice (some ⟨wb.heap.size, 0, none⟩) 1 1) (wb.alloc (.cells #[nPtr pb] 22)) ⟨_, _, _, rfl⟩); go_wp2_with fail; refine cm HC.out ?_; rintro e wn0 ⟨rfl, rfl⟩; clear HC
  obtain ⟨m1, m2, m3⟩ := made HRb.out HAb.out (NAts.cons HNb.out NAts.nil) (by simp [maxLen]) #[nPtr pb] rfl 1 rfl 12 noText (wb.heap.size + 1) rfl; obtain ⟨t0, ht0⟩ : ∃ t0 : Tr, t0 = .mk 12 noText 0 [b] := ⟨_, rfl⟩
  rw [← ht0] at m1; have HKL : Hid (t0.kids.length = 1) := by
   show _ = _
   rw [ht0]; rfl
  have HT0 := hide ht0; obtain ⟨p0, u0, ps0, hpe, hop⟩ := m1.opens; have hpe2 : p0 = wb.heap.size + 1 := by simpa [nPtr] using hpe.symm
  rw [hpe2] at hop; have HOP := hide hop; have HRn := hide m2; have HAn := hide m3; clear m1 m2 m3 hop hpe ht0
  obtain ⟨wn, hwn⟩ : ∃ wn, wn = (wb.alloc (.cells #[nPtr pb] 22)).alloc (nodeObj 12 noText 0 (.slice (some ⟨wb.heap.size, 0, none⟩) 1 1)) := ⟨_, rfl⟩; rw [← hwn] at HOP HRn HAn; rw [← hpe2] at HOP
  rw [show (wb.alloc (.cells #[nPtr pb] 22)).heap.size = p0 by rw [hpe2]; simp, ← hwn]
  exact zrbX
 ) : G := h
theorem zrc {G : Prop} (h : G := by
  have HS0 := hide (Stn.new h); have hc := rnext_any c (w.alloc nd0) i tLBrace (by decide) HS0.out.ps; rw [decide_eq_false n0] at hc; have HC := hide hc; clear hc; clear h; go_enter Tryz.func47, Tryz.ntmps47
  go_wp2_with fail; refine cm HC.out ?_; rintro e w1 ⟨rfl, hb⟩; have HS1 := hide (HS0.out.below hb); clear hb HC HS0; have HC := hide (rskip_no c w1 i tSemi (by decide) n1 HS1.out.ps); go_wp2_with fail; refine cm HC.out ?_
  rintro e w2 ⟨rfl, hb⟩; have HS2 := hide (HS1.out.below hb); clear hb HC HS1; have HC := hide (rskip_no c w2 i tFunction (by decide) n2 HS2.out.ps); go_wp2_with fail; refine cm HC.out ?_; rintro e w3 ⟨rfl, hb⟩
  have HS3 := hide (HS2.out.below hb); clear hb HC HS2; exact zrcX
 ) : G := h
theorem zrd {G : Prop} (h : G := by
  rintro e wq ⟨rfl, hbq⟩; have HRq := hide (HR0.out.drew.later hbq); have HAq := hide (HA0.out.next (Ap.of ((Below.refl _ _).drew.trans hbq))); clear hbq; refine hK.out _ _ HRq.out (fun _ => ?_); clear hK K
  refine wg 6 (.tuple #[.nilFunc, .bool false]) rfl (Or.inl ⟨by kernel_rfl, fun W hW => by have hh := HL.out W hW; go_simp⟩) HRq.out ?_
  refine wh 7 (.tuple #[.nilFunc, .bool false]) HRq.out ?_; refine wh 8 .nilFunc HRq.out ?_; refine wh 9 (.bool false) HRq.out ?_; refine wh 10 .nilFunc HRq.out ?_; refine wh 11 (.bool false) HRq.out ?_
  refine wpAnyH_done (by kernel_rfl) ?_ _; go_simp; have HC := hide (sign_any c 0 wq i d HRq.out); rw [HSG.out] at HC; simp only [sgVO, noSg, Option.isSome] at HC; go_wp2_with fail; refine cm HC.out ?_
  rintro e ws ⟨rfl, hbws⟩; clear HC; have HAws := hide (HAq.out.next (Ap.of hbws)); have HRws := hide (HRq.out.later hbws); clear hbws HRq HAq
  have HAs2 := hide (HAws.out.alloc HAws.out.size (.cells #[.string ⟨#[]⟩, .int .i64 0, .int .i64 0, .int .i64 0] 175))
  have HRs2 := hide (HRws.out.alloc (.cells #[.string ⟨#[]⟩, .int .i64 0, .int .i64 0, .int .i64 0] 175))
  have hs0 : (ws.alloc (.cells #[.string ⟨#[]⟩, .int .i64 0, .int .i64 0, .int .i64 0] 175)).heap[ws.heap.size]? = some (.cells #[.string ⟨#[]⟩, .int .i64 0, .int .i64 0, .int .i64 0] 175) := heap_new _ _
  have HS0 := hide hs0; clear hs0; have HC := hide (token_any c (ws.alloc (.cells #[.string ⟨#[]⟩, .int .i64 0, .int .i64 0, .int .i64 0] 175)) i d HRs2.out); unfold tkV at HC; go_wp2_with fail; refine cm HC.out ?_
  rintro e wt ⟨rfl, hbwt⟩; clear HC; have HAwt := hide (HAs2.out.next (Ap.of hbwt)); have HRwt := hide (HRs2.out.later hbwt); have hp0 := (hbwt.block ws.heap.size (by simp)).trans HS0.out
  obtain ⟨k0, k1, k2, k3, kf, klt⟩ := c160 hp0; have hc1 := HRwt.out.c1; have hcz := HRwt.out.fz; have hcl := HRwt.out.rlt; clear hbwt hp0
  have HAt2 := hide (HAwt.out.alloc HAwt.out.size (.cells #[.int .i64 (tkA c.l i).kd, .string (tkA c.l i).tx, .int .i64 (tkA c.l i).n, .int .i64 ((tkA c.l i).pl : Int)] 123))
  have HRt2 := hide (HRwt.out.alloc (.cells #[.int .i64 (tkA c.l i).kd, .string (tkA c.l i).tx, .int .i64 (tkA c.l i).n, .int .i64 ((tkA c.l i).pl : Int)] 123)); exact zrdX
 ) : G := h
theorem zre {G : Prop} (h : G := by
  have _h1 := hL; have _h2 := hal; clear _h1 _h2; obtain ⟨i0, hi, hz0, hz1, hz2⟩ := info_parts infoRT; have hps := pastN_stop gapB s j hlt hng; rw [hps] at he; have HE := hide he; have hng2 := hng
  simp only [gapB, Bool.or_eq_false_iff] at hng2; obtain ⟨g1, g2⟩ := hng2; have HI := hide hinv; obtain ⟨rc0, rc1, rf0, rf1⟩ := hinv.cells; have HLR := hide (hinv.lists hL); clear he hinv hng hps hL; exact zreX
 ) : G := h
theorem zrf {G : Prop} (h : G := by
  have HD := hide hd; clear hd; have hL1 : Lists ws gs (w.alloc O35) := hL.later ((Below.refl _ _).alloc (Nat.le_refl _) _); have HLS := hide hL1; have HR := hide hr; have HL := hide hl; clear hL hL1 hr hl
  go_enter Tryz.func109, Tryz.ntmps109; go_wp2_with fail; refine (letter_any _).mono ?_; rintro e1 w1 ⟨x, rfl, ⟨f1, c1, rfl, ef1, hf1⟩, hbel⟩; have HF1 := hide (hf1 w1 (Below.refl _ _)); have HBEL := hide hbel
  clear hf1 hbel; go_wp2_with fail; refine cm (unhide HF1 _) ?_; rw [HL.out]; rintro e2 w2 ⟨rfl, rfl⟩; go_wp2_with fail; refine (digit_any _).mono ?_; rintro e3 w3 ⟨x3, rfl, ⟨f3, c3, rfl, ef3, hf3⟩, hbel3⟩
  have HF3 := hide (hf3 w3 (Below.refl _ _)); have HBEL3 := hide (HBEL.out.trans (hbel3.mono HBEL.out.size)); clear hf3 hbel3; go_wp2_with fail; refine cm (unhide HF3 _) ?_; rw [HD.out]; rintro e4 w4 ⟨rfl, rfl⟩
  go_wp2_with fail; exact zrfX
 ) : G := h
theorem zrg {G : Prop} (h : G := by
  have HS0 := hide (Stn.new h); have hc := rnext_any c (w.alloc nd0) i tLBrace (by decide) HS0.out.ps; rw [decide_eq_false n0] at hc; have HC := hide hc; clear hc; clear h; go_enter Tryz.func47, Tryz.ntmps47
  go_wp2_with fail; refine cm HC.out ?_; rintro e w1 ⟨rfl, hb⟩; have HS1 := hide (HS0.out.below hb); clear hb HC HS0; exact zrgX
 ) : G := h
theorem zrh {G : Prop} (h : G := by
  clear HQ; have HC := hide (rbraces_any HF.out HNN.out HKK.out false _ d (i + 1) _ hd hb0.symm (by nofun) HK2.out.ps); clear hb0; go_wp2_with fail; refine cm HC.out ?_; rintro e wv ⟨⟨v, rfl, q, rfl, hn⟩, hp2, ha2⟩
  have nb := (ha2.block _ (lt_of_heap HK2.out.nd) (by have := unhide HLT; omega)).trans HK2.out.nd
  clear c0 c1 c2 c3 cf cf0 cf3 hnl; obtain ⟨c0, c1, c2, c3, cf⟩ := node_cells nb; have cf3 := cf 3; have hnl := lt_of_heap nb; have hA := HK2.out.ap.next ha2
  have HB : Hid (Below w.heap.size wv ((wv.setCell ⟨w.heap.size, 3, none⟩ (.slice (some ⟨wv.heap.size, 0, none⟩) 1 1)).alloc (.cells #[nPtr q] 22))) := ((Below.refl w.heap.size wv).setCell (p := ⟨w.heap.size, 3, none⟩) (Nat.le_refl _) _).alloc (by simp; omega) _
  have HA := hide (hA.trans (Ap.of HB.out)); have HP := hide (hp2.ap HB.out HLO.out)
  have HOP : Hid (Open w.heap.size ((wv.setCell ⟨w.heap.size, 3, none⟩ (.slice (some ⟨wv.heap.size, 0, none⟩) 1 1)).alloc (.cells #[nPtr q] 22)) (.mk 12 noText 0 [b]) w.heap.size (.slice (some ⟨wv.heap.size, 0, none⟩) 1 1) [q]) := st_open (Nat.le_refl _) (lt_of_heap HK2.out.nd) (set1 wv w.heap.size _) (by simp) ha2.size (by rw [heap_set nb]; rfl) (NAts.cons hn NAts.nil) rfl #[nPtr q] rfl (by simp [maxLen])
  clear hp2 ha2 HC nb hA hn; have hx := hc0; exact zrhX
 ) : G := h
theorem zri {G : Prop} (h : G := by
  obtain ⟨hpl, c0, c1, u, c3, hrow⟩ := hnt.cells; obtain ⟨ua, uc, rfl⟩ := hrow.form; have HNT := hide hnt; have HCS := hide hS.hS; have HCA := hide hS.hA; have HC1 := hide c1; have HC3 := hide c3
  have htc : t.count = 1 + Tr.counts t.kids := by cases t with | mk kd tx nn ks => exact count_mk _ _ _ _
  have hkl : t.kids.length ≤ 1500 := by have := counts_len t.kids; omega
  have HGO := hide (goon ih t hsh ht hc hrow hS s i); have hen0 := eaEn88; have hen1 := eaEn89; have HROW := hide hrow; have HB0 := hide (Below.refl w.heap.size w); exact zriX
 ) : G := h
theorem zrj {G : Prop} (h : G := by
  have HPW := hide h; have HLT := hide h.rlt; have h0 := h.c0; have h1 := h.c1; have f1 := h.fz 1; obtain ⟨k0, k1, k2, k3⟩ := h.toks; have hlt : (i : Int) < (c.l.length : Int) := by have := h.lt; omega
  have hl3 := h.base.len; have hR := h.rlt; have hT := h.base.tlt; have hR1 : c.P < w.heap.size + 1 := by omega
  have hR2 : c.P < w.heap.size + 1 + 1 := by omega
  have hT1 : c.tb < w.heap.size + 1 := by omega
  have hT2 : c.tb < w.heap.size + 1 + 1 := by omega
  have HC1 := hide (rok_new ((h.alloc (boxA c)).alloc (boxB d))); have b1 : ((tkA c.l i).kd == 1) = false := beq_eq_false_iff_ne.2 hn1; have b3 : ((tkA c.l i).kd == 3) = false := beq_eq_false_iff_ne.2 hn3
  have b4 : ((tkA c.l i).kd == 4) = false := beq_eq_false_iff_ne.2 hn4
  have hx := rnext_any c (((w.alloc (boxA c)).alloc (boxB d)).alloc (tokO (tkA c.l i))).drew i tOpen (by decide) ((((h.alloc (boxA c)).alloc (boxB d)).alloc (tokO (tkA c.l i))).drew); exact zrjX
 ) : G := h
theorem zrk {G : Prop} (h : G := by
  have HPW := hide h; have HLT := hide h.rlt; have h0 := h.c0; have h1 := h.c1; have f1 := h.fz 1; obtain ⟨k0, k1, k2, k3⟩ := h.toks; have hlt : (i : Int) < (c.l.length : Int) := by have := h.lt; omega
  have hl3 := h.base.len; have hR := h.rlt; have hT := h.base.tlt; have hR1 : c.P < w.heap.size + 1 := by omega
  have hR2 : c.P < w.heap.size + 1 + 1 := by omega
  have hT1 : c.tb < w.heap.size + 1 := by omega
  have hT2 : c.tb < w.heap.size + 1 + 1 := by omega
  have HC1 := hide (rok_new ((h.alloc (boxA c)).alloc (boxB d))); exact zrkX
 ) : G := h
theorem zrl {G : Prop} (h : G := by
  refine wh 4 (rPtr c) HR0.out.drew ?_; refine wq1 5 fun K hK => ?_; go_simp; refine cm (fixed_any c _ i d HR0.out.drew) ?_; rintro e wq ⟨rfl, hbq⟩; have HRq := hide (HR0.out.drew.later hbq)
  have HAq := hide (HA0.out.next (Ap.of ((Below.refl _ _).drew.trans hbq))); clear hbq; refine hK.out _ _ HRq.out (fun _ => ?_); clear hK K
  refine wg 6 (.tuple #[.nilFunc, .bool false]) rfl (Or.inl ⟨by kernel_rfl, fun W hW => by have hh := HL.out W hW; go_simp⟩) HRq.out ?_
  refine wh 7 (.tuple #[.nilFunc, .bool false]) HRq.out ?_; refine wh 8 .nilFunc HRq.out ?_; refine wh 9 (.bool false) HRq.out ?_; refine wh 10 .nilFunc HRq.out ?_; refine wh 11 (.bool false) HRq.out ?_
  refine wpAnyH_done (by kernel_rfl) ?_ _; go_simp; exact zrlX
 ) : G := h
theorem zrm {G : Prop} (h : G := by
  have hL1 : Lists ws gs (w.alloc O35) := hL.later ((Below.refl _ _).alloc (Nat.le_refl _) _); have HLS := hide hL1; have HR := hide hr; have HL := hide hl; clear hL hL1 hr hl; go_enter Tryz.func109, Tryz.ntmps109
  go_wp2_with fail; refine (letter_any _).mono ?_; rintro e1 w1 ⟨x, rfl, ⟨f1, c1, rfl, ef1, hf1⟩, hbel⟩; have HF1 := hide (hf1 w1 (Below.refl _ _)); have HBEL := hide hbel; clear hf1 hbel; go_wp2_with fail
  refine cm (unhide HF1 _) ?_; rw [HL.out]; rintro e2 w2 ⟨rfl, rfl⟩; go_wp2_with fail; exact zrmX
 ) : G := h
theorem zrn {G : Prop} (h : G := by
  have HLT := hide h.rlt; have HLO := hide h.base.size; have HO := hide ho; have HF := hide hF; have HNN := hide hN; have HKK := hide hK; have hdd : decide ((30 : Int) < (d : Int)) = false := decide_eq_false (by omega)
  have n0 : ¬ fx c.l i = tLBrace := by rw [hf]; decide
  have n1 : ¬ fx c.l i = tSemi := by rw [hf]; decide
  have n2 : ¬ fx c.l i = tFunction := by rw [hf]; decide
  have n3 : ¬ fx c.l i = tIf := by rw [hf]; decide
  exact zrnX
 ) : G := h
theorem zro {G : Prop} (h : G := by
  have HLT := hide h.rlt; have HLO := hide h.base.size; have HO := hide ho; have HF := hide hF; have HNN := hide hN; have HKK := hide hK; have hdd : decide ((30 : Int) < (d : Int)) = false := decide_eq_false (by omega)
  have n0 : ¬ fx c.l i = tLBrace := by rw [hf]; decide
  have n1 : ¬ fx c.l i = tSemi := by rw [hf]; decide
  exact zroX
 ) : G := h
theorem zrp {G : Prop} (h : G := by
  clear hbq; refine hK.out _ _ HRq.out (fun _ => ?_); clear hK K; refine wg 6 (.tuple #[.nilFunc, .bool false]) rfl (Or.inl ⟨by kernel_rfl, fun W hW => by have hh := HL.out W hW; go_simp⟩) HRq.out ?_
  refine wh 7 (.tuple #[.nilFunc, .bool false]) HRq.out ?_; refine wh 8 .nilFunc HRq.out ?_; refine wh 9 (.bool false) HRq.out ?_; refine wh 10 .nilFunc HRq.out ?_; refine wh 11 (.bool false) HRq.out ?_
  refine wpAnyH_done (by kernel_rfl) ?_ _; go_simp; exact zrpX
 ) : G := h
theorem zrq {G : Prop} (h : G := by
  have HLT := hide h.rlt; have HLO := hide h.base.size; have HO := hide ho; have HF := hide hF; have HNN := hide hN; have HKK := hide hK; have hdd : decide ((30 : Int) < (d : Int)) = false := decide_eq_false (by omega)
  exact zrqX
 ) : G := h
theorem zrr {G : Prop} (h : G := by
  have htc : t.count = 1 + Tr.counts t.kids := by cases t with | mk kd tx nn ks => exact count_mk _ _ _ _
  have hkl : t.kids.length ≤ 20000 := by have := counts_len t.kids; omega
  obtain ⟨wA, hwA⟩ : ∃ wA, wA = w.alloc (.cells #[.bool s, .bool i, .bool b] 112) := ⟨_, rfl⟩; have hbA : Below w.heap.size w wA := by rw [hwA]; exact (Below.refl _ _).alloc (Nat.le_refl _) _
  have hpA : PlAt w.heap.size s i b wA := by rw [hwA]; exact PlAt.new _ _ _ _
  have hnA := h.later hbA; obtain ⟨hpl, c0, c1, u, c3, hr⟩ := h.cells; rw [hkd] at c0; have HBA := hide hbA; have HPL := hide hpA; exact zrrX
 ) : G := h
theorem zrs {G : Prop} (h : G := by
  rw [decide_eq_false n5] at hc; have HC := hide hc; clear hc; go_wp2_with fail; refine cm HC.out ?_; rintro e w6 ⟨rfl, hb⟩; have HS6 := hide (HS5.out.below hb); clear hb HC HS5
  have HC := hide (rskip_yes c w6 i tTry (by decide) hf HS6.out.ps); go_wp2_with fail; refine cm HC.out ?_; rintro e w7 ⟨rfl, hp, ha⟩; have HS7 := hide (HS6.out.on HLT.out hp ha); clear hp ha HC HS6; clear ho hF hN hK
  obtain ⟨i0, hi0, hz0, hz1, hz2⟩ := info_parts info22; have HK2 := hide (HS7.out.kind HLO.out 12); have hPN : c.P < w.heap.size := unhide HLT; have nb := HS7.out.nd; obtain ⟨c0, c1, c2, c3, cf⟩ := node_cells nb
  have cf0 := cf 0; have cf3 := cf 3; have hnl := lt_of_heap nb; clear nb; exact zrsX
 ) : G := h
theorem zrt {G : Prop} (h : G := by
  have HC := hide (take_yes c tCatch wn i1 d HRn.out hc (by decide)); go_wp2_with fail; refine cm HC.out ?_; rintro e wc ⟨rfl, hrd, ha⟩; clear HC; have HRc := hide hrd; have HAc := hide (HAn.out.next ha)
  replace HOP := hide (Open.later HOP.out (ha) HLT.out); clear hrd ha; have HC := hide (must_any c tOpen wc (i1 + 1) d HRc.out (by decide)); rw [h2] at HC; go_wp2_with fail; refine cm HC.out ?_; intro e wd hp
  obtain ⟨⟨vd, rfl, rfl⟩, hrd, ha⟩ := hp; clear HC; have HRd := hide hrd; have HAd := hide (HAc.out.next ha); replace HOP := hide (Open.later HOP.out (ha) HLT.out); clear hrd ha
  have HC := hide (name_any c wd i2 d HRd.out); rw [h3] at HC; go_wp2_with fail; refine cm HC.out ?_; intro e we hp; obtain ⟨⟨ve, rfl, rfl⟩, hrd, ha⟩ := hp; clear HC; have HRe := hide hrd
  have HAe := hide (HAd.out.next ha); replace HOP := hide (Open.later HOP.out (ha) HLT.out); clear hrd ha; have HC := hide (must_any c tShut we i3 d HRe.out (by decide)); rw [h4] at HC; go_wp2_with fail
  refine cm HC.out ?_; intro e wg1 hp; obtain ⟨⟨vg1, rfl, rfl⟩, hrd, ha⟩ := hp; clear HC; have HRg1 := hide hrd; have HAg1 := hide (HAe.out.next ha); replace HOP := hide (Open.later HOP.out (ha) HLT.out); clear hrd ha
  have HCC := hide (block_any hF hN wg1.drew d i4 _ rfl (by rw [h5]; nofun) HRg1.out.drew)
  rw [h5] at HCC; obtain ⟨hc3, hcf, hcl⟩ := HOP.out.cell; exact zrtX
 ) : G := h
theorem zru {G : Prop} (h : G := by
  clear h; go_enter Tryz.func278, Tryz.ntmps278; go_wp2_with fail; refine wp_region_held (S := fun W => Rdr c W i d) (by kernel_rfl) ?_; change wpAnyH _ _ _ _ _ _ _ _ (World.drew _); refine wh 0 (rPtr c) HR0.out.drew ?_
  refine wh 1 (rPtr c) HR0.out.drew ?_; refine wh 2 (.pointer (some ⟨c.R, 5, none⟩)) HR0.out.drew ?_
  refine wg 3 (.map (some c.mV)) rfl (Or.inl ⟨by kernel_rfl, fun W hW => by have hh := Rdr.c5 hW; go_simp⟩) HR0.out.drew ?_
  refine wh 4 (rPtr c) HR0.out.drew ?_; refine wq1 5 fun K hK => ?_; go_simp; refine cm (fixed_any c _ i d HR0.out.drew) ?_; exact zruX
 ) : G := h
theorem zrv {G : Prop} (h : G := by
  rw [decide_eq_false n5] at hc; have HC := hide hc; clear hc; go_wp2_with fail; refine cm HC.out ?_; rintro e w6 ⟨rfl, hb⟩; have HS6 := hide (HS5.out.below hb); clear hb HC HS5
  have HC := hide (rskip_no c w6 i tTry (by decide) n6 HS6.out.ps); go_wp2_with fail; refine cm HC.out ?_; rintro e w7 ⟨rfl, hb⟩; have HS7 := hide (HS6.out.below hb); clear hb HC HS6
  have hc := rnext_any c w7 i tVar (by decide) HS7.out.ps; rw [decide_eq_false n7] at hc; have HC := hide hc; clear hc; go_wp2_with fail; refine cm HC.out ?_; rintro e w8 ⟨rfl, hb⟩; have HS8 := hide (HS7.out.below hb)
  clear hb HC HS7; have hc := rnext_any c w8 i tLet (by decide) HS8.out.ps; rw [decide_eq_false n8] at hc; have HC := hide hc; clear hc; go_wp2_with fail; refine cm HC.out ?_; rintro e w9 ⟨rfl, hb⟩
  have HS9 := hide (HS8.out.below hb); clear hb HC HS8; have hc := rnext_any c w9 i tConst (by decide) HS9.out.ps; rw [decide_eq_false n9] at hc; have HC := hide hc; clear hc; go_wp2_with fail; refine cm HC.out ?_
  rintro e w10 ⟨rfl, hb⟩; have HS10 := hide (HS9.out.below hb); clear hb HC HS9; exact zrvX
 ) : G := h
theorem zrw {G : Prop} (h : G := by
  go_enter Tryz.func278, Tryz.ntmps278; go_wp2_with fail; refine wp_region_held (S := fun W => Rdr c W i d) (by kernel_rfl) ?_; change wpAnyH _ _ _ _ _ _ _ _ (World.drew _); refine wh 0 (rPtr c) HR0.out.drew ?_
  refine wh 1 (rPtr c) HR0.out.drew ?_; refine wh 2 (.pointer (some ⟨c.R, 5, none⟩)) HR0.out.drew ?_
  refine wg 3 (.map (some c.mV)) rfl (Or.inl ⟨by kernel_rfl, fun W hW => by have hh := Rdr.c5 hW; go_simp⟩) HR0.out.drew ?_
  exact zrwX
 ) : G := h
theorem zrx {G : Prop} (h : G := by
  go_enter Tryz.func256, Tryz.ntmps256; go_wp2_with fail; refine cm HC1.out ?_; rintro e w1 ⟨rfl, rfl⟩; clear HC1; go_wp2_with fail
  go_region
  go_wp2_with fail; refine cm HX.out ?_; rintro e w1 ⟨rfl, hb⟩; have HP1 := hide (((((HPW.out.alloc (boxA c)).alloc (boxB d)).alloc (tokO (tkA c.l i))).drew).later hb)
  have HA1 := hide ((fst_ap c w d (tokO (tkA c.l i))).next (Ap.of hb)); have HB1 := hide ((box2_new c w d (tokO (tkA c.l i)) hR).ap (Ap.of hb))
  have HT1 : Hid (w1.heap[w.heap.size + 2]? = some (tokO (tkA c.l i))) := (hb.block (w.heap.size + 2) (by simp)).trans (new_obj (by simp)); have q0 := HB1.out.p.cell; clear hb HX h0 h1 k0 k1 k2 k3; exact zrxX
 ) : G := h
theorem zry {G : Prop} (h : G := by
  obtain ⟨R, hR⟩ : ∃ R, R = rck (d + 1) t s i := ⟨_, rfl⟩; rw [← hR]; have hsr : sR t s = s := by unfold sR; rw [hfu]; rfl
  have hir : i2 t i = i := by unfold i2; rw [hfu]; rfl
  have hpr : partsE t = t.kids := by unfold partsE; rw [hfu]; rfl
  rw [rck, hsr, hir, hpr] at hR; exact zryX
 ) : G := h
theorem zrz {G : Prop} (h : G := by
  have HST := hide (fun W (hW : Below w.heap.size w W) => strictE_any t p W (hnb W hW))
  have HBK : Hid (isFunT t = true → ∀ W, Below w.heap.size w W → Calls Tryz.prog 142 #[nPtr p] W fun e w' => (∃ q, e = .returned (nPtr q) ∧ NTr W (kidT t 1) q) ∧ w' = W) := fun hf W hW => blockE_any t p W (hnb W hW) (by
   have : need t.kd = 2 := by
    exact zbel
   omega) (by omega)
  have HSQ := hide (fun (q : Nat) (W : World) (hq : NTr W (kidT t 1) q) => strictE_any (kidT t 1) q W hq); exact zrzX
 ) : G := h
theorem zrba {G : Prop} (h : G := by
  go_enter Tryz.func279, Tryz.ntmps279; have HC := hide (token_any c w i d HR0.out); unfold tkV at HC; have hfl := fldKind (tkA c.l i); go_wp2_with fail; refine cm HC.out ?_; rintro e wt ⟨rfl, hbt⟩; clear HC
  have HRt := hide (HR0.out.later hbt); have HBt := hide hbt; clear hbt; go_wp2_with fail; refine wp_region_held (S := fun W => Rdr c W i d) (by kernel_rfl) ?_; change wpAnyH _ _ _ _ _ _ _ _ (World.drew _)
  refine wh 0 (rPtr c) HRt.out.drew ?_; refine wh 1 (rPtr c) HRt.out.drew ?_; refine wh 2 (.pointer (some ⟨c.R, 5, none⟩)) HRt.out.drew ?_
  refine wg 3 (.map (some c.mV)) rfl (Or.inl ⟨by kernel_rfl, fun W hW => by have hh := Rdr.c5 hW; go_simp⟩) HRt.out.drew ?_
  refine wh 4 (rPtr c) HRt.out.drew ?_; refine wq1 5 fun K hK => ?_; go_simp; refine cm (fixed_any c _ i d HRt.out.drew) ?_; rintro e wq ⟨rfl, hbq⟩; have HRq := hide (HRt.out.drew.later hbq)
  have HBq := hide (HBt.out.trans (((Below.refl _ _).drew.trans hbq).mono HBt.out.size)); exact zrbaX
 ) : G := h
theorem zrbb {G : Prop} (h : G := by
  clear hr HQ2; go_wp2_with fail; refine cm HC2.out ?_; rintro e wv ⟨⟨v, rfl, q2, rfl, hn2⟩, hp2, ha2⟩; have nb := (ha2.block _ (lt_of_heap HNB.out) (by have := unhide HLT; omega)).trans HNB.out
  obtain ⟨c0, c1, c2, c3, cf⟩ := node_cells nb; have cf3 := cf 3; have hnl := lt_of_heap nb; have hA := HA0.out.next ha2
  have HB : Hid (Below w.heap.size wv ((wv.setCell ⟨w.heap.size, 3, none⟩ (.slice (some ⟨wv.heap.size, 0, none⟩) 2 2)).alloc (.cells #[nPtr q, nPtr q2] 22))) := ((Below.refl w.heap.size wv).setCell (p := ⟨w.heap.size, 3, none⟩) (Nat.le_refl _) _).alloc (by simp; omega) _
  have HA := hide (hA.trans (Ap.of HB.out)); have HP := hide (hp2.ap HB.out HLO.out); have HZW := hide (lt_of_heap HK2.out.nd)
  have n1' := nv_at (NV.later ⟨q, rfl, HN0.out⟩ ha2 (by have h1 := unhide HLT; have h2 := unhide HZW; omega))
  have n2' := NAt.mono (J := fun b => _ ≤ b) (fun b hb _ => Nat.le_trans HZ0.out hb) _ _ hn2; exact zrbbX
 ) : G := h
theorem zrbc {G : Prop} (h : G := by
  have HAt2 := hide (HAwt.out.alloc HAwt.out.size (.cells #[.int .i64 (tkA c.l i).kd, .string (tkA c.l i).tx, .int .i64 (tkA c.l i).n, .int .i64 ((tkA c.l i).pl : Int)] 123))
  have HRt2 := hide (HRwt.out.alloc (.cells #[.int .i64 (tkA c.l i).kd, .string (tkA c.l i).tx, .int .i64 (tkA c.l i).n, .int .i64 ((tkA c.l i).pl : Int)] 123)); exact zrbcX
 ) : G := h
theorem zrbd {G : Prop} (h : G := by
  have HOB := hide hOB; clear hown hk4 HK4 hOB hlen
  go_wp2_with (at_builtin; refine wpList_append_lies _ rfl _ _ 36 rfl w.heap.size 22 i0 (.pointer none) 1 8 Tryz.underlying36 hi0 hz0 hz1 hz2 rfl (by decide) _ _ _ rfl (HOWN.out.alloc _) ⟨w4.heap.size, 0, none⟩ 1 1 [nPtr p4] rfl rfl (one_cells w4 p4 _ rfl) (one_one p4) (by decide) (by unfold maxLen; omega) (by omega) (by simp; omega) (w4.heap.size + 1) (by simp) ?_)
  intro g cap w5 hown' hgrow hg _
  have HK5 : Hid (KV w.heap.size w5 (acc ++ [t]) (.slice (some ⟨g, 0, none⟩) (acc.length + 1) cap)) := kv_push HKK.out (NAts.cons HN4.out NAts.nil) (by rw [List.map_append]; exact hown') (by simp [HLEN.out]) hgrow hg
  have HA5 := hide ((HA4.out.alloc hsz (.cells #[nPtr p4] 22)).grown hgrow (by simp; omega) (fun k hk => (unhide HOB k hk).2))
  exact zrbdX
 ) : G := h
theorem zrbe {G : Prop} (h : G := by
  change wpAnyH _ _ _ _ _ _ _ _ (World.drew _); refine wh 0 (alV bW) hS0 ?_ (hy := Or.inl ⟨by kernel_rfl, fun X hX => by have hh := keepC hX eA; go_simp⟩)
  refine wh 1 (nPtr p) hS0 ?_; refine wh 2 (nPtr p) hS0 ?_; refine wh 3 (.pointer (some ⟨p, 3, none⟩)) hS0 ?_; exact zrbeX
 ) : G := h
theorem zrbf {G : Prop} (h : G := by
  have hlt : 2 < w.heap.size := (Array.getElem?_eq_some_iff.1 hg).1; have HE := hide he; have HG := hide hg; have HN := hide hn; have HW := hide hw; clear hg hn he hw; go_enter Tryz.func152, Tryz.ntmps152; go_wp2_with fail
  refine (lod_any _).mono ?_; rintro e1 w1 ⟨x, rfl, hx, hbel⟩; obtain ⟨hc, hf⟩ := bcell hbel; have HBEL := hide hbel; have HX := hide hx; clear hx hbel; go_wp2_with fail
  have hpast := past_any s k x lodB w1 (by unfold maxLen; omega) (by omega) HX.out
  rw [HE.out] at hpast; refine hpast.mono ?_; clear hpast; rintro e2 w2 ⟨rfl, rfl⟩; have HG2 : Hid (w2.heap[2]? = some (.cells (ws.map Value.string).toArray t fr)) := by
   exact zbfi
  go_wp2_with fail; refine (isWord_any ws (s.extract k e) w2 HN.out t fr HG2.out).mono ?_; rw [HW.out]; rintro e3 w3 ⟨rfl, rfl⟩; go_wp2_with fail; exact zrbfX
 ) : G := h
theorem zrbg {G : Prop} (h : G := by
  have HNO := hide hno; have HLET := hide hlet; have HDIG := hide hdig; clear hlet hdig HE hrd hno
  conv => arg 2; whnf
  unfold fr Q6; go_wp2_with fail; refine (isLetter_any _ _).mono ?_; rw [HLET.out]; rintro e1 w1 ⟨rfl, rfl⟩; go_wp2_with fail; refine (isDigit_any _ _).mono ?_; rw [HDIG.out]; rintro e1 w1 ⟨rfl, rfl⟩; go_wp2_with fail
  have HCE := hide (signs_cells w1)
  have HI1 := hide (HI.out.later ((Below.refl _ _).alloc (Nat.le_refl _) (.cells #[.string ⟨#[61, 61, 61]⟩, .string ⟨#[38, 38]⟩, .string ⟨#[124, 124]⟩, .string ⟨#[40]⟩, .string ⟨#[41]⟩, .string ⟨#[123]⟩, .string ⟨#[125]⟩, .string ⟨#[91]⟩, .string ⟨#[93]⟩, .string ⟨#[59]⟩, .string ⟨#[58]⟩, .string ⟨#[44]⟩, .string ⟨#[46]⟩, .string ⟨#[61]⟩, .string ⟨#[43]⟩, .string ⟨#[45]⟩, .string ⟨#[42]⟩, .string ⟨#[60]⟩, .string ⟨#[33]⟩] 9)))
  obtain ⟨N, hN⟩ : ∃ N, N = w1.heap.size := ⟨_, rfl⟩
  obtain ⟨W1, hW1⟩ : ∃ W1, W1 = w1.alloc (.cells #[.string ⟨#[61, 61, 61]⟩, .string ⟨#[38, 38]⟩, .string ⟨#[124, 124]⟩, .string ⟨#[40]⟩, .string ⟨#[41]⟩, .string ⟨#[123]⟩, .string ⟨#[125]⟩, .string ⟨#[91]⟩, .string ⟨#[93]⟩, .string ⟨#[59]⟩, .string ⟨#[58]⟩, .string ⟨#[44]⟩, .string ⟨#[46]⟩, .string ⟨#[61]⟩, .string ⟨#[43]⟩, .string ⟨#[45]⟩, .string ⟨#[42]⟩, .string ⟨#[60]⟩, .string ⟨#[33]⟩] 9) := ⟨_, rfl⟩
  rw [← hW1, ← hN]; rw [← hW1, ← hN] at HCE; rw [← hW1] at HI1; clear hW1 hN rc0 rc1 rf0 rf1 HLR; obtain ⟨rc0, rc1, rf0, rf1⟩ := HI1.out.cells; exact zrbgX
 ) : G := h
theorem zrbh {G : Prop} (h : G := by
  have HB : Hid (Below w.heap.size wv ((wv.setCell ⟨w.heap.size, 3, none⟩ (.slice (some ⟨wv.heap.size, 0, none⟩) 1 1)).alloc (.cells #[nPtr q] 22))) := ((Below.refl w.heap.size wv).setCell (p := ⟨w.heap.size, 3, none⟩) (Nat.le_refl _) _).alloc (by simp; omega) _
  have HA := hide (hA.trans (Ap.of HB.out)); exact zrbhX
 ) : G := h
theorem zrbi {G : Prop} (h : G := by
  have HL : Hid (∀ W : World, Rdr c W i d → (Instr.lookup 168 (.map (some c.mV)) (.string (fx c.l i)) true).run Tryz.prog W = .ok (.tuple #[.nilFunc, .bool false]) W) := fun W hW => by
   exact zbdb
  clear hq; have HR0 := hide h; have HA0 := hide (Ap.refl c.R w.heap.size w); have HLT := hide h.rlt; have HEN := hide h.base.ends; have HLL := hide h.lt; have hL := h.base.len; have HSG := hide hsg; exact zrbiX
 ) : G := h
theorem zrbj {G : Prop} (h : G := by
  go_simp; refine hK.out _ _ (unhide HR') (fun _ => ?_); clear hK K; refine wq1 5 fun K hK => ?_; go_simp; refine cm (HT.out _ (unhide HR')) ?_; rintro e w1 ⟨rfl, hb⟩; obtain ⟨hr1, hbw, p0, p1⟩ := sf_two HR0.out hb
  obtain ⟨r0, r1, r2, r3, rf, rlt⟩ := c160 p1; have HR1 := hide hr1; have HW := hide hbw; have P0 := hide p0; have P1 := hide p1; clear hb hr1 hbw p0 p1; refine hK.out _ _ HR1.out (fun _ => ?_); clear hK K
  refine wg 6 (.tuple #[.agg #[.string x.tx, .int .i64 x.kd, .int .i64 x.parts, .int .i64 x.str], .bool true]) rfl (Or.inl ⟨by kernel_rfl, fun W hW => by have hh := HL.out W hW; go_simp⟩) HR1.out ?_
  refine wh 7 (.tuple #[.agg #[.string x.tx, .int .i64 x.kd, .int .i64 x.parts, .int .i64 x.str], .bool true]) HR1.out ?_; refine wh 8 (.agg #[.string x.tx, .int .i64 x.kd, .int .i64 x.parts, .int .i64 x.str]) HR1.out ?_
  refine wh 9 (.bool true) HR1.out ?_; refine wq1 11 fun K hK => ?_; go_simp; clear r0 r1 r2 r3 rf rlt
  obtain ⟨W2, hW2⟩ : ∃ W2, W2 = (((w1.setCell ⟨w.heap.size + 1, 0, none⟩ (.string x.tx)).setCell ⟨w.heap.size + 1, 1, none⟩ (.int .i64 x.kd)).setCell ⟨w.heap.size + 1, 2, none⟩ (.int .i64 x.parts)).setCell ⟨w.heap.size + 1, 3, none⟩ (.int .i64 x.str) := ⟨_, rfl⟩
  obtain ⟨hr2, hb2, ⟨q0, q1, q2, q3, qf, qlt⟩, ⟨s0, s1, s2, s3, sf, slt⟩⟩ := w2_any (v0 := .string x.tx) (v1 := .int .i64 x.kd) (v2 := .int .i64 x.parts) (v3 := .int .i64 x.str) HR1.out HR0.out.base.size P0.out P1.out HW.out hW2
  exact zrbjX
 ) : G := h
end Go.Proofs.YtodmgaikhbmlnaaGreatDoor
