/-
  Parts of proofs that stand more than once.
-/
import Derived.Test.YtodmgaikhbmlnaaGreatDoorEc12
set_option maxRecDepth 100000
set_option maxHeartbeats 16000000
namespace Go.Proofs.YtodmgaikhbmlnaaGreatDoor
open Go.RowKit
theorem zbbe {G : Prop} (h : G := by
  go_wp2_with fail; clear c3 hcq0 hcq1 p3 f3
  cases hsp : (true && isSp tx) with
  | true =>
   rw [hsp] at HSP; have hRe : R = some 5 := by rw [HRR.out]; unfold nmE; rw [hsp]; rfl
   subst hRe; clear hsp; have hS0 : Below w.heap.size w w.drew := (Below.refl _ _).drew; have eS := keepC HB0.out HCS.out; have e1 := keepC HB0.out HC1.out
   refine wp_region_held (S := fun X => Below w.heap.size w X) (by kernel_rfl) ?_; change wpAnyH _ _ _ _ _ _ _ _ (World.drew _)
   refine wh 0 spV hS0 ?_ (hy := Or.inl ⟨by kernel_rfl, fun X hX => by have hh := keepC hX eS; go_simp⟩)
   refine wh 1 (nPtr p) hS0 ?_; refine wh 2 (nPtr p) hS0 ?_; refine wh 3 (.pointer (some ⟨p, 1, none⟩)) hS0 ?_; refine wh 4 (.string tx) hS0 ?_ (hy := Or.inl ⟨by kernel_rfl, fun X hX => by have hh := keepC hX e1; go_simp⟩)
   refine wh 5 (.bool true) hS0 ?_; exact zcay
  | false =>
   rw [hsp] at HSP
   have hRe : R = match (match (match parE true PS with | some e => some e | none => if (letsT (kidT t 1)).any (fun k => namedB PS k.tx) then some 9 else none) with | some e => some e | none => oE (rtw (kidT t 1) true) 9) with | some e => some e | none => allR (fun k => rck d k true true) (kidT t 1).kids := by rw [HRR.out]; unfold nmE; rw [hsp]; rfl
   clear hsp; exact fn_rest_t
 ) : G := h
theorem zbbf {G : Prop} (h : G := by
  refine hK _ _ ?_; clear hK K; refine wr1 9 fun K hK => ?_; go_simp; refine hK _ _ ?_; clear hK K; refine wpAny_same (listed' := tf 10 4) (by kernel_rfl) rfl ?_; exact CONT wc pc HY.out
 ) : G := h
theorem zbbg {G : Prop} (h : G := by
  refine hK _ _ ?_; clear hK K; refine wr1 8 fun K hK => ?_; go_simp; refine hK _ _ ?_; clear hK K; refine wt 9 (.agg #[.int .i64 14, .string noText, .int .i64 0, .slice (some ⟨wc.heap.size, 0, none⟩) 1 1]) ?_
  refine wr1 10 fun K hK => ?_; go_simp; refine hK _ _ ?_; clear hK K; refine wr1 11 fun K hK => ?_; go_simp; refine hK _ _ ?_; clear hK K; refine wpAny_same (listed' := tf 12 4) (by kernel_rfl) rfl ?_
  exact CONT wc pc HHY.out
 ) : G := h
theorem zbbh {G : Prop} (h : G := by
  refine hK.out _ _ hS0 (fun _ => ?_); clear hK K; refine wh 23 (.bool false) hS0 ?_; refine wpAnyH_done (by kernel_rfl) ?_ _; go_simp; obtain ⟨w1, hw1⟩ : ∃ w1, w1 = w.drew := ⟨_, rfl⟩; rw [← hw1]
  have HB1 : Hid (Below w.heap.size w w1) := by rw [hw1]; exact HB0.out.drew
  clear hS0 e3 eq f0 f1 eS hw1; go_wp2_with fail; have hS0 : Below w1.heap.size w1 w1.drew := (Below.refl _ _).drew; have eA := keepC HB1.out HCA.out; have e3 := keepC HB1.out HC3.out
  refine wp_region_held (S := fun X => Below w1.heap.size w1 X) (by kernel_rfl) ?_; change wpAnyH _ _ _ _ _ _ _ _ (World.drew _)
  refine wh 0 (alV bW) hS0 ?_ (hy := Or.inl ⟨by kernel_rfl, fun X hX => by have hh := keepC hX eA; go_simp⟩)
  refine wh 1 (nPtr p) hS0 ?_; refine wh 2 (nPtr p) hS0 ?_; refine wh 3 (.pointer (some ⟨p, 3, none⟩)) hS0 ?_
  refine wh 4 (.slice (some ⟨g, 0, none⟩) t.kids.length uc) hS0 ?_ (hy := Or.inl ⟨by kernel_rfl, fun X hX => by have hh := keepC hX e3; go_simp⟩)
  refine wh 5 (.bool s) hS0 ?_; refine wh 6 (.bool i) hS0 ?_; refine wq1 7 fun K hK => ?_; go_simp; refine cm (HGO.out _ (HB1.out.trans (hS0.mono HB1.out.size))) ?_; rintro e w9 ⟨rfl, hb9⟩
  have hS9 : Below w1.heap.size w1 w9 := hS0.trans (hb9.mono (Nat.le_refl _)); refine hK.out _ _ hS9 (fun _ => ?_); clear hK K; refine wh 8 (eI R) hS9 ?_; refine wpAnyH_done (by kernel_rfl) ?_ _; go_simp
  have HB9 := hide (HB1.out.trans (hS9.mono HB1.out.size)); exact zcbq
 ) : G := h
theorem zbbi {G : Prop} (h : G := by
  obtain ⟨ps, hown, hk4⟩ := unhide HK4; have hlen := NAts.length _ _ hk4; have hOB := own_lt hown; rw [hlen] at hown; have HOWN := hide hown; have HLEN := hide hlen; have HKK := hide hk4; have hsz := HA4.out.size
  have HOB := hide hOB; clear hown hk4 HK4 hOB hlen
  go_wp2_with (at_builtin; refine wpList_append_lies _ rfl _ _ 36 rfl w.heap.size 22 i0 (.pointer none) 1 8 Tryz.underlying36 hi0 hz0 hz1 hz2 rfl (by decide) _ _ _ rfl (HOWN.out.alloc _) ⟨w4.heap.size, 0, none⟩ 1 1 [nPtr p4] rfl rfl (one_cells w4 p4 _ rfl) (one_one p4) (by decide) (by unfold maxLen; omega) (by omega) (by simp; omega) (w4.heap.size + 1) (by simp) ?_)
  intro g cap w5 hown' hgrow hg _; have HB5 := hide (((Below.refl w.heap.size w4).alloc hsz (.cells #[nPtr p4] 22)).grown hgrow (by simp; omega) (fun k hk => (unhide HOB k hk).2))
  have HA5 := hide ((HA4.out.alloc hsz (.cells #[nPtr p4] 22)).grown hgrow (by simp; omega) (fun k hk => (unhide HOB k hk).2))
  have HP5 : Hid (∃ j, Ps c w5 j er (pl : Int)) := by
   obtain ⟨j2, hp⟩ := unhide HP4; exact ⟨j2, hp.ap HB5.out HLO.out⟩
  have HZ5 : Hid (RowZ w.heap.size w5 (.slice (some ⟨g, 0, none⟩) (acc.length + 1) cap)) := ⟨ps ++ [p4], by have := unhide HLEN; simp; omega, by have hl := unhide HLEN; rw [List.length_append, List.length_singleton, hl, List.map_append]; exact hown'⟩
  clear hown' hgrow hg HKK HOWN; go_wp2_with fail
  go_roundg k
  case measure => omega
  case rel => exact Or.inr ⟨er, pl, HQQ.out, he, HP5.out, HA5.out, HZ5.out⟩
 ) : G := h
theorem zbbj {G : Prop} (h : G := by
  obtain ⟨ps, hown, hk4⟩ := unhide HK4; have hlen := NAts.length _ _ hk4; have hOB := own_lt hown; rw [hlen] at hown; have HOWN := hide hown; have HLEN := hide hlen; have HKK := hide hk4; have hsz := HA4.out.size
  have HOB := hide hOB; clear hown hk4 HK4 hOB hlen
  go_wp2_with (at_builtin; refine wpList_append_lies _ rfl _ _ 36 rfl w.heap.size 22 i0 (.pointer none) 1 8 Tryz.underlying36 hi0 hz0 hz1 hz2 rfl (by decide) _ _ _ rfl (HOWN.out.alloc _) ⟨w4.heap.size, 0, none⟩ 1 1 [nPtr p4] rfl rfl (one_cells w4 p4 _ rfl) (one_one p4) (by decide) (by unfold maxLen; omega) (by omega) (by simp; omega) (w4.heap.size + 1) (by simp) ?_)
  intro g cap w5 hown' hgrow hg _; have HB5 := hide (((Below.refl w.heap.size w4).alloc hsz (.cells #[nPtr p4] 22)).grown hgrow (by simp; omega) (fun k hk => (unhide HOB k hk).2))
  have HA5 := hide ((HA4.out.alloc hsz (.cells #[nPtr p4] 22)).grown hgrow (by simp; omega) (fun k hk => (unhide HOB k hk).2))
  have HK5 : Hid (KV w.heap.size w5 (acc ++ [t]) (.slice (some ⟨g, 0, none⟩) (acc.length + 1) cap)) := kv_push HKK.out (NAts.cons HN4.out NAts.nil) (by rw [List.map_append]; exact hown') (by simp [HLEN.out]) hgrow hg
  have HP5 := hide (HP4.out.ap HB5.out HLO.out); have HKW5 := hide (HPC.out.kept _ _ _ HKW4.out HB5.out HLB.out); clear hown' hgrow hg HKK HOWN; go_wp2_with fail
  go_roundg k
  case measure => omega
  case rel => exact Or.inl ⟨acc ++ [t], j2, HQQ.out, HK5.out, HP5.out, HA5.out, by have hh := unhide HLE8; simp; omega, HKW5.out⟩
 ) : G := h
theorem zbbk {G : Prop} (h : G := by
  go_simp; refine hK2 _ _ ?_; clear hK2 K2; refine wpAny_ready (rs := [5]) (by kernel_rfl) (by simp) ?_; refine AllReady.cons rfl (fun K2 hK2 => ?_) AllReady.nil
  refine step_append_lies _ (by rfl) _ _ 61 (by rfl) (w.heap.size + 1) 68 i0 noTok 4 40 Tryz.underlying61 hi hz0 hz1 hz2 rfl (by decide) v acc.length _ (by rfl) (HI0.out.own.alloc (.cells #[.int .i64 6, .string ⟨#[]⟩, .int .i64 0, .int .i64 (s.size : Int)] 68)) ⟨W0.heap.size, 0, none⟩ 1 1 [.int .i64 6, .string ⟨#[]⟩, .int .i64 0, .int .i64 (s.size : Int)] (by rfl) (by rfl) (new4_cells _ _ _ _ _) (new4_one _ _ _ _) (by omega) (by unfold maxLen; omega) (by omega) (by have := HI0.out.size; simp; omega) _ rfl ?_
  intro g cap w5 hown' hgrow _ _; refine hK2 _ _ ?_; clear hK2 K2; have hI5 := HI0.out.app (t := (Tk.mk 6 ⟨#[]⟩ 0 s.size)) _ hown' hgrow; have HI5 := hide hI5; have hL5 := hI5.lists HL.out
  obtain ⟨p0, p1, q0, q1⟩ := hI5.cells; have l0 := hL5.f0; have l1 := hL5.f1; clear hown' hgrow hI5 hL5; refine wt 7 (.slice (some ⟨g, 0, none⟩) (acc.length + 1) cap) ?_; exact zcbc
 ) : G := h
theorem zbbl {G : Prop} (h : G := by
  refine wh 4 (rPtr c) HR0.out.drew ?_; refine wq1 5 fun K hK => ?_; go_simp; refine cm (fixed_any c _ i d HR0.out.drew) ?_; rintro e wq ⟨rfl, hbq⟩; have HRq := hide (HR0.out.drew.later hbq)
  have HAq := hide (HA0.out.next (Ap.of ((Below.refl _ _).drew.trans hbq))); clear hbq; refine hK.out _ _ HRq.out (fun _ => ?_); clear hK K
  refine wg 6 (.tuple #[.func (.func f) #[.pointer (some ⟨c.R, 0, none⟩)] #[], .bool true]) rfl (Or.inl ⟨by kernel_rfl, fun W hW => by have hh := HL.out W hW; go_simp⟩) HRq.out ?_
  refine wh 7 (.tuple #[.func (.func f) #[.pointer (some ⟨c.R, 0, none⟩)] #[], .bool true]) HRq.out ?_; refine wh 8 (.func (.func f) #[.pointer (some ⟨c.R, 0, none⟩)] #[]) HRq.out ?_; refine wh 9 (.bool true) HRq.out ?_
  refine wh 10 (.func (.func f) #[.pointer (some ⟨c.R, 0, none⟩)] #[]) HRq.out ?_; refine wh 11 (.bool true) HRq.out ?_; refine wpAnyH_done (by kernel_rfl) ?_ _; go_simp; have HC : Hid _ := unhide HP wq HRq.out
  go_wp2_with fail; refine cm HC.out ?_; intro e w2 hp
  cases r with
  | out => exact absurd rfl HO.out
  | bad er p =>
   obtain ⟨rfl, ha⟩ := hp; exact ⟨rfl, ppBad rfl (HAq.out.next ha)⟩
  | ok x j =>
   obtain ⟨⟨v, rfl, hv⟩, hrd, ha⟩ := hp; have HV := hide (NV.mono hv HAq.out.size); have HR2 := hide hrd; have HA2 := hide (HAq.out.next ha); clear hv hrd ha; go_wp2_with fail; go_ret; exact ppOk rfl HV.out HR2.out HA2.out
 ) : G := h
theorem zbbm {G : Prop} (h : G := by
  refine wq1 7 fun K hK => ?_; go_simp; refine cm (HGO.out _ (HB0.out.trans (hS0.mono HB0.out.size))) ?_; rintro e w9 ⟨rfl, hb9⟩; have hS9 : Below w.heap.size w w9 := hS0.trans (hb9.mono (Nat.le_refl _))
  refine hK.out _ _ hS9 (fun _ => ?_); clear hK K; refine wh 8 (eI R) hS9 ?_; refine wpAnyH_done (by kernel_rfl) ?_ _; go_simp; have HB9 := hide (HB0.out.trans (hS9.mono HB0.out.size)); exact zcbq
 ) : G := h
theorem zbbn {G : Prop} (h : G := by
  have HNN := hide hn; clear hn; have HE := hide he; clear he; go_enter Tryz.func153, Tryz.ntmps153; go_wp2_with fail; refine (digit_any _).mono ?_; rintro e1 w1 ⟨x, rfl, hx, hbel⟩; obtain ⟨hc, hf⟩ := bcell hbel
  have HBEL := hide hbel; have HX := hide hx; clear hx hbel; go_wp2_with fail; have hpast := past_any s k x digB w1 (by unfold maxLen; omega) (by omega) HX.out
  rw [HE.out] at hpast; refine hpast.mono ?_; clear hpast; rintro e2 w2 ⟨rfl, rfl⟩; go_wp2_with fail; have hds : ∀ i, (hi : i < (s.extract k e).size) → digB ((s.extract k e)[i].toNat : Int) = true := fun i hi => by
   exact zcbs
  have hsz := extract_size s k e (by omega) hes; refine (atoi_any (s.extract k e) w2 (by omega) (by omega) hds).mono ?_; rw [HNN.out]; rintro e3 w3 ⟨rfl, hbel3⟩; have hbelA := HBEL.out.trans (hbel3.mono HBEL.out.size)
  clear hc hf HBEL; obtain ⟨hc, hf⟩ := bcell hbelA; have HBEL := hide hbelA; clear hbelA hbel3 hds hsz; go_wp2_with fail
  exact bodyPost_ret (v := .tuple #[.agg #[.int .i64 3, .string ⟨#[]⟩, .int .i64 n, .int .i64 (k : Int)], .int .i64 (e : Int), .nilIface]) (by simp [results, Tryz.results153, go_sem, hc]) rfl ⟨rfl, good_end HBEL.out _ _ _ _⟩
 ) : G := h
theorem zbbo {G : Prop} (h : G := by
  exact zdah
 ) : G := h
theorem zbbp {G : Prop} (h : G := by
  go_enter Tryz.func99, Tryz.ntmps99; go_wp2_with fail
  go_region
  go_wp2_with fail; refine cm (HC.out _) ?_; rintro e w1 ⟨rfl, rfl⟩; clear HC; go_wp2_with fail; go_ret; exact ⟨rfl, ((Below.refl _ _).alloc (Nat.le_refl _) _).drew⟩
 ) : G := h
theorem zbbq {G : Prop} (h : G := by
  exact zcbr
 ) : G := h
theorem zbbr {G : Prop} (h : G := by
  go_wp2_with fail; refine (fail_any _ _ _).mono ?_; rintro e4 w4 ⟨b, rfl, hb, hlb, hbel2⟩; have hbel := HBEL.out.trans (hbel2.mono HBEL.out.size); have hlb2 := Nat.le_trans HBEL.out.size hlb; clear hc hf
  obtain ⟨hc, hf⟩ := bcell hbel; have HB := hide hb; have HBEL2 := hide hbel; clear hb hbel hbel2 hlb; go_wp2_with fail
  exact bodyPost_ret (v := .tuple #[noTok, .int .i64 0, .iface 129 (.pointer (some ⟨b, 0, none⟩))]) (by simp [results, Tryz.results153, go_sem, hc]) rfl ⟨b, rfl, bad_end HBEL2.out hlb2 HB.out _ _ _ _⟩
 ) : G := h
theorem zbbs {G : Prop} (h : G := by
  intro u hu; simp only [List.mem_cons, List.not_mem_nil, or_false] at hu
  rcases hu with rfl | rfl | rfl | rfl <;> rfl
 ) : G := h
theorem zbbt {G : Prop} (h : G := by
  have HC := hide (must_any c tSemi (w3.setCell ⟨p0, 3, none⟩ (.slice (some ⟨g, 0, none⟩) (t0.kids.length + 1) cap)) jx d HM2.out (by decide)); rw [hr] at HC HS; simp only [bind_bad] at HS; clear hr; go_wp2_with fail
  refine cm HC.out ?_; intro e w' hp; obtain ⟨rfl, ha⟩ := hp; exact ⟨rfl, ppBad HS.out.symm (HM3.out.next ha)⟩
 ) : G := h
theorem zbbu {G : Prop} (h : G := by
  exact zcaz
 ) : G := h
theorem zbbv {G : Prop} (h : G := by
  obtain ⟨hc, hf⟩ := bcell hbelA; have HBELA := hide hbelA; have HBB := hide hb; clear hbelA hbel5 hb hlb; go_wp2_with fail
  exact bodyPost_ret (v := .tuple #[noTok, .int .i64 0, .iface 129 (.pointer (some ⟨b, 0, none⟩))]) (by simp [results, Tryz.results109, go_sem, hc]) rfl ⟨b, rfl, bad_end HBELA.out hlb2 HBB.out _ _ _ _⟩
 ) : G := h
theorem zbbw {G : Prop} (h : G := by
  exact zcbj
 ) : G := h
theorem zbbx {G : Prop} (h : G := by
  clear hp3 ha3 HC3; go_wp2_with fail; go_ret; exact ⟨⟨_, rfl, _, rfl⟩, ⟨j3, (HP3.out.alloc _).alloc _⟩, he, (HA3.out.alloc HA3.out.size _).alloc (by have := HA3.out.size; simp; omega) _⟩
 ) : G := h
theorem zbby {G : Prop} (h : G := by
  obtain ⟨hc, hf⟩ := bcell hbelA; have HBELA := hide hbelA; clear hbelA hb5; go_wp2_with fail
  exact bodyPost_ret (v := .tuple #[.agg #[.int .i64 kd, .string tx, .int .i64 n, .int .i64 (k : Int)], .int .i64 (e : Int), .nilIface]) (by simp [results, Tryz.results109, go_sem, hc]) rfl ⟨rfl, good_end HBELA.out _ _ _ _⟩
 ) : G := h
theorem zbbz {G : Prop} (h : G := by
  by_cases h1 : s = tVar
  ·
   subst h1; decide +kernel
  by_cases h2 : s = tLet
  ·
   subst h2; decide +kernel
  by_cases h3 : s = tConst
  ·
   subst h3; decide +kernel
  simp [look2, dcs, h1, h2, h3]
 ) : G := h
theorem zbca {G : Prop} (h : G := by
  have nb := (ha2.block _ (lt_of_heap HNB.out) (by have := unhide HLT; omega)).trans HNB.out
  obtain ⟨c0, c1, c2, c3, cf⟩ := node_cells nb; have cf3 := cf 3; have hnl := lt_of_heap nb; have hA := HA0.out.next ha2
  have HB : Hid (Below w.heap.size wv ((wv.setCell ⟨w.heap.size, 3, none⟩ (.slice (some ⟨wv.heap.size, 0, none⟩) 2 2)).alloc (.cells #[nPtr q, nPtr q2] 22))) := ((Below.refl w.heap.size wv).setCell (p := ⟨w.heap.size, 3, none⟩) (Nat.le_refl _) _).alloc (by simp; omega) _
  have HA := hide (hA.trans (Ap.of HB.out)); have HP := hide (hp2.ap HB.out HLO.out); clear hp2 ha2 HC2 nb hA; have HC3 := hide (rskip_old c _ j2 er pl he tElse HP.out); go_wp2_with fail; refine cm HC3.out ?_
  rintro e wz ⟨rfl, hb⟩; have HA9 := hide (HA.out.next (Ap.of hb)); have HP9 := hide (HP.out.later hb); clear hb HC3 c0 c1 c2 c3 cf cf3 hnl; go_wp2_with fail; go_ret; exact ⟨⟨_, rfl, _, rfl⟩, ⟨j2, HP9.out⟩, he, HA9.out⟩
 ) : G := h
theorem zbcb {G : Prop} (h : G := by
  have hbb : w3.heap[p0]? = wd.heap[p0]? := (hgr3.block p0 (by simp; omega) (fun e => HOd.out.own e.symm)).trans (Below.heap_alloc wd _ p0 ecl)
  exact ⟨World.cell?_of_block (w := wd) hbb, World.frozen?_of_block (w := wd) hbb⟩
 ) : G := h
theorem zbcc {G : Prop} (h : G := by
  have HC := hide (deepV hF wm d (j1 + 1) HRm.out (by rw [hr]; nofun))
  rw [hr] at HC HS; simp only [bind_ok] at HS; clear hr; go_wp2_with fail; refine cm HC.out ?_; intro e w2 hp; obtain ⟨⟨v2, rfl, p2, rfl, hn2⟩, hrd, ha⟩ := hp; clear HC; have HA2 := hide (HAm.out.next ha)
  have HR2 := hide hrd; replace HN1 := hide (nat_later HN1.out ha HLT.out); have HN2 := hide (nat_mono hn2 HAm.out.size); clear hn2; clear hrd ha HAm HRm
  have HC := hide (node_any 24 noText (.slice (some ⟨w2.heap.size, 0, none⟩) 2 2) (w2.alloc (.cells #[nPtr p1, nPtr p2] 22)) ⟨_, _, _, rfl⟩); go_wp2_with fail; refine cm HC.out ?_; rintro e wn ⟨rfl, rfl⟩; clear HC
  go_wp2_with fail; go_ret; obtain ⟨m1, m2, m3⟩ := made HR2.out HA2.out (NAts.cons HN1.out (NAts.cons HN2.out NAts.nil)) (by simp [maxLen]) #[nPtr p1, nPtr p2] rfl 2 rfl 24 noText (w2.heap.size + 1) rfl
  exact ppOk HS.out.symm m1.nv m2 m3
 ) : G := h
theorem zbcd {G : Prop} (h : G := by
  exact zcbn
 ) : G := h
theorem zbce {G : Prop} (h : G := by
  refine wpAnyH_done (by kernel_rfl) ?_ _; go_simp; go_wp2_with fail
  exact bodyPost_ret (v := .tuple #[.agg #[.string ⟨#[]⟩, .int .i64 0, .int .i64 0, .int .i64 0], .bool false]) (by simp [results, Tryz.results274, go_sem, q0, q1, q2, q3]) rfl ⟨rfl, below4 HW2.out (Nat.le_refl _) _ _ _ _⟩
 ) : G := h
theorem zbcf {G : Prop} (h : G := by
  have HC := hide (deepV hF wy.drew d (j1 + 1) HRy.out.drew (by rw [hr]; nofun))
  rw [hr] at HC HS; simp only [bind_bad] at HS; clear hr; go_wp2_with fail; refine wp_region_any (by kernel_rfl) ?_; change wpAny _ _ _ _ _ _ _ (World.drew _); refine wt 0 (nPtr p0) ?_; refine wt 1 (nPtr p0) ?_
  refine wt 2 (nPtr p0) ?_; refine wt 3 (.pointer (some ⟨p0, 3, none⟩)) ?_; refine wt 5 (rPtr c) ?_; refine wt 6 (rPtr c) ?_; refine wt 7 (.func (.func 222) #[rPtr c] #[]) ?_; refine wr2 4 8 (fun K hK => ?_) fun K hK => ?_
  ·
   go_simp; refine hK _ _ ?_; clear hK K; refine wr1 8 fun K hK => ?_; exact zcck
  ·
   exact zcck
 ) : G := h
theorem zbcg {G : Prop} (h : G := by
  rw [hr2] at hp HQ2; have hq : r = .bad er pl := unhide HQ2; subst hq; obtain ⟨⟨v, rfl, rfl⟩, hp2, he, ha2⟩ := hp; have HP2 := hide hp2; have HA2 := hide (HA.out.next ha2); clear hp2 ha2 HC2 hr2; go_wp2_with fail; go_ret
  exact ⟨⟨_, rfl, _, rfl⟩, HP2.out, he, HA2.out⟩
 ) : G := h
theorem zbch {G : Prop} (h : G := by
  have HFF := hide (fits_ways s (tkA c.l j).tx); rw [if_neg (fun h => h5 h.1)] at HQ; have b5 : ((tkA c.l j).kd != 5) = true := bne_iff_ne.2 h5
  rcases unhide HFF with ⟨_, b1⟩ | ⟨_, b1, b2, b3⟩ | ⟨_, b1, b2, b3, b4⟩ | ⟨_, b1, b2⟩ | ⟨_, b1, b2, b3, b4⟩
  all_goals
   have hq : r = .ok t j := HQ.out.symm; subst hq; clear HQ h5 HFF HPC HNX HO HK HSO
   generalize tkA c.l j = tk at *
   go_wp2_with fail; refine cm HC1.out ?_; rintro e w2 ⟨rfl, rfl⟩; clear HC1; go_wp2_with fail
   go_region
   go_wp2_with fail
   go_region
   go_wp2_with fail; go_ret
   exact ⟨⟨_, rfl, q, rfl, nv_at (NV.later ⟨q, rfl, HN.out⟩ (((Ap.refl c.P w2.heap.size w2).alloc (Nat.le_refl _) _).drew.drew) HLT.out)⟩, (HPS.out.alloc _).drew.drew, (HAP.out.alloc HAP.out.size _).drew.drew⟩
 ) : G := h
theorem zbci {G : Prop} (h : G := by
  subst hq; obtain ⟨⟨v, rfl, rfl⟩, hp2, ha2⟩ := hp; have HP2 := hide hp2; have HA2 := hide (HA.out.next ha2); have HN2 := hide (NV.later HN.out ha2 HLT.out); clear hp2 ha2 HC2 hr2; go_wp2_with fail; go_ret
  exact ⟨⟨_, rfl, HN2.out⟩, HP2.out, HA2.out⟩
 ) : G := h
theorem zbcj {G : Prop} (h : G := by
  rw [hr] at HC HS; simp only [bind_bad] at HS; clear hr; go_wp2_with fail; refine cm HC.out ?_; intro e w' hp; obtain ⟨rfl, ha⟩ := hp; exact ⟨rfl, ppBad HS.out.symm (HA2.out.next ha)⟩
 ) : G := h
theorem zbck {G : Prop} (h : G := by
  rw [hr] at HC HS; simp only [bind_bad] at HS; clear hr; go_wp2_with fail; refine cm HC.out ?_; intro e w' hp; obtain ⟨rfl, ha⟩ := hp; exact ⟨rfl, ppBad HS.out.symm (HA1.out.next ha)⟩
 ) : G := h
theorem zbcl {G : Prop} (h : G := by
  refine wpAnyH_done (by kernel_rfl) ?_ _; go_simp; have HB9 := hide (HB1.out.trans (hS9.mono HB1.out.size)); exact zcbq
 ) : G := h
theorem zbcm {G : Prop} (h : G := by
  go_wp2_with fail; refine cm HC5.out ?_; intro e w4 hp
  cases r with
  | out => exact absurd rfl HO.out
  | bad er pl =>
   obtain ⟨⟨v, rfl, q, rfl⟩, hp2, he, ha⟩ := hp; have H2 := hide hp2; have H3 := hide (HA3.out.next ha); clear hp2 ha HC5; exact zccg
  | ok t j =>
   obtain ⟨⟨v, rfl, q, rfl, hn⟩, hp2, ha⟩ := hp; have H1 : Hid (NAt (fun b => w.heap.size ≤ b) w4 t q) := NAt.mono (fun b hb _ => Nat.le_trans HA3.out.size hb) _ _ hn; have H2 := hide hp2; have H3 := hide (HA3.out.next ha)
   clear hn hp2 ha HC5; exact zcce
 ) : G := h
theorem zbcn {G : Prop} (h : G := by
  clear h hk; go_enter Tryz.func279, Tryz.ntmps279; have HC := hide (token_any c w i d HR0.out); unfold tkV at HC; have hfl := fldKind (tkA c.l i); go_wp2_with fail; refine cm HC.out ?_; rintro e wt ⟨rfl, hbt⟩; clear HC
  have HRt := hide (HR0.out.later hbt); have HBt := hide hbt; clear hbt; go_wp2_with fail; go_ret; exact ⟨rfl, HBt.out⟩
 ) : G := h
theorem zbco {G : Prop} (h : G := by
  clear ht; go_wp2_with fail; refine cm HC4.out ?_; rintro e w4 ⟨⟨v', rfl, q4, rfl, hn4⟩, hp4, ha4⟩; have HP5 := hide hp4; have HA5 := hide (HA4.out.next ha4); have HN5 := hide (nv_at (NV.later HN4.out ha4 HLT.out))
  have HV5 : Hid (NAt (fun b => w1.heap.size ≤ b) w4 v q4) := NAt.mono (fun b hb _ => Nat.le_trans HA4.out.size hb) _ _ hn4; clear hp4 ha4 hn4 HC4 kk h1 f1; go_wp2_with fail; go_ret
  exact ⟨⟨_, rfl, (nv_row (NAts.cons HN5.out (NAts.cons HV5.out NAts.nil)) HA5.out.size (by simp [maxLen]) #[nPtr q, nPtr q4] rfl 2 rfl 24 noText 0 _ rfl).nv⟩, (HP5.out.alloc _).alloc _, (HA5.out.alloc HA5.out.size _).alloc (by have := HA5.out.size; simp; omega) _⟩
 ) : G := h
theorem zbcp {G : Prop} (h : G := by
  have h1 := unhide HQ; rw [hb0, bind_ok] at h1; unfold catchP at h1; rw [if_pos hc0] at h1; rw [h1]
  cases mustP c.l tOpen (j + 1) with
  | out => rfl
  | bad er pl => rfl
  | ok x1 k1 =>
   simp only [bind_ok]
   cases nameP c.l k1 with
   | out => rfl
   | bad er pl => rfl
   | ok x2 k2 =>
    simp only [bind_ok]
    cases mustP c.l tShut k2 with
    | out => rfl
    | bad er pl => rfl
    | ok x3 k3 =>
     simp only [bind_ok]
     cases blockP c.l F d k3 with
     | out => rfl
     | bad er pl => rfl
     | ok x4 k4 =>
      simp only [bind_ok]
      cases finallyP c.l F d k4 with
      | out => rfl
      | bad er pl => rfl
      | ok x5 k5 =>
       simp only [bind_ok]; rw [if_neg (by simp)]; rfl
 ) : G := h
theorem zbcq {G : Prop} (h : G := by
  have HA := hide (hA.trans (Ap.of HB.out)); have HP := hide (hp1.ap HB.out HLO.out); have HC2 := hide (rmust_old c _ j er pl he tSemi HP.out); clear hp1 ha HC nb hA; go_wp2_with fail; refine cm HC2.out ?_
  rintro e wz ⟨rfl, rfl⟩; clear HC2; go_wp2_with fail; go_ret; exact ⟨⟨_, rfl, _, rfl⟩, ⟨j, HP.out⟩, he, HA.out⟩
 ) : G := h
theorem zbcr {G : Prop} (h : G := by
  refine hK _ _ ?_; clear hK K; refine wr2 4 7 (fun K hK => ?_) fun K hK => ?_
  ·
   go_simp; refine hK _ _ ?_; clear hK K; refine wr1 7 fun K hK => ?_; exact zcbu
  ·
   go_simp; refine hK _ _ ?_; clear hK K; refine wr1 4 fun K hK => ?_; exact zcbu
 ) : G := h
theorem zbcs {G : Prop} (h : G := by
  have HC' := hide (HC.out _ hr.symm (by nofun)); rw [hr] at HS; have hq : r = .bad er pl := unhide HS; subst hq; clear HC HPC hr; go_enter Tryz.func149, Tryz.ntmps149; go_wp2_with fail; refine cm HC'.out ?_
  rintro e w1 ⟨⟨v, rfl, q, rfl⟩, ⟨j, hp1⟩, he, ha1⟩; have HC1 := hide (rok_old he hp1); have HP1 := hide hp1; have HA1 := hide ha1; clear hp1 ha1 HC'; go_wp2_with fail; refine wp_loop_rounds 1 ?_; rw [rounds_succ]
  go_wp2_with fail; refine cm HC1.out ?_; rintro e w2 ⟨rfl, rfl⟩; clear HC1; exact zcbz
 ) : G := h
theorem zbct {G : Prop} (h : G := by
  go_wp2_with fail; go_ret; exact ⟨rfl, HBA.out.trans (HS2.out.mono HBA.out.size)⟩
 ) : G := h
theorem zbcu {G : Prop} (h : G := by
  have HC := hide (must_any c tSemi (w3.setCell ⟨p0, 3, none⟩ (.slice (some ⟨g, 0, none⟩) (t0.kids.length + 1) cap)) jx d HM2.out (by decide)); rw [hr] at HC HS; simp only [bind_ok] at HS; clear hr; go_wp2_with fail
  refine cm HC.out ?_; intro e w2 hp; obtain ⟨⟨v2, rfl, rfl⟩, hrd, ha⟩ := hp; clear HC; have HA2 := hide (HM3.out.next ha); have HR2 := hide hrd; replace HM1 := hide (EV.later HM1.out ha HLT.out); clear hrd ha HM3 HM2
  have ht0 := unhide HT0; subst ht0; go_wp2_with fail; go_ret; exact ppOk HS.out.symm HM1.out.nv HR2.out HA2.out
 ) : G := h
theorem zbcv {G : Prop} (h : G := by
  have HC := hide (must_any c tSemi (w3.setCell ⟨p0, 3, none⟩ (.slice (some ⟨g, 0, none⟩) (t0.kids.length + 1) cap)) jx d HM2.out (by decide)); rw [hr] at HC HS; simp only [bind_ok] at HS; clear hr; go_wp2_with fail
  refine cm HC.out ?_; intro e w1 hp; obtain ⟨⟨v1, rfl, rfl⟩, hrd, ha⟩ := hp; clear HC; have HA1 := hide (HM3.out.next ha); have HR1 := hide hrd; replace HM1 := hide (EV.later HM1.out ha HLT.out); clear hrd ha HM3 HM2
  have ht0 := unhide HT0; subst ht0; go_wp2_with fail; go_ret; exact ppOk HS.out.symm HM1.out.nv HR1.out HA1.out
 ) : G := h
theorem zbcw {G : Prop} (h : G := by
  go_wp2_with fail; go_ret; exact ⟨⟨_, rfl, _, rfl⟩, HP2.out, he, HA2.out⟩
 ) : G := h
theorem zbcx {G : Prop} (h : G := by
  go_wp2_with fail; refine cm HC.out ?_; intro e w1 hp
  cases r with
  | out => exact absurd rfl HO.out
  | bad er pl =>
   obtain ⟨⟨v, rfl, q, rfl⟩, hp1, he, ha⟩ := hp; have HP := hide hp1; have HA := hide ha; exact zcbw
  | ok t j =>
   obtain ⟨⟨v, rfl, q, rfl, hn⟩, hp1, ha⟩ := hp; have HP := hide hp1; have HA := hide ha; have HN := hide hn; exact zcbt
 ) : G := h
theorem zbcy {G : Prop} (h : G := by
  go_wp2_with fail; exact bodyPost_ret (v := .tuple #[.slice none 0 0, .agg #[.int .i64 3, .int .i64 (j : Int)]]) (by simp [results, go_sem, rc0, rc1]) rfl ⟨rfl, HI.out.out _ _⟩
 ) : G := h
theorem zbcz {G : Prop} (h : G := by
  refine hK _ _ ?_; clear hK K; refine wr1 9 fun K hK => ?_; go_simp; refine hK _ _ ?_; clear hK K; refine wt 10 (.agg #[.int .i64 13, .string s, .int .i64 0, .slice (some ⟨wc.heap.size, 0, none⟩) 1 1]) ?_
  refine wr1 11 fun K hK => ?_; go_simp; refine hK _ _ ?_; clear hK K; refine wr1 12 fun K hK => ?_; go_simp; refine hK _ _ ?_; clear hK K; refine wpAny_same (listed' := tf 13 4) (by kernel_rfl) rfl ?_
  exact CONT wc pc HHY.out
 ) : G := h
theorem zbda {G : Prop} (h : G := by
  go_wp2_with fail; refine cm HC1.out ?_; rintro e w2 ⟨rfl, rfl⟩; clear HC1; exact zcbz
 ) : G := h
theorem zbdb {G : Prop} (h : G := by
  have := look_vals c (fx c.l i) W hW.base.vals; rw [hq] at this; exact this
 ) : G := h
theorem zbdc {G : Prop} (h : G := by
  go_wp2_with fail; refine cm HC.out ?_; rintro e wn ⟨rfl, rfl⟩; clear HC; go_wp2_with fail; go_ret; obtain ⟨m1, m2, m3⟩ := unhide HX; exact ppOk rfl m1 m2 m3
 ) : G := h
theorem zbdd {G : Prop} (h : G := by
  refine cm (SC.out.ha2 _ HS2.out) ?_; rintro e x3 ⟨rfl, hq3⟩; have HS3 : Hid (Below wA.heap.size wA x3) := HS2.out.trans (hq3.mono HS2.out.size); clear hq3; go_wp2_with fail; go_ret
  exact ⟨rfl, HBA.out.trans (HS3.out.mono HBA.out.size)⟩
 ) : G := h
theorem zbde {G : Prop} (h : G := by
  refine wq1 11 fun K hK => ?_; go_simp; refine cm (HGB.out _ (HB7.out.trans (hS0.mono HB7.out.size))) ?_; rintro e w9 ⟨rfl, hb9⟩; have hS9 : Below w7.heap.size w7 w9 := hS0.trans (hb9.mono (Nat.le_refl _))
  refine hK.out _ _ hS9 (fun _ => ?_); clear hK K; refine wh 12 (eI R) hS9 ?_; refine wpAnyH_done (by kernel_rfl) ?_ _; go_simp; have HB9 := hide (HB7.out.trans (hS9.mono HB7.out.size)); clear hS0 eA e3 eq e4 hb9 hS9
  go_wp2_with fail; go_ret; exact ⟨rfl, HB9.out⟩
 ) : G := h
theorem zbdf {G : Prop} (h : G := by
  have hsz := extract_size s j e (by omega) hes; refine (atoi_any (s.extract j e) _ (by omega) (by omega) hds).mono ?_; rw [HNN.out]; rintro e3 w3 ⟨rfl, hbel3⟩; have HI3 := hide (HI.out.later hbel3); clear rc0 rc1 rf0 rf1
  obtain ⟨rc0, rc1, rf0, rf1⟩ := HI3.out.cells; clear hbel3 hds hsz; go_wp2_with fail
  exact bodyPost_ret (v := .tuple #[.slice none 0 0, .agg #[.int .i64 2, .int .i64 (j : Int)]]) (by simp [results, go_sem, rc0, rc1]) rfl ⟨rfl, HI3.out.out _ _⟩
 ) : G := h
theorem zbdg {G : Prop} (h : G := by
  have HC := hide (must_any c tSemi wy j1 d HRy.out (by decide)); rw [hr] at HC HS; simp only [bind_ok] at HS; clear hr; go_wp2_with fail; refine cm HC.out ?_; intro e w2 hp; obtain ⟨⟨v2, rfl, rfl⟩, hrd, ha⟩ := hp
  clear HC; have HA2 := hide (HAy.out.next ha); have HR2 := hide hrd; replace HM1 := hide (EV.later HM1.out ha HLT.out); clear hrd ha HAy HRy; have ht0 := unhide HT0; subst ht0; go_wp2_with fail; go_ret
  exact ppOk HS.out.symm HM1.out.nv HR2.out HA2.out
 ) : G := h
theorem zbdh {G : Prop} (h : G := by
  have HR2 := hide hr2; have HW2 := hide hb2; rw [← hW2]; clear hW2 hr2 hb2; refine hK.out _ _ HR2.out (fun _ => ?_); clear hK K; refine wh 12 (.bool true) HR2.out ?_; refine wpAnyH_done (by kernel_rfl) ?_ _; go_simp
  go_wp2_with fail
  exact bodyPost_ret (v := .tuple #[.agg #[.string x.tx, .int .i64 x.kd, .int .i64 x.parts, .int .i64 x.str], .bool true]) (by simp [results, Tryz.results274, go_sem, q0, q1, q2, q3]) rfl ⟨rfl, below4 HW2.out (Nat.le_refl _) _ _ _ _⟩
 ) : G := h
theorem zbdi {G : Prop} (h : G := by
  refine wt 13 (nPtr w.heap.size) ?_; refine wt 14 (.pointer (some ⟨w.heap.size, 3, none⟩)) ?_; refine wr1 15 fun K hK => ?_; go_simp; refine hK _ _ ?_; clear hK K gc3 gcf gcl; refine wpAny_done (by kernel_rfl) ?_ _
  go_simp; obtain ⟨jc, hpc⟩ := HHY.out.ps; have HPC := hide hpc; clear hpc; go_wp2_with fail; go_ret
  exact ⟨⟨_, rfl, _, rfl⟩, ⟨jc, HPC.out.ap (unhide (HBW _)) HLO.out⟩, HHY.out.he, HHY.out.ap.trans (Ap.of (unhide (HBW _)))⟩
 ) : G := h
theorem zbdj {G : Prop} (h : G := by
  go_wp2_with fail; refine cm HC.out ?_; rintro e w1 ⟨rfl, rfl⟩; clear HC; go_wp2_with fail; go_ret; exact ⟨⟨_, rfl, _, rfl⟩, ⟨i, HP.out.alloc _⟩, he, (Ap.refl c.P w1.heap.size w1).alloc (Nat.le_refl _) _⟩
 ) : G := h
theorem zbdk {G : Prop} (h : G := by
  have : Tr.counts t.kids = Tr.counts (t.kids.take (k + 1)) + Tr.counts (t.kids.drop (k + 1)) := by rw [← counts_app, List.take_append_drop]
  omega
 ) : G := h
theorem zbdl {G : Prop} (h : G := by
  go_simp; refine cm HC.out ?_; intro e w' hp; obtain ⟨rfl, ha⟩ := hp; exact ⟨rfl, ppBad HS.out.symm (HAn.out.drew.next ha)⟩
 ) : G := h
theorem zbdm {G : Prop} (h : G := by
  exact ((((((Ap.refl c.P w.heap.size w).setCell (p := ⟨c.P, 1, none⟩) (Or.inr rfl) _).alloc (by simp) _).alloc (by simp <;> omega) _).alloc (by simp <;> omega) _).alloc (by simp <;> omega) _).drew
 ) : G := h
theorem zbdn {G : Prop} (h : G := by
  rw [hr] at HC HS; simp only [bind_bad] at HS; clear hr; go_wp2_with fail; refine cm HC.out ?_; intro e w' hp; obtain ⟨rfl, ha⟩ := hp; exact ⟨rfl, ppBad HS.out.symm (HAq.out.next ha)⟩
 ) : G := h
theorem zbdo {G : Prop} (h : G := by
  clear ht; go_wp2_with fail; refine cm HC4.out ?_; rintro e w4 ⟨⟨v, rfl, q4, rfl⟩, ⟨j4, hp4⟩, he, ha4⟩; have HP5 := hide hp4; have HA5 := hide (HA4.out.next ha4); clear hp4 ha4 HC4 kk h1 f1; go_wp2_with fail; go_ret
  exact ⟨⟨_, rfl, _, rfl⟩, ⟨j4, (HP5.out.alloc _).alloc _⟩, he, (HA5.out.alloc HA5.out.size _).alloc (by have := HA5.out.size; simp; omega) _⟩
 ) : G := h
theorem zbdp {G : Prop} (h : G := by
  rename_i h; exact Nx.ok (Nat.le_refl _) (next_lt hE hi (by rw [h]; decide))
 ) : G := h
theorem zbdq {G : Prop} (h : G := by
  go_enter Tryz.func171, Tryz.ntmps171; go_wp2_with fail; go_ret; exact ⟨rfl, by rw [HC.out]; exact HE.out, Below.refl _ _⟩
 ) : G := h
theorem zbdr {G : Prop} (h : G := by
  refine wt 13 (nPtr w.heap.size) ?_; refine wt 14 (.pointer (some ⟨w.heap.size, 3, none⟩)) ?_; refine wr1 15 fun K hK => ?_; go_simp; refine hK _ _ ?_; clear hK K gc3 gcf gcl; refine wpAny_done (by kernel_rfl) ?_ _
  go_simp; go_wp2_with fail; go_ret; exact ⟨⟨_, rfl, HEV.out.nv⟩, HHY.out.ps.ap (unhide (HBW _)) HLO.out, HHY.out.ap.trans (Ap.of (unhide (HBW _)))⟩
 ) : G := h
theorem zbds {G : Prop} (h : G := by
  have _h1 := hL; have _h2 := hal; clear _h1 _h2; have HST := hide ((congrArg (fun p => toksR ws signsS s p acc) (pastN_go gapB s j hlt hgap)).trans he); have HI := hide hinv; clear he hinv hgap hL
  conv => arg 2; whnf
  unfold fr Q6; go_wp2_with fail; exact ⟨WI_mk (j + 1) acc v (by omega) (by omega) HST.out HI.out (by kernel_rfl), by simp [mu6, intOf]; omega⟩
 ) : G := h
theorem zbdt {G : Prop} (h : G := by
  intro t ht
  cases t with
  | mk kd tx nn ks => rw [count_mk] at ht; omega
 ) : G := h
theorem zbdu {G : Prop} (h : G := by
  go_enter Tryz.func143, Tryz.ntmps143; go_wp2_with fail; go_ret; exact ⟨rfl, HBA.out⟩
 ) : G := h
theorem zbdv {G : Prop} (h : G := by
  have HC := hide (rbraces_old c wm.drew jm _ _ (d : Int) false he HP.out.drew); clear he; go_wp2_with fail; exact CONTB wm s ⟨er, pl, HQB.out, HC.out, HOP.out, HA.out⟩
 ) : G := h
theorem zbdw {G : Prop} (h : G := by
  cases gk with
  | zero => exact absurd hq.symm HO.out
  | succ k => exact ⟨k, rfl⟩
 ) : G := h
theorem zbdx {G : Prop} (h : G := by
  have h := unhide HOWN; rw [List.take_length] at h; rw [List.take_length]; exact h
 ) : G := h
theorem zbdy {G : Prop} (h : G := by
  have HA2 := hide (HA.out.next ha2); have HP3 := hide hp3; have HC3 := hide (rmust_old c w2 j2 er pl he tShut hp3); clear HC2 ha2 hp3; go_wp2_with fail; refine cm HC3.out ?_; rintro e w3 ⟨rfl, rfl⟩; clear HC3
  go_wp2_with fail; go_ret; exact ⟨⟨_, rfl, q, rfl⟩, ⟨_, HP3.out⟩, he, HA2.out⟩
 ) : G := h
theorem zbdz {G : Prop} (h : G := by
  go_wp2_with fail; refine cm HC.out ?_; rintro e w1 ⟨⟨u, rfl, hr⟩, hb⟩; obtain ⟨ua, uc, rfl⟩ := hr.form; have HR := hide (hr.low HB.out.size); have HB1 := hide (HB.out.trans (hb.mono HB.out.size)); clear HC hr hb
  go_wp2_with fail; go_ret; exact ⟨⟨_, rfl, HR.out⟩, HB1.out⟩
 ) : G := h
theorem zbea {G : Prop} (h : G := by
  go_enter Tryz.func48, Tryz.ntmps48; go_wp2_with fail; go_ret; exact ⟨by rw [HST.out]; rfl, rfl⟩
 ) : G := h
theorem zbeb {G : Prop} (h : G := by
  intro v' w5 hown' hgrow _; have HI5 := hide (HI.out.app (t := Tk.mk 2 (s.extract j e) 0 j) _ hown' hgrow); clear hown' hgrow; go_wp2_with fail
  exact ⟨WI_mk e (acc ++ [Tk.mk 2 (s.extract j e) 0 j]) v' hes (by simp; omega) HST.out HI5.out (by kernel_rfl), by simp [mu6, intOf]; omega⟩
 ) : G := h
theorem zbec {G : Prop} (h : G := by
  intro v' w5 hown' hgrow _; have HI5 := hide (HI.out.app (t := Tk.mk 1 (s.extract j e) 0 j) _ hown' hgrow); clear hown' hgrow; go_wp2_with fail
  exact ⟨WI_mk e (acc ++ [Tk.mk 1 (s.extract j e) 0 j]) v' hes (by simp; omega) HST.out HI5.out (by kernel_rfl), by simp [mu6, intOf]; omega⟩
 ) : G := h
theorem zbed {G : Prop} (h : G := by
  go_wp2_with fail; refine (HLR.out.word (s.extract j e)).mono ?_; rw [HW.out]; rintro e3 w3 ⟨rfl, rfl⟩; go_wp2_with fail
  exact bodyPost_ret (v := .tuple #[.slice none 0 0, .agg #[.int .i64 4, .int .i64 (j : Int)]]) (by simp [results, go_sem, rc0, rc1]) rfl ⟨rfl, HI.out.out _ _⟩
 ) : G := h
theorem zbee {G : Prop} (h : G := by
  obtain ⟨va, vc, rfl⟩ := h.form; clear h hF; go_enter Tryz.func249, Tryz.ntmps249; go_wp2_with fail; refine cm HC.out ?_; rintro e w1 ⟨⟨k, rfl, hk⟩, hb⟩; have HK := hide hk; have HB := hide hb; clear hk HC hb
  go_wp2_with fail; go_ret; exact ⟨ret_bool HK.out, HB.out⟩
 ) : G := h
theorem zbef {G : Prop} (h : G := by
  clear h9
  cases r <;>
  ·
   go_enter Tryz.func207, Tryz.ntmps207; go_wp2_with fail; rw [← hwa]; refine cm HC.out ?_; rintro e w2 ⟨rfl, hb2⟩; have HB2 := hide (HBA.out.trans (hb2.mono HBA.out.size)); clear HC hb2 hwa; go_wp2_with fail; go_ret
   exact ⟨rfl, HB2.out⟩
 ) : G := h
theorem zbeg {G : Prop} (h : G := by
  have HC := hide (block_any hF hN w3 d j3 _ rfl (by rw [hr]; nofun) HR3.out)
  rw [hr] at HC HS; simp only [bind_bad] at HS; clear hr; go_wp2_with fail; refine cm HC.out ?_; intro e w' hp; obtain ⟨rfl, ha⟩ := hp; exact ⟨rfl, ppBad HS.out.symm (HA3.out.next ha)⟩
 ) : G := h
theorem zbeh {G : Prop} (h : G := by
  have hRe := HLN.out.1 htw; subst hRe; rw [htw] at HC; clear htw; go_wp2_with fail; clear x3 xq; refine cm HC.out ?_; rintro e w7 ⟨rfl, hb7⟩; have HB7 := hide (HBW.out.trans (hb7.mono HBW.out.size)); clear HC hb7
  go_wp2_with fail; go_ret; exact ⟨rfl, HB7.out⟩
 ) : G := h
theorem zbei {G : Prop} (h : G := by
  have HC := hide (deepV hF wm d (j1 + 1) HRm.out (by rw [hr]; nofun))
  rw [hr] at HC HS; simp only [bind_bad] at HS; clear hr; go_wp2_with fail; refine cm HC.out ?_; intro e w' hp; obtain ⟨rfl, ha⟩ := hp; exact ⟨rfl, ppBad HS.out.symm (HAm.out.next ha)⟩
 ) : G := h
theorem zbej {G : Prop} (h : G := by
  rintro e w1 ⟨rfl, hb⟩; have HB := hide hb; have HF := hide (fault_any c 3 w1 i d (HR.out.later hb)); clear hb; go_wp2_with fail; refine cm HF.out ?_; rintro e w2 ⟨rfl, hb2⟩
  exact ⟨rfl, ppBad rfl (Ap.of (HB.out.trans (hb2.mono HB.out.size)))⟩
 ) : G := h
end Go.Proofs.YtodmgaikhbmlnaaGreatDoor
