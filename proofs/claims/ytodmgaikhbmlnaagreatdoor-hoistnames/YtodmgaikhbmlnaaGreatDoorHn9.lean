/-
  Calls and properties behind a value.
-/
import Derived.Test.YtodmgaikhbmlnaaGreatDoorHn0
import Derived.Test.YtodmgaikhbmlnaaGreatDoorHn4
import Derived.Test.YtodmgaikhbmlnaaGreatDoorHn6
import Derived.Test.YtodmgaikhbmlnaaGreatDoorHn8
import Derived.Test.YtodmgaikhbmlnaaGreatDoorHn7
import Derived.Deep.MidRow
import Derived.Laws.AppendOwnNone
set_option maxRecDepth 100000
set_option maxHeartbeats 16000000
namespace Go.Proofs.YtodmgaikhbmlnaaGreatDoor
open Go.RowKit
theorem push0 {c : Ctx} {w w1 : World} {j d : Nat} {t : Tr} {p : Nat} {u : Value} {ps : List Nat} (hO : Open w.heap.size w1 t p u ps) (hR : Rdr c w1 j d) (hA : Ap c.R w.heap.size w w1) (hlo : c.lo ≤ w.heap.size) :
  EV w.heap.size (w1.setCell ⟨p, 3, none⟩ u) (.mk t.kd t.tx t.n (t.kids ++ [])) (nPtr p) ∧ Rdr c (w1.setCell ⟨p, 3, none⟩ u) j d ∧ Ap c.R w.heap.size w (w1.setCell ⟨p, 3, none⟩ u) := by
 have hset : ∀ b, b ≠ p → (w1.setCell ⟨p, 3, none⟩ u).heap[b]? = w1.heap[b]? := fun b hb => Below.heap_setCell w1 ⟨p, 3, none⟩ _ b hb
 have hB : Below w.heap.size w1 (w1.setCell ⟨p, 3, none⟩ u) := qb.setCell (p := ⟨p, 3, none⟩) hO.low _
 refine ⟨?_, hR.ap hB hlo, hA.trans (Ap.of hB)⟩
 rw [List.append_nil]
 refine ⟨p, u, ps, rfl, hO.low, by rw [zqq hO.blk]; rfl, ?_, hO.own, NAts.later (fun b hb _ => hset b hb.2.1) _ _ hO.kids⟩
 exact zj4 (I := fun b => b ≠ p) (fun b hb _ => hset b hb) (fun g hg e => hO.own (by rw [hg, e])) hO.row
theorem pushN {c : Ctx} {w w1 w3 : World} {j d : Nat} {t : Tr} {us : List Tr} {p g cap m : Nat} {u : Value} {ps qs : List Nat} (hO : Open w.heap.size w1 t p u ps) (hx : NAts (fun b => w.heap.size ≤ b ∧ b ≠ p ∧ u.ownBlock ≠ some b) w1 us qs) (hR : Rdr c w1 j d) (hA : Ap c.R w.heap.size w w1) (hlo : c.lo ≤ w.heap.size)
  (hown : w3.ownsRow w.heap.size 22 1 (.slice (some ⟨g, 0, none⟩) m cap) m (ps.map nPtr ++ qs.map nPtr)) (hm : m = ps.length + qs.length) (hgr : w1.grownBy w3 u.ownBlock) (hg : u.ownBlock = some g ∨ g = w1.heap.size) :
  EV w.heap.size (w3.setCell ⟨p, 3, none⟩ (.slice (some ⟨g, 0, none⟩) m cap)) (.mk t.kd t.tx t.n (t.kids ++ us)) (nPtr p) ∧
  Rdr c (w3.setCell ⟨p, 3, none⟩ (.slice (some ⟨g, 0, none⟩) m cap)) j d ∧
  Ap c.R w.heap.size w (w3.setCell ⟨p, 3, none⟩ (.slice (some ⟨g, 0, none⟩) m cap)) := by
 have hrow : ∀ k, u.ownBlock = some k → w.heap.size ≤ k := fun k hk => (zxj hO.row k hk).2
 have hgrow : Below w.heap.size w1 w3 := (Below.refl w.heap.size w1).grown hgr hA.size hrow
 have hset : Below w.heap.size w1 (w3.setCell ⟨p, 3, none⟩ (.slice (some ⟨g, 0, none⟩) m cap)) := hgrow.setCell (p := ⟨p, 3, none⟩) hO.low _
 refine ⟨?_, hR.ap hset hlo, hA.trans (Ap.of hset)⟩
 exact ev_push hO.low hO.blk hO.own hO.kids hx (by rw [List.map_append]; exact hown) (by rw [hm, List.length_append]) hgr hg
theorem en239 : ∀ args W, (callFunc 279 args).run Tryz.prog W = .ok (.enter 279 args) W := fun _ _ => by kernel_rfl
theorem en240 : ∀ args W, (callFunc 280 args).run Tryz.prog W = .ok (.enter 280 args) W := fun _ _ => by kernel_rfl
theorem LV.many {B : Nat} {w : World} {ts : List Tr} {v : Value} (h : LV B w ts v) (hne : ts ≠ []) : ∃ g cap qs, v = .slice (some ⟨g, 0, none⟩) ts.length cap ∧ qs.length = ts.length ∧ NAts (From B) w ts qs ∧ (∀ j u, (qs.map nPtr)[j]? = some u → w.cell? ((⟨g, 0, none⟩ : Addr).add j) = some u) := by
 obtain ⟨⟨qs, hr, hk⟩, _, _⟩ := h
 have hl := NAts.length _ _ hk
 have hp : 0 < qs.length := by rw [hl]; exact List.length_pos_iff.2 hne
 obtain ⟨g, cap, hv, hc⟩ := zw9 hr hp
 refine ⟨g, cap, qs, by rw [hv, hl], hl, NAts.mono (fun b hb _ => hb.1) _ _ hk, fun j u hj => ?_⟩
 rw [Addr.add_mid, Nat.zero_add]
 rw [List.getElem?_map] at hj
 cases hq : qs[j]? with
 | none => rw [hq] at hj; cases hj
 | some q =>
  rw [hq] at hj; obtain ⟨hlt, he⟩ := List.getElem?_eq_some_iff.1 hq; rw [hc j hlt, he]; exact hj
theorem map_one (qs : List Nat) : ∀ u ∈ qs.map nPtr, u.oneCell' = true := by
 intro u hu
 obtain ⟨q, _, rfl⟩ := List.mem_map.1 hu
 rfl
theorem Open.cap {B : Nat} {w : World} {t : Tr} {p : Nat} {ua : Option Addr} {n uc : Nat} {ps : List Nat} (h : Open B w t p (.slice ua n uc) ps) (hp : 0 < t.kids.length) : n ≤ uc ∧ ∃ g, ua = some ⟨g, 0, none⟩ := by
 have hl := NAts.length _ _ h.kids
 rcases h.row.2 with hn | ⟨g, cap, cur, hv, _, _, h1, _⟩
 ·
  omega
 ·
  simp only [Value.slice.injEq] at hv; obtain ⟨rfl, rfl, rfl⟩ := hv; exact ⟨h1, g, rfl⟩
theorem asked_any {c : Ctx} {F : Fns} (hF : FC c F) (hN : ∃ k, FNx c.l k F) (hK : FOk F) : Does c 277 NV (zfz c.l F) := by
 have hmf := zk5 c.R 279
 have hmf2 := zk5 c.R 280
 intro w d i r hs ho h
 have HLO := qh h.base.size
 have HE := qh h.base.ends
 have HL := qh h.base.len
 obtain ⟨i0, hi0, hz0, hz1, hz2⟩ := info_parts zkw
 have HNX := qh hN
 have HFC := qh hF
 have HR0 := qh h
 have HA0 := qh (Ap.refl c.R w.heap.size w)
 have HLT := qh h.rlt
 unfold zfz at hs
 have HS := qh hs
 have HO := qh ho
 clear h hs ho
 go_enter Tryz.func277, Tryz.ntmps277
 cases hr : zbq c.l F d i with
 | out =>
  rw [hr] at HS; simp only [zqv] at HS; exact absurd HS.out.symm HO.out
 | bad er p =>
  have HC := qh (alone_any hF hN hK w d i _ rfl (by rw [hr]; nofun) HR0.out)
  rw [hr] at HC HS; simp only [zz6] at HS; clear hr; go_wp2_with fail; refine cm HC.out ?_; intro e w' hp; obtain ⟨rfl, ha⟩ := hp; exact ⟨rfl, zq9 HS.out.symm (HA0.out.next ha)⟩
 | ok x1 j1 =>
  have HC := qh (alone_any hF hN hK w d i _ rfl (by rw [hr]; nofun) HR0.out)
  rw [hr] at HC HS; simp only [zzv] at HS; clear hr; go_wp2_with fail; refine cm HC.out ?_; intro e w1 hp; obtain ⟨⟨v1, rfl, p1, rfl, hn1⟩, hrd, ha⟩ := hp; clear HC; have HA1 := qh (HA0.out.next ha)
  have HR1 := qh hrd; have HN1 := qh (zkv hn1 HA0.out.size); clear hn1; clear hrd ha HA0 HR0; clear hF hN hK; go_wp2_with fail
  go_loopw [3] (fun v wr => ∃ k t j p, v = nPtr p ∧ zwy c.l F d k t j = r ∧ Rdr c wr j d ∧ Ap c.R w.heap.size w wr ∧ NAt (From w.heap.size) wr t p) (fun _ wr => c.l.length - nxt c wr)
  case atStart => exact ⟨F.fuel, x1, j1, p1, rfl, HS.out, HR1.out, HA1.out, HN1.out⟩
  case round =>
   obtain ⟨k, t, j, p0, rfl, hq, hrd, hap, hnt⟩ := hrel; clear HS HR1 HA1 HN1
   cases k with
   | zero => exact absurd hq.symm HO.out
   | succ k =>
    have HRr := qh hrd; have HRM := qh hrd; have HAr := qh hap; have HNt := qh hnt; have hjl := hrd.lt; have hL := zzz HL; unfold zwy at hq; have HS := qh hq; have HC := qh (zx4 c wr j d hrd)
    clear hq hrd hap hnt
    by_cases hx : fx c.l j = tDot
    ·
     rw [if_pos hx] at HS; have bx : ((fx c.l j).toList == [46]) = true := zf8 (b := tDot) rfl hx; have hi := zbj HE.out hjl hx (by decide); clear hx; go_wp2_with fail; refine cm HC.out ?_; rintro e wf ⟨rfl, hbf⟩
     clear HC; have HRf := qh (HRr.out.later hbf); have HAf := qh (HAr.out.next (Ap.of hbf)); replace HNt := qh (zjx (c := c) HNt.out (Ap.of hbf) HLT.out); clear hbf; have hc1 := HRf.out.c1
     have hcz := HRf.out.fz; have hcl := HRf.out.rlt; obtain ⟨hsr, hsa⟩ := stepped HRf.out HAf.out hi; have HRs := qh hsr; have HAs := qh hsa
     replace HNt := qh (zjx (c := c) HNt.out (Ap.setCell (R := c.R) (Ap.refl _ _ _) (p := ⟨c.R, 1, none⟩) (Or.inr rfl) (.int .i64 ((j : Int) + 1))) HLT.out); clear hsr hsa HRf HAf
     cases hr : zjq c.l (j + 1) with
     | out =>
      rw [hr] at HS; simp only [zqv] at HS; exact absurd HS.out.symm HO.out
     | bad er p =>
      have HC := qh (zk4 c (wf.setCell ⟨c.R, 1, none⟩ (.int .i64 ((j : Int) + 1))) (j + 1) d HRs.out); rw [hr] at HC HS; simp only [zz6] at HS; clear hr; go_wp2_with fail; refine cm HC.out ?_; intro e w' hp
      obtain ⟨rfl, ha⟩ := hp; exact ⟨rfl, zq9 HS.out.symm (HAs.out.next ha)⟩
     | ok x2 j2 =>
      have hgt := ((zy2 (q := True) HE.out hi).2 _ _ hr).1; have HC := qh (zk4 c (wf.setCell ⟨c.R, 1, none⟩ (.int .i64 ((j : Int) + 1))) (j + 1) d HRs.out); rw [hr] at HC HS; simp only [zzv] at HS; clear hr
      go_wp2_with fail; refine cm HC.out ?_; intro e w2 hp; obtain ⟨⟨v2, rfl, rfl⟩, hrd, ha⟩ := hp; clear HC; have HA2 := qh (HAs.out.next ha); have HR2 := qh hrd; replace HNt := qh (zjx HNt.out ha HLT.out)
      clear hrd ha HAs HRs; have hlt2 := HR2.out.lt; have HC := qh (zqw 36 x2 (.slice (some ⟨w2.heap.size, 0, none⟩) 1 1) (w2.alloc (.cells #[nPtr p0] 22)) ⟨_, _, _, rfl⟩); go_wp2_with fail; refine cm HC.out ?_
      rintro e wn ⟨rfl, rfl⟩; clear HC; obtain ⟨m1, m2, m3⟩ := made HR2.out HA2.out (NAts.cons HNt.out NAts.nil) (by simp [maxLen]) #[nPtr p0] rfl 1 rfl 36 x2 (w2.heap.size + 1) rfl; obtain ⟨pm, hpm, hnm⟩ := m1.nv
      have hpe : pm = w2.heap.size + 1 := by simpa [nPtr] using hpm.symm
      subst hpe; have HM1 := qh hnm; have HM2 := qh m2; have HM3 := qh m3; clear m1 m2 m3 hpm hnm; go_wp2_with fail
      go_roundw
      case rel => exact ⟨k, .mk 36 x2 0 [t], j2, w2.heap.size + 1, by simp, HS.out, HM2.out, HM3.out, HM1.out⟩
      case measure => rw [zyk HM2.out, zyk HRM.out]; omega
    ·
     rw [if_neg hx] at HS; have bx : ((fx c.l j).toList == [46]) = false := zgk (b := tDot) rfl hx; clear hx
     by_cases hy : fx c.l j = zxw
     ·
      rw [if_pos hy] at HS; have by1 : ((fx c.l j).toList == [40]) = true := zf8 (b := zxw) rfl hy; clear hy; go_wp2_with fail; refine cm HC.out ?_; rintro e wf ⟨rfl, hbf⟩; clear HC
      have HRf := qh (HRr.out.later hbf); have HAf := qh (HAr.out.next (Ap.of hbf)); replace HNt := qh (zjx (c := c) HNt.out (Ap.of hbf) HLT.out); clear hbf
      have HC := qh (zqw 35 zzx (.slice (some ⟨wf.heap.size, 0, none⟩) 1 1) (wf.alloc (.cells #[nPtr p0] 22)) ⟨_, _, _, rfl⟩); go_wp2_with fail; refine cm HC.out ?_; rintro e wn0 ⟨rfl, rfl⟩; clear HC
      obtain ⟨m1, m2, m3⟩ := made HRf.out HAf.out (NAts.cons HNt.out NAts.nil) (by simp [maxLen]) #[nPtr p0] rfl 1 rfl 35 zzx (wf.heap.size + 1) rfl; obtain ⟨t0, ht0⟩ : ∃ t0 : Tr, t0 = .mk 35 zzx 0 [t] := ⟨_, rfl⟩
      rw [← ht0] at m1; have HKL : Hid (t0.kids.length = 1) := by
       show _ = _
       rw [ht0]; rfl
      have HT0 := qh ht0; obtain ⟨pq, u0, ps0, hpe, hop⟩ := m1.opens; have hpe2 : pq = wf.heap.size + 1 := by simpa [nPtr] using hpe.symm
      rw [hpe2] at hop; have HOP := qh hop; have HRn := qh m2; have HAn := qh m3; clear m1 m2 m3 hop hpe ht0
      obtain ⟨wn, hwn⟩ : ∃ wn, wn = (wf.alloc (.cells #[nPtr p0] 22)).alloc (zzk 35 zzx 0 (.slice (some ⟨wf.heap.size, 0, none⟩) 1 1)) := ⟨_, rfl⟩; rw [← hwn] at HOP HRn HAn; rw [← hpe2] at HOP
      rw [show (wf.alloc (.cells #[nPtr p0] 22)).heap.size = pq by rw [hpe2]; simp, ← hwn]
      clear hwn hpe2; obtain ⟨hc3, hcf, hcl⟩ := HOP.out.cell; obtain ⟨ua, uc, hue⟩ := HOP.out.shape; subst hue; obtain ⟨kk, hkk⟩ := zzz HNX
      cases hr : znz c.l zxw zjy (isVal c.l) (argP c.l F d) F.fuel j with
      | out =>
       rw [hr] at HS; simp only [zqv] at HS; exact absurd HS.out.symm HO.out
      | bad er p =>
       have HC := qh (zg9 279 280 (isVal c.l) (argP c.l F) zxw zjy (atValue_any c) (arg_any HFC.out) en239 en240 (by decide) (by decide) (argP_go hkk) F.fuel wn.drew d j _ rfl (by rw [hr]; nofun) HRn.out.drew)
       rw [hr] at HC HS; simp only [zz6] at HS; clear hr hkk; go_wp2_with fail; refine wp_region_any (by kernel_rfl) ?_; change wpAny _ _ _ _ _ _ _ (World.drew _); refine wt 0 (nPtr pq) ?_; refine wt 1 (nPtr pq) ?_
       refine wt 2 (nPtr pq) ?_; refine wt 3 (.pointer (some ⟨pq, 3, none⟩)) ?_; refine wt 5 (rPtr c) ?_; refine wt 6 (rPtr c) ?_; refine wt 7 (.func (.func 279) #[rPtr c] #[]) ?_; refine wt 8 (rPtr c) ?_
       refine wt 9 (.func (.func 280) #[rPtr c] #[]) ?_; refine wr2 4 10 (fun K hK => ?_) fun K hK => ?_
       ·
        go_simp; refine hK _ _ ?_; clear hK K; refine wr1 10 fun K hK => ?_; go_simp; refine cm HC.out ?_; intro e w' hp; obtain ⟨rfl, ha⟩ := hp; exact ⟨rfl, zq9 HS.out.symm (HAn.out.drew.next ha)⟩
       ·
        go_simp; refine cm HC.out ?_; intro e w' hp; obtain ⟨rfl, ha⟩ := hp; exact ⟨rfl, zq9 HS.out.symm (HAn.out.drew.next ha)⟩
      | ok us j2 =>
       have HC := qh (zg9 279 280 (isVal c.l) (argP c.l F) zxw zjy (atValue_any c) (arg_any HFC.out) en239 en240 (by decide) (by decide) (argP_go hkk) F.fuel wn.drew d j _ rfl (by rw [hr]; nofun) HRn.out.drew)
       have hgt := ((zp7 (q := False) HE.out hjl (by decide) (by decide) (fun h => h.elim) (fun j1 _ h1 => argP_nx hkk h1 (fun h => h.elim))).2 _ _ hr).1; rw [hr] at HC HS; simp only [zzv] at HS; clear hr hkk
       go_wp2_with fail; refine wp_region_any (by kernel_rfl) ?_; change wpAny _ _ _ _ _ _ _ (World.drew _); refine wt 0 (nPtr pq) ?_; refine wt 1 (nPtr pq) ?_; refine wt 2 (nPtr pq) ?_
       refine wt 3 (.pointer (some ⟨pq, 3, none⟩)) ?_; refine wt 5 (rPtr c) ?_; refine wt 6 (rPtr c) ?_; refine wt 7 (.func (.func 279) #[rPtr c] #[]) ?_; refine wt 8 (rPtr c) ?_
       refine wt 9 (.func (.func 280) #[rPtr c] #[]) ?_; refine wr2 4 10 (fun K hK => ?_) fun K hK => ?_
       ·
        go_simp; refine hK _ _ ?_; clear hK K; refine wr1 10 fun K hK => ?_; go_simp; refine cm HC.out ?_; intro e wc hp; obtain ⟨⟨vc, rfl, hlv⟩, hrd, ha⟩ := hp; have HAc := qh (HAn.out.drew.next ha)
        have HRc := qh hrd; have hlt2 := hrd.lt; have HOc := qh (Open.later HOP.out (((Ap.refl c.R wn.heap.size wn).drew).next ha) HLT.out); have HLV := qh hlv; obtain ⟨gc3, gcf, gcl⟩ := HOc.out.cell
        clear hrd ha hlv; refine hK _ _ ?_; clear hK K
        by_cases hus : us = []
        ·
         obtain rfl := HLV.out.2.1 hus; subst hus; obtain ⟨hucap, ga, rfl⟩ := HOc.out.cap (by rw [HKL.out]; decide)
         have HP1 := qh (push0 HOc.out HRc.out HAc.out HLO.out); refine wr1 11 fun K hK => ?_; go_simp; refine hK _ _ ?_; clear hK K hucap; refine wt 12 (nPtr pq) ?_; refine wt 13 (.pointer (some ⟨pq, 3, none⟩)) ?_
         refine wr1 14 fun K hK => ?_; go_simp; refine hK _ _ ?_; clear hK K; refine wpAny_done (by kernel_rfl) ?_ _; go_simp; obtain ⟨m1, m2, m3⟩ := zzz HP1; obtain ⟨pm, hpm, hnm⟩ := m1.nv
         have hpe : pm = pq := by simpa [nPtr] using hpm.symm
         subst hpe; have ht0 := zzz HT0; have HM1 := qh hnm; have HM2 := qh m2; have HM3 := qh m3; clear m1 m2 m3 hpm hnm; go_wp2_with fail
         go_roundw
         case rel => exact ⟨k, .mk 35 zzx 0 [t], j2, pm, rfl, HS.out, HM2.out, HM3.out, by have h9 := zzz HM1; rw [show Tr.mk t0.kd t0.tx t0.n (t0.kids ++ []) = Tr.mk 35 zzx 0 [t] by rw [ht0]; rfl] at h9; exact h9⟩
         case measure => rw [zyk HM2.out, zyk HRM.out]; omega
        ·
         obtain ⟨g2, cap2, qs, rfl, hql, hqn, hqc⟩ := HLV.out.many hus; have hu1 := HLV.out.2.2; have hpos : 0 < us.length := List.length_pos_iff.2 hus
         have HX := qh (Open.apart HOP.out HAn.out.size (show NAts (From wn.heap.size) wc us qs from hqn)); have hlen := NAts.length _ _ HOc.out.kids; have hkl := zzz HKL; have hsz := HAc.out.size
         have hown := HOc.out.row; rw [hlen] at hown; have HOWN := qh hown; have HQL := qh hql; have HLEN := qh hlen; clear hown hus hqn hlen; refine wr1 11 fun K hK => ?_
         refine step_append_lies _ rfl _ _ 36 rfl w.heap.size 22 i0 (.pointer none) 1 8 Tryz.underlying36 hi0 hz0 hz1 hz2 rfl (by decide) _ _ _ rfl HOWN.out ⟨g2, 0, none⟩ us.length cap2 (qs.map nPtr) rfl (by simp [hql]) hqc (map_one qs) hpos (by unfold maxLen; omega) (by omega) hsz wc.heap.size rfl ?_
         intro g cap w3 hown3 hgr3 hg3 _; refine hK _ _ ?_; clear hK K; have HP1 := qh (pushN (m := t0.kids.length + us.length) HOc.out HX.out HRc.out HAc.out HLO.out hown3 (by rw [HLEN.out, HQL.out]) hgr3 hg3)
         have hp3 : w3.cell? ⟨pq, 3, none⟩ = wc.cell? ⟨pq, 3, none⟩ ∧ w3.frozen? ⟨pq, 3, none⟩ = wc.frozen? ⟨pq, 3, none⟩ := by
          have hbb : w3.heap[pq]? = wc.heap[pq]? := hgr3.block pq gcl (fun e => HOc.out.own e.symm); exact ⟨World.cell?_of_block (w := wc) hbb, World.frozen?_of_block (w := wc) hbb⟩
         obtain ⟨hp3c, hp3f⟩ := hp3; rw [gc3] at hp3c; rw [gcf 3] at hp3f; clear hown3 hgr3 hg3 gc3 gcf hqc hkl; refine wt 12 (nPtr pq) ?_; refine wt 13 (.pointer (some ⟨pq, 3, none⟩)) ?_; refine wr1 14 fun K hK => ?_
         go_simp; refine hK _ _ ?_; clear hK K; refine wpAny_done (by kernel_rfl) ?_ _; go_simp; obtain ⟨m1, m2, m3⟩ := zzz HP1; obtain ⟨pm, hpm, hnm⟩ := m1.nv; have hpe : pm = pq := by simpa [nPtr] using hpm.symm
         subst hpe; have ht0 := zzz HT0; have HM1 := qh hnm; have HM2 := qh m2; have HM3 := qh m3; clear m1 m2 m3 hpm hnm; go_wp2_with fail
         go_roundw
         case rel => exact ⟨k, .mk 35 zzx 0 (t :: us), j2, pm, rfl, HS.out, HM2.out, HM3.out, by have h9 := zzz HM1; rw [show Tr.mk t0.kd t0.tx t0.n (t0.kids ++ us) = Tr.mk 35 zzx 0 (t :: us) by rw [ht0]; rfl] at h9; exact h9⟩
         case measure => rw [zyk HM2.out, zyk HRM.out]; omega
       ·
        go_simp; refine cm HC.out ?_; intro e wc hp; obtain ⟨⟨vc, rfl, hlv⟩, hrd, ha⟩ := hp; have HAc := qh (HAn.out.drew.next ha); have HRc := qh hrd; have hlt2 := hrd.lt
        have HOc := qh (Open.later HOP.out (((Ap.refl c.R wn.heap.size wn).drew).next ha) HLT.out); have HLV := qh hlv; obtain ⟨gc3, gcf, gcl⟩ := HOc.out.cell; clear hrd ha hlv; refine hK _ _ ?_; clear hK K
        refine wr1 4 fun K hK => ?_; go_simp; refine hK _ _ ?_; clear hK K
        by_cases hus : us = []
        ·
         obtain rfl := HLV.out.2.1 hus; subst hus; obtain ⟨hucap, ga, rfl⟩ := HOc.out.cap (by rw [HKL.out]; decide)
         have HP1 := qh (push0 HOc.out HRc.out HAc.out HLO.out); refine wr1 11 fun K hK => ?_; go_simp; refine hK _ _ ?_; clear hK K hucap; refine wt 12 (nPtr pq) ?_; refine wt 13 (.pointer (some ⟨pq, 3, none⟩)) ?_
         refine wr1 14 fun K hK => ?_; go_simp; refine hK _ _ ?_; clear hK K; refine wpAny_done (by kernel_rfl) ?_ _; go_simp; obtain ⟨m1, m2, m3⟩ := zzz HP1; obtain ⟨pm, hpm, hnm⟩ := m1.nv
         have hpe : pm = pq := by simpa [nPtr] using hpm.symm
         subst hpe; have ht0 := zzz HT0; have HM1 := qh hnm; have HM2 := qh m2; have HM3 := qh m3; clear m1 m2 m3 hpm hnm; go_wp2_with fail
         go_roundw
         case rel => exact ⟨k, .mk 35 zzx 0 [t], j2, pm, rfl, HS.out, HM2.out, HM3.out, by have h9 := zzz HM1; rw [show Tr.mk t0.kd t0.tx t0.n (t0.kids ++ []) = Tr.mk 35 zzx 0 [t] by rw [ht0]; rfl] at h9; exact h9⟩
         case measure => rw [zyk HM2.out, zyk HRM.out]; omega
        ·
         obtain ⟨g2, cap2, qs, rfl, hql, hqn, hqc⟩ := HLV.out.many hus; have hu1 := HLV.out.2.2; have hpos : 0 < us.length := List.length_pos_iff.2 hus
         have HX := qh (Open.apart HOP.out HAn.out.size (show NAts (From wn.heap.size) wc us qs from hqn)); have hlen := NAts.length _ _ HOc.out.kids; have hkl := zzz HKL; have hsz := HAc.out.size
         have hown := HOc.out.row; rw [hlen] at hown; have HOWN := qh hown; have HQL := qh hql; have HLEN := qh hlen; clear hown hus hqn hlen; refine wr1 11 fun K hK => ?_
         refine step_append_lies _ rfl _ _ 36 rfl w.heap.size 22 i0 (.pointer none) 1 8 Tryz.underlying36 hi0 hz0 hz1 hz2 rfl (by decide) _ _ _ rfl HOWN.out ⟨g2, 0, none⟩ us.length cap2 (qs.map nPtr) rfl (by simp [hql]) hqc (map_one qs) hpos (by unfold maxLen; omega) (by omega) hsz wc.heap.size rfl ?_
         intro g cap w3 hown3 hgr3 hg3 _; refine hK _ _ ?_; clear hK K; have HP1 := qh (pushN (m := t0.kids.length + us.length) HOc.out HX.out HRc.out HAc.out HLO.out hown3 (by rw [HLEN.out, HQL.out]) hgr3 hg3)
         have hp3 : w3.cell? ⟨pq, 3, none⟩ = wc.cell? ⟨pq, 3, none⟩ ∧ w3.frozen? ⟨pq, 3, none⟩ = wc.frozen? ⟨pq, 3, none⟩ := by
          have hbb : w3.heap[pq]? = wc.heap[pq]? := hgr3.block pq gcl (fun e => HOc.out.own e.symm); exact ⟨World.cell?_of_block (w := wc) hbb, World.frozen?_of_block (w := wc) hbb⟩
         obtain ⟨hp3c, hp3f⟩ := hp3; rw [gc3] at hp3c; rw [gcf 3] at hp3f; clear hown3 hgr3 hg3 gc3 gcf hqc hkl; refine wt 12 (nPtr pq) ?_; refine wt 13 (.pointer (some ⟨pq, 3, none⟩)) ?_; refine wr1 14 fun K hK => ?_
         go_simp; refine hK _ _ ?_; clear hK K; refine wpAny_done (by kernel_rfl) ?_ _; go_simp; obtain ⟨m1, m2, m3⟩ := zzz HP1; obtain ⟨pm, hpm, hnm⟩ := m1.nv; have hpe : pm = pq := by simpa [nPtr] using hpm.symm
         subst hpe; have ht0 := zzz HT0; have HM1 := qh hnm; have HM2 := qh m2; have HM3 := qh m3; clear m1 m2 m3 hpm hnm; go_wp2_with fail
         go_roundw
         case rel => exact ⟨k, .mk 35 zzx 0 (t :: us), j2, pm, rfl, HS.out, HM2.out, HM3.out, by have h9 := zzz HM1; rw [show Tr.mk t0.kd t0.tx t0.n (t0.kids ++ us) = Tr.mk 35 zzx 0 (t :: us) by rw [ht0]; rfl] at h9; exact h9⟩
         case measure => rw [zyk HM2.out, zyk HRM.out]; omega
     ·
      rw [if_neg hy] at HS; have by1 : ((fx c.l j).toList == [40]) = false := zgk (b := zxw) rfl hy; clear hy; go_wp2_with fail; refine cm HC.out ?_; rintro e wf ⟨rfl, hbf⟩; clear HC
      have HRf := qh (HRr.out.later hbf); have HAf := qh (HAr.out.next (Ap.of hbf)); replace HNt := qh (zjx (c := c) HNt.out (Ap.of hbf) HLT.out); clear hbf; go_wp2_with fail; go_ret
      exact ppOk HS.out.symm ⟨p0, rfl, HNt.out⟩ HRf.out HAf.out
end Go.Proofs.YtodmgaikhbmlnaaGreatDoor
