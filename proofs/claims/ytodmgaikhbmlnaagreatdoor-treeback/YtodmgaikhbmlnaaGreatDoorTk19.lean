/-
  Calls and properties behind a value.
-/
import Derived.Test.YtodmgaikhbmlnaaGreatDoorTk8
import Derived.Test.YtodmgaikhbmlnaaGreatDoorTk7
import Derived.Test.YtodmgaikhbmlnaaGreatDoorTk12
import Derived.Test.YtodmgaikhbmlnaaGreatDoorTk13
import Derived.Test.YtodmgaikhbmlnaaGreatDoorTk18
import Derived.Test.YtodmgaikhbmlnaaGreatDoorTk14
import Derived.Deep.MidRow
import Derived.Laws.AppendOwnNone
set_option maxRecDepth 100000
set_option maxHeartbeats 16000000
namespace Go.Proofs.YtodmgaikhbmlnaaGreatDoor
open Go.RowKit

/-- The row stays as it was, and is stored again. -/
theorem push0 {c : Ctx} {w w1 : World} {j d : Nat} {t : Tr} {p : Nat} {u : Value} {ps : List Nat} (hO : Open w.heap.size w1 t p u ps) (hR : Rdr c w1 j d) (hA : Ap c.R w.heap.size w w1) (hlo : c.lo ≤ w.heap.size) :
    EV w.heap.size (w1.setCell ⟨p, 3, none⟩ u) (.mk t.kd t.tx t.n (t.kids ++ [])) (nPtr p) ∧ Rdr c (w1.setCell ⟨p, 3, none⟩ u) j d ∧ Ap c.R w.heap.size w (w1.setCell ⟨p, 3, none⟩ u) := by
  have hset : ∀ b, b ≠ p → (w1.setCell ⟨p, 3, none⟩ u).heap[b]? = w1.heap[b]? := fun b hb => Below.heap_setCell w1 ⟨p, 3, none⟩ _ b hb
  have hB : Below w.heap.size w1 (w1.setCell ⟨p, 3, none⟩ u) := (Below.refl _ _).setCell (p := ⟨p, 3, none⟩) hO.low _
  refine ⟨?_, hR.ap hB hlo, hA.trans (Ap.of hB)⟩
  rw [List.append_nil]
  refine ⟨p, u, ps, rfl, hO.low, by rw [heap_set hO.blk]; rfl, ?_, hO.own, NAts.later (fun b hb _ => hset b hb.2.1) _ _ hO.kids⟩
  exact owns_stay (I := fun b => b ≠ p) (fun b hb _ => hset b hb) (fun g hg e => hO.own (by rw [hg, e])) hO.row

/-- Many parts more. -/
theorem pushN {c : Ctx} {w w1 w3 : World} {j d : Nat} {t : Tr} {us : List Tr} {p g cap m : Nat} {u : Value} {ps qs : List Nat} (hO : Open w.heap.size w1 t p u ps) (hx : NAts (fun b => w.heap.size ≤ b ∧ b ≠ p ∧ u.ownBlock ≠ some b) w1 us qs) (hR : Rdr c w1 j d) (hA : Ap c.R w.heap.size w w1) (hlo : c.lo ≤ w.heap.size)
    (hown : w3.ownsRow w.heap.size 22 1 (.slice (some ⟨g, 0, none⟩) m cap) m (ps.map nPtr ++ qs.map nPtr)) (hm : m = ps.length + qs.length) (hgr : w1.grownBy w3 u.ownBlock) (hg : u.ownBlock = some g ∨ g = w1.heap.size) :
    EV w.heap.size (w3.setCell ⟨p, 3, none⟩ (.slice (some ⟨g, 0, none⟩) m cap)) (.mk t.kd t.tx t.n (t.kids ++ us)) (nPtr p) ∧
    Rdr c (w3.setCell ⟨p, 3, none⟩ (.slice (some ⟨g, 0, none⟩) m cap)) j d ∧
    Ap c.R w.heap.size w (w3.setCell ⟨p, 3, none⟩ (.slice (some ⟨g, 0, none⟩) m cap)) := by
  have hrow : ∀ k, u.ownBlock = some k → w.heap.size ≤ k := fun k hk => (own_lt hO.row k hk).2
  have hgrow : Below w.heap.size w1 w3 := (Below.refl w.heap.size w1).grown hgr hA.size hrow
  have hset : Below w.heap.size w1 (w3.setCell ⟨p, 3, none⟩ (.slice (some ⟨g, 0, none⟩) m cap)) := hgrow.setCell (p := ⟨p, 3, none⟩) hO.low _
  refine ⟨?_, hR.ap hset hlo, hA.trans (Ap.of hset)⟩
  exact ev_push hO.low hO.blk hO.own hO.kids hx (by rw [List.map_append]; exact hown) (by rw [hm, List.length_append]) hgr hg

theorem en239 : ∀ args W, (callFunc 279 args).run Tryz.prog W = .ok (.enter 279 args) W := fun _ _ => by kernel_rfl
theorem en240 : ∀ args W, (callFunc 280 args).run Tryz.prog W = .ok (.enter 280 args) W := fun _ _ => by kernel_rfl

/-- A list's parts, open. -/
theorem LV.many {B : Nat} {w : World} {ts : List Tr} {v : Value} (h : LV B w ts v) (hne : ts ≠ []) : ∃ g cap qs, v = .slice (some ⟨g, 0, none⟩) ts.length cap ∧ qs.length = ts.length ∧ NAts (From B) w ts qs ∧ (∀ j u, (qs.map nPtr)[j]? = some u → w.cell? ((⟨g, 0, none⟩ : Addr).add j) = some u) := by
  obtain ⟨⟨qs, hr, hk⟩, _, _⟩ := h
  have hl := NAts.length _ _ hk
  have hp : 0 < qs.length := by rw [hl]; exact List.length_pos_iff.2 hne
  obtain ⟨g, cap, hv, hc⟩ := row_open hr hp
  refine ⟨g, cap, qs, by rw [hv, hl], hl, NAts.mono (fun b hb _ => hb.1) _ _ hk, fun j u hj => ?_⟩
  rw [Addr.add_mid, Nat.zero_add]
  rw [List.getElem?_map] at hj
  cases hq : qs[j]? with
  | none => rw [hq] at hj; cases hj
  | some q =>
    rw [hq] at hj
    obtain ⟨hlt, he⟩ := List.getElem?_eq_some_iff.1 hq
    rw [hc j hlt, he]
    exact hj
theorem map_one (qs : List Nat) : ∀ u ∈ qs.map nPtr, u.oneCell' = true := by
  intro u hu
  obtain ⟨q, _, rfl⟩ := List.mem_map.1 hu
  rfl

theorem Open.cap {B : Nat} {w : World} {t : Tr} {p : Nat} {ua : Option Addr} {n uc : Nat} {ps : List Nat} (h : Open B w t p (.slice ua n uc) ps) (hp : 0 < t.kids.length) : n ≤ uc ∧ ∃ g, ua = some ⟨g, 0, none⟩ := by
  have hl := NAts.length _ _ h.kids
  rcases h.row.2 with hn | ⟨g, cap, cur, hv, _, _, h1, _⟩
  · omega
  · simp only [Value.slice.injEq] at hv
    obtain ⟨rfl, rfl, rfl⟩ := hv
    exact ⟨h1, g, rfl⟩

theorem asked_any {c : Ctx} {F : Fns} (hF : FC c F) (hN : ∃ k, FNx c.l k F) (hK : FOk F) : Does c 277 NV (askedP c.l F) := by
  have hmf := mf_bound c.R 279
  have hmf2 := mf_bound c.R 280
  intro w d i r hs ho h
  have HLO := hide h.base.size
  have HE := hide h.base.ends
  have HL := hide h.base.len
  obtain ⟨i0, hi0, hz0, hz1, hz2⟩ := info_parts info22
  have HNX := hide hN
  have HFC := hide hF
  have HR0 := hide h
  have HA0 := hide (Ap.refl c.R w.heap.size w)
  have HLT := hide h.rlt
  unfold askedP at hs
  have HS := hide hs
  have HO := hide ho
  clear h hs ho
  go_enter Tryz.func277, Tryz.ntmps277
  cases hr : aloneP c.l F d i with
  | out =>
    rw [hr] at HS
    simp only [bind_out] at HS
    exact absurd (unhide HS).symm (unhide HO)
  | bad er p =>
    have HC := hide (alone_any hF hN hK w d i _ rfl (by rw [hr]; nofun) (unhide HR0))
    rw [hr] at HC HS
    simp only [bind_bad] at HS
    clear hr
    go_wp2_with fail
    refine Calls.mono HC.out ?_
    intro e w' hp
    obtain ⟨rfl, ha⟩ := hp
    exact ⟨rfl, ppBad (unhide HS).symm ((unhide HA0).next ha)⟩
  | ok x1 j1 =>
    have HC := hide (alone_any hF hN hK w d i _ rfl (by rw [hr]; nofun) (unhide HR0))
    rw [hr] at HC HS
    simp only [bind_ok] at HS
    clear hr
    go_wp2_with fail
    refine Calls.mono HC.out ?_
    intro e w1 hp
    obtain ⟨⟨v1, rfl, p1, rfl, hn1⟩, hrd, ha⟩ := hp
    clear HC
    have HA1 := hide ((unhide HA0).next ha)
    have HR1 := hide hrd
    have HN1 := hide (nat_mono hn1 (unhide HA0).size)
    clear hn1
    clear hrd ha HA0 HR0
    clear hF hN hK
    go_wp2_with fail
    go_loopw [3] (fun v wr => ∃ k t j p, v = nPtr p ∧ askedLoop c.l F d k t j = r ∧ Rdr c wr j d ∧ Ap c.R w.heap.size w wr ∧ NAt (From w.heap.size) wr t p) (fun _ wr => c.l.length - nxt c wr)
    case atStart => exact ⟨F.fuel, x1, j1, p1, rfl, unhide HS, unhide HR1, unhide HA1, unhide HN1⟩
    case round =>
      obtain ⟨k, t, j, p0, rfl, hq, hrd, hap, hnt⟩ := hrel
      clear HS HR1 HA1 HN1
      cases k with
      | zero => exact absurd hq.symm (unhide HO)
      | succ k =>
        have HRr := hide hrd
        have HRM := hide hrd
        have HAr := hide hap
        have HNt := hide hnt
        have hjl := hrd.lt
        have hL := unhide HL
        unfold askedLoop at hq
        have HS := hide hq
        have HC := hide (fixed_any c wr j d hrd)
        clear hq hrd hap hnt
        by_cases hx : fx c.l j = tDot
        · rw [if_pos hx] at HS
          have bx : ((fx c.l j).toList == [46]) = true := tl_eqL (b := tDot) rfl hx
          have hi := fx_lt (unhide HE) hjl hx (by decide)
          clear hx
          go_wp2_with fail
          refine Calls.mono HC.out ?_
          rintro e wf ⟨rfl, hbf⟩
          clear HC
          have HRf := hide ((unhide HRr).later hbf)
          have HAf := hide ((unhide HAr).next (Ap.of hbf))
          replace HNt := hide (nat_later (c := c) (unhide HNt) (Ap.of hbf) (unhide HLT))
          clear hbf
          have hc1 := (unhide HRf).c1
          have hcz := (unhide HRf).fz
          have hcl := (unhide HRf).rlt
          obtain ⟨hsr, hsa⟩ := stepped (unhide HRf) (unhide HAf) hi
          have HRs := hide hsr
          have HAs := hide hsa
          replace HNt := hide (nat_later (c := c) (unhide HNt) (Ap.setCell (R := c.R) (Ap.refl _ _ _) (p := ⟨c.R, 1, none⟩) (Or.inr rfl) (.int .i64 ((j : Int) + 1))) (unhide HLT))
          clear hsr hsa HRf HAf
          cases hr : nameP c.l (j + 1) with
          | out =>
            rw [hr] at HS
            simp only [bind_out] at HS
            exact absurd (unhide HS).symm (unhide HO)
          | bad er p =>
            have HC := hide (name_any c (wf.setCell ⟨c.R, 1, none⟩ (.int .i64 ((j : Int) + 1))) (j + 1) d (unhide HRs))
            rw [hr] at HC HS
            simp only [bind_bad] at HS
            clear hr
            go_wp2_with fail
            refine Calls.mono HC.out ?_
            intro e w' hp
            obtain ⟨rfl, ha⟩ := hp
            exact ⟨rfl, ppBad (unhide HS).symm ((unhide HAs).next ha)⟩
          | ok x2 j2 =>
            have hgt := ((nameP_nx (q := True) (unhide HE) hi).2 _ _ hr).1
            have HC := hide (name_any c (wf.setCell ⟨c.R, 1, none⟩ (.int .i64 ((j : Int) + 1))) (j + 1) d (unhide HRs))
            rw [hr] at HC HS
            simp only [bind_ok] at HS
            clear hr
            go_wp2_with fail
            refine Calls.mono HC.out ?_
            intro e w2 hp
            obtain ⟨⟨v2, rfl, rfl⟩, hrd, ha⟩ := hp
            clear HC
            have HA2 := hide ((unhide HAs).next ha)
            have HR2 := hide hrd
            replace HNt := hide (nat_later (unhide HNt) ha (unhide HLT))
            clear hrd ha HAs HRs
            have hlt2 := (unhide HR2).lt
            have HC := hide (node_any 36 x2 (.slice (some ⟨w2.heap.size, 0, none⟩) 1 1) (w2.alloc (.cells #[nPtr p0] 22)) ⟨_, _, _, rfl⟩)
            go_wp2_with fail
            refine Calls.mono HC.out ?_
            rintro e wn ⟨rfl, rfl⟩
            clear HC
            obtain ⟨m1, m2, m3⟩ := made (unhide HR2) (unhide HA2) (NAts.cons (unhide HNt) NAts.nil) (by simp [maxLen]) #[nPtr p0] rfl 1 rfl 36 x2 (w2.heap.size + 1) rfl
            obtain ⟨pm, hpm, hnm⟩ := m1.nv
            have hpe : pm = w2.heap.size + 1 := by simpa [nPtr] using hpm.symm
            subst hpe
            have HM1 := hide hnm
            have HM2 := hide m2
            have HM3 := hide m3
            clear m1 m2 m3 hpm hnm
            go_wp2_with fail
            go_roundw
            case rel => exact ⟨k, .mk 36 x2 0 [t], j2, w2.heap.size + 1, by simp, unhide HS, unhide HM2, unhide HM3, unhide HM1⟩
            case measure => rw [nxt_eq (unhide HM2), nxt_eq (unhide HRM)]; omega
        · rw [if_neg hx] at HS
          have bx : ((fx c.l j).toList == [46]) = false := tl_neL (b := tDot) rfl hx
          clear hx
          by_cases hy : fx c.l j = tOpen
          · rw [if_pos hy] at HS
            have by1 : ((fx c.l j).toList == [40]) = true := tl_eqL (b := tOpen) rfl hy
            clear hy
            go_wp2_with fail
            refine Calls.mono HC.out ?_
            rintro e wf ⟨rfl, hbf⟩
            clear HC
            have HRf := hide ((unhide HRr).later hbf)
            have HAf := hide ((unhide HAr).next (Ap.of hbf))
            replace HNt := hide (nat_later (c := c) (unhide HNt) (Ap.of hbf) (unhide HLT))
            clear hbf
            have HC := hide (node_any 35 noText (.slice (some ⟨wf.heap.size, 0, none⟩) 1 1) (wf.alloc (.cells #[nPtr p0] 22)) ⟨_, _, _, rfl⟩)
            go_wp2_with fail
            refine Calls.mono HC.out ?_
            rintro e wn0 ⟨rfl, rfl⟩
            clear HC
            obtain ⟨m1, m2, m3⟩ := made (unhide HRf) (unhide HAf) (NAts.cons (unhide HNt) NAts.nil) (by simp [maxLen]) #[nPtr p0] rfl 1 rfl 35 noText (wf.heap.size + 1) rfl
            obtain ⟨t0, ht0⟩ : ∃ t0 : Tr, t0 = .mk 35 noText 0 [t] := ⟨_, rfl⟩
            rw [← ht0] at m1
            have HKL : Hid (t0.kids.length = 1) := by
              show _ = _
              rw [ht0]; rfl
            have HT0 := hide ht0
            obtain ⟨pq, u0, ps0, hpe, hop⟩ := m1.opens
            have hpe2 : pq = wf.heap.size + 1 := by simpa [nPtr] using hpe.symm
            rw [hpe2] at hop
            have HOP := hide hop
            have HRn := hide m2
            have HAn := hide m3
            clear m1 m2 m3 hop hpe ht0
            obtain ⟨wn, hwn⟩ : ∃ wn, wn = (wf.alloc (.cells #[nPtr p0] 22)).alloc (nodeObj 35 noText 0 (.slice (some ⟨wf.heap.size, 0, none⟩) 1 1)) := ⟨_, rfl⟩
            rw [← hwn] at HOP HRn HAn
            rw [← hpe2] at HOP
            rw [show (wf.alloc (.cells #[nPtr p0] 22)).heap.size = pq by rw [hpe2]; simp, ← hwn]
            clear hwn hpe2
            obtain ⟨hc3, hcf, hcl⟩ := (unhide HOP).cell
            obtain ⟨ua, uc, hue⟩ := (unhide HOP).shape
            subst hue
            obtain ⟨kk, hkk⟩ := unhide HNX
            cases hr : listP c.l tOpen tShut (isVal c.l) (argP c.l F d) F.fuel j with
            | out =>
              rw [hr] at HS
              simp only [bind_out] at HS
              exact absurd (unhide HS).symm (unhide HO)
            | bad er p =>
              have HC := hide (list_any 279 280 (isVal c.l) (argP c.l F) tOpen tShut (atValue_any c) (arg_any (unhide HFC)) en239 en240 (by decide) (by decide) (argP_go hkk) F.fuel wn.drew d j _ rfl (by rw [hr]; nofun) (unhide HRn).drew)
              rw [hr] at HC HS
              simp only [bind_bad] at HS
              clear hr hkk
              go_wp2_with fail
              refine wp_region_any (by kernel_rfl) ?_
              change wpAny _ _ _ _ _ _ _ (World.drew _)
              refine wpAny_take (i := 0) (v := nPtr pq) rfl (by kernel_rfl) (by kernel_rfl) (by kernel_rfl) (fun _ _ _ h => h) (Or.inl ⟨by kernel_rfl, fun w => by go_simp⟩) ?_
              refine wpAny_take (i := 1) (v := nPtr pq) rfl (by kernel_rfl) (by kernel_rfl) (by kernel_rfl) (fun _ _ _ h => h) (Or.inl ⟨by kernel_rfl, fun w => by go_simp⟩) ?_
              refine wpAny_take (i := 2) (v := nPtr pq) rfl (by kernel_rfl) (by kernel_rfl) (by kernel_rfl) (fun _ _ _ h => h) (Or.inl ⟨by kernel_rfl, fun w => by go_simp⟩) ?_
              refine wpAny_take (i := 3) (v := .pointer (some ⟨pq, 3, none⟩)) rfl (by kernel_rfl) (by kernel_rfl) (by kernel_rfl) (fun _ _ _ h => h) (Or.inl ⟨by kernel_rfl, fun w => by go_simp⟩) ?_
              refine wpAny_take (i := 5) (v := rPtr c) rfl (by kernel_rfl) (by kernel_rfl) (by kernel_rfl) (fun _ _ _ h => h) (Or.inl ⟨by kernel_rfl, fun w => by go_simp⟩) ?_
              refine wpAny_take (i := 6) (v := rPtr c) rfl (by kernel_rfl) (by kernel_rfl) (by kernel_rfl) (fun _ _ _ h => h) (Or.inl ⟨by kernel_rfl, fun w => by go_simp⟩) ?_
              refine wpAny_take (i := 7) (v := .func (.func 279) #[rPtr c] #[]) rfl (by kernel_rfl) (by kernel_rfl) (by kernel_rfl) (fun _ _ _ h => h) (Or.inl ⟨by kernel_rfl, fun w => by go_simp⟩) ?_
              refine wpAny_take (i := 8) (v := rPtr c) rfl (by kernel_rfl) (by kernel_rfl) (by kernel_rfl) (fun _ _ _ h => h) (Or.inl ⟨by kernel_rfl, fun w => by go_simp⟩) ?_
              refine wpAny_take (i := 9) (v := .func (.func 280) #[rPtr c] #[]) rfl (by kernel_rfl) (by kernel_rfl) (by kernel_rfl) (fun _ _ _ h => h) (Or.inl ⟨by kernel_rfl, fun w => by go_simp⟩) ?_
              refine wpAny_ready (rs := [4, 10]) (by kernel_rfl) (by simp) (AllReady.cons rfl (fun K hK => ?_) (AllReady.cons rfl (fun K hK => ?_) AllReady.nil))
              · go_simp
                refine hK _ _ ?_
                clear hK K
                refine wpAny_ready (rs := [10]) (by kernel_rfl) (by simp) (AllReady.cons rfl (fun K hK => ?_) AllReady.nil)
                go_simp
                refine Calls.mono HC.out ?_
                intro e w' hp
                obtain ⟨rfl, ha⟩ := hp
                exact ⟨rfl, ppBad (unhide HS).symm ((unhide HAn).drew.next ha)⟩
              · go_simp
                refine Calls.mono HC.out ?_
                intro e w' hp
                obtain ⟨rfl, ha⟩ := hp
                exact ⟨rfl, ppBad (unhide HS).symm ((unhide HAn).drew.next ha)⟩
            | ok us j2 =>
              have HC := hide (list_any 279 280 (isVal c.l) (argP c.l F) tOpen tShut (atValue_any c) (arg_any (unhide HFC)) en239 en240 (by decide) (by decide) (argP_go hkk) F.fuel wn.drew d j _ rfl (by rw [hr]; nofun) (unhide HRn).drew)
              have hgt := ((listP_nx (q := False) (unhide HE) hjl (by decide) (by decide) (fun h => h.elim) (fun j1 _ h1 => argP_nx hkk h1 (fun h => h.elim))).2 _ _ hr).1
              rw [hr] at HC HS
              simp only [bind_ok] at HS
              clear hr hkk
              go_wp2_with fail
              refine wp_region_any (by kernel_rfl) ?_
              change wpAny _ _ _ _ _ _ _ (World.drew _)
              refine wpAny_take (i := 0) (v := nPtr pq) rfl (by kernel_rfl) (by kernel_rfl) (by kernel_rfl) (fun _ _ _ h => h) (Or.inl ⟨by kernel_rfl, fun w => by go_simp⟩) ?_
              refine wpAny_take (i := 1) (v := nPtr pq) rfl (by kernel_rfl) (by kernel_rfl) (by kernel_rfl) (fun _ _ _ h => h) (Or.inl ⟨by kernel_rfl, fun w => by go_simp⟩) ?_
              refine wpAny_take (i := 2) (v := nPtr pq) rfl (by kernel_rfl) (by kernel_rfl) (by kernel_rfl) (fun _ _ _ h => h) (Or.inl ⟨by kernel_rfl, fun w => by go_simp⟩) ?_
              refine wpAny_take (i := 3) (v := .pointer (some ⟨pq, 3, none⟩)) rfl (by kernel_rfl) (by kernel_rfl) (by kernel_rfl) (fun _ _ _ h => h) (Or.inl ⟨by kernel_rfl, fun w => by go_simp⟩) ?_
              refine wpAny_take (i := 5) (v := rPtr c) rfl (by kernel_rfl) (by kernel_rfl) (by kernel_rfl) (fun _ _ _ h => h) (Or.inl ⟨by kernel_rfl, fun w => by go_simp⟩) ?_
              refine wpAny_take (i := 6) (v := rPtr c) rfl (by kernel_rfl) (by kernel_rfl) (by kernel_rfl) (fun _ _ _ h => h) (Or.inl ⟨by kernel_rfl, fun w => by go_simp⟩) ?_
              refine wpAny_take (i := 7) (v := .func (.func 279) #[rPtr c] #[]) rfl (by kernel_rfl) (by kernel_rfl) (by kernel_rfl) (fun _ _ _ h => h) (Or.inl ⟨by kernel_rfl, fun w => by go_simp⟩) ?_
              refine wpAny_take (i := 8) (v := rPtr c) rfl (by kernel_rfl) (by kernel_rfl) (by kernel_rfl) (fun _ _ _ h => h) (Or.inl ⟨by kernel_rfl, fun w => by go_simp⟩) ?_
              refine wpAny_take (i := 9) (v := .func (.func 280) #[rPtr c] #[]) rfl (by kernel_rfl) (by kernel_rfl) (by kernel_rfl) (fun _ _ _ h => h) (Or.inl ⟨by kernel_rfl, fun w => by go_simp⟩) ?_
              refine wpAny_ready (rs := [4, 10]) (by kernel_rfl) (by simp) (AllReady.cons rfl (fun K hK => ?_) (AllReady.cons rfl (fun K hK => ?_) AllReady.nil))
              · go_simp
                refine hK _ _ ?_
                clear hK K
                refine wpAny_ready (rs := [10]) (by kernel_rfl) (by simp) (AllReady.cons rfl (fun K hK => ?_) AllReady.nil)
                go_simp
                refine Calls.mono HC.out ?_
                intro e wc hp
                obtain ⟨⟨vc, rfl, hlv⟩, hrd, ha⟩ := hp
                have HAc := hide ((unhide HAn).drew.next ha)
                have HRc := hide hrd
                have hlt2 := hrd.lt
                have HOc := hide (Open.later (unhide HOP) (((Ap.refl c.R wn.heap.size wn).drew).next ha) (unhide HLT))
                have HLV := hide hlv
                obtain ⟨gc3, gcf, gcl⟩ := (unhide HOc).cell
                clear hrd ha hlv
                refine hK _ _ ?_
                clear hK K
                by_cases hus : us = []
                · obtain rfl := (unhide HLV).2.1 hus
                  subst hus
                  obtain ⟨hucap, ga, rfl⟩ := (unhide HOc).cap (by rw [unhide HKL]; decide)
                  have HP1 := hide (push0 (unhide HOc) (unhide HRc) (unhide HAc) (unhide HLO))
                  refine wpAny_ready (rs := [11]) (by kernel_rfl) (by simp) (AllReady.cons rfl (fun K hK => ?_) AllReady.nil)
                  go_simp
                  refine hK _ _ ?_
                  clear hK K hucap
                  refine wpAny_take (i := 12) (v := nPtr pq) rfl (by kernel_rfl) (by kernel_rfl) (by kernel_rfl) (fun _ _ _ h => h) (Or.inl ⟨by kernel_rfl, fun w => by go_simp⟩) ?_
                  refine wpAny_take (i := 13) (v := .pointer (some ⟨pq, 3, none⟩)) rfl (by kernel_rfl) (by kernel_rfl) (by kernel_rfl) (fun _ _ _ h => h) (Or.inl ⟨by kernel_rfl, fun w => by go_simp⟩) ?_
                  refine wpAny_ready (rs := [14]) (by kernel_rfl) (by simp) (AllReady.cons rfl (fun K hK => ?_) AllReady.nil)
                  go_simp
                  refine hK _ _ ?_
                  clear hK K
                  refine wpAny_done (by kernel_rfl) ?_ _
                  go_simp
                  obtain ⟨m1, m2, m3⟩ := unhide HP1
                  obtain ⟨pm, hpm, hnm⟩ := m1.nv
                  have hpe : pm = pq := by simpa [nPtr] using hpm.symm
                  subst hpe
                  have ht0 := unhide HT0
                  have HM1 := hide hnm
                  have HM2 := hide m2
                  have HM3 := hide m3
                  clear m1 m2 m3 hpm hnm
                  go_wp2_with fail
                  go_roundw
                  case rel => exact ⟨k, .mk 35 noText 0 [t], j2, pm, rfl, unhide HS, unhide HM2, unhide HM3, by have h9 := unhide HM1; rw [show Tr.mk t0.kd t0.tx t0.n (t0.kids ++ []) = Tr.mk 35 noText 0 [t] by rw [ht0]; rfl] at h9; exact h9⟩
                  case measure => rw [nxt_eq (unhide HM2), nxt_eq (unhide HRM)]; omega
                · obtain ⟨g2, cap2, qs, rfl, hql, hqn, hqc⟩ := (unhide HLV).many hus
                  have hu1 := (unhide HLV).2.2
                  have hpos : 0 < us.length := List.length_pos_iff.2 hus
                  have HX := hide (Open.apart (unhide HOP) (unhide HAn).size (show NAts (From wn.heap.size) wc us qs from hqn))
                  have hlen := NAts.length _ _ (unhide HOc).kids
                  have hkl := unhide HKL
                  have hsz := (unhide HAc).size
                  have hown := (unhide HOc).row
                  rw [hlen] at hown
                  have HOWN := hide hown
                  have HQL := hide hql
                  have HLEN := hide hlen
                  clear hown hus hqn hlen
                  refine wpAny_ready (rs := [11]) (by kernel_rfl) (by simp) (AllReady.cons rfl (fun K hK => ?_) AllReady.nil)
                  refine step_append_lies _ rfl _ _ 36 rfl w.heap.size 22 i0 (.pointer none) 1 8 Tryz.underlying36 hi0 hz0 hz1 hz2 rfl (by decide) _ _ _ rfl (unhide HOWN) ⟨g2, 0, none⟩ us.length cap2 (qs.map nPtr) rfl (by simp [hql]) hqc (map_one qs) hpos (by unfold maxLen; omega) (by omega) hsz wc.heap.size rfl ?_
                  intro g cap w3 hown3 hgr3 hg3 _
                  refine hK _ _ ?_
                  clear hK K
                  have HP1 := hide (pushN (m := t0.kids.length + us.length) (unhide HOc) (unhide HX) (unhide HRc) (unhide HAc) (unhide HLO) hown3 (by rw [unhide HLEN, unhide HQL]) hgr3 hg3)
                  have hp3 : w3.cell? ⟨pq, 3, none⟩ = wc.cell? ⟨pq, 3, none⟩ ∧ w3.frozen? ⟨pq, 3, none⟩ = wc.frozen? ⟨pq, 3, none⟩ := by
                    have hbb : w3.heap[pq]? = wc.heap[pq]? := hgr3.block pq gcl (fun e => (unhide HOc).own e.symm)
                    exact ⟨World.cell?_of_block (w := wc) hbb, World.frozen?_of_block (w := wc) hbb⟩
                  obtain ⟨hp3c, hp3f⟩ := hp3
                  rw [gc3] at hp3c
                  rw [gcf 3] at hp3f
                  clear hown3 hgr3 hg3 gc3 gcf hqc hkl
                  refine wpAny_take (i := 12) (v := nPtr pq) rfl (by kernel_rfl) (by kernel_rfl) (by kernel_rfl) (fun _ _ _ h => h) (Or.inl ⟨by kernel_rfl, fun w => by go_simp⟩) ?_
                  refine wpAny_take (i := 13) (v := .pointer (some ⟨pq, 3, none⟩)) rfl (by kernel_rfl) (by kernel_rfl) (by kernel_rfl) (fun _ _ _ h => h) (Or.inl ⟨by kernel_rfl, fun w => by go_simp⟩) ?_
                  refine wpAny_ready (rs := [14]) (by kernel_rfl) (by simp) (AllReady.cons rfl (fun K hK => ?_) AllReady.nil)
                  go_simp
                  refine hK _ _ ?_
                  clear hK K
                  refine wpAny_done (by kernel_rfl) ?_ _
                  go_simp
                  obtain ⟨m1, m2, m3⟩ := unhide HP1
                  obtain ⟨pm, hpm, hnm⟩ := m1.nv
                  have hpe : pm = pq := by simpa [nPtr] using hpm.symm
                  subst hpe
                  have ht0 := unhide HT0
                  have HM1 := hide hnm
                  have HM2 := hide m2
                  have HM3 := hide m3
                  clear m1 m2 m3 hpm hnm
                  go_wp2_with fail
                  go_roundw
                  case rel => exact ⟨k, .mk 35 noText 0 (t :: us), j2, pm, rfl, unhide HS, unhide HM2, unhide HM3, by have h9 := unhide HM1; rw [show Tr.mk t0.kd t0.tx t0.n (t0.kids ++ us) = Tr.mk 35 noText 0 (t :: us) by rw [ht0]; rfl] at h9; exact h9⟩
                  case measure => rw [nxt_eq (unhide HM2), nxt_eq (unhide HRM)]; omega
              · go_simp
                refine Calls.mono HC.out ?_
                intro e wc hp
                obtain ⟨⟨vc, rfl, hlv⟩, hrd, ha⟩ := hp
                have HAc := hide ((unhide HAn).drew.next ha)
                have HRc := hide hrd
                have hlt2 := hrd.lt
                have HOc := hide (Open.later (unhide HOP) (((Ap.refl c.R wn.heap.size wn).drew).next ha) (unhide HLT))
                have HLV := hide hlv
                obtain ⟨gc3, gcf, gcl⟩ := (unhide HOc).cell
                clear hrd ha hlv
                refine hK _ _ ?_
                clear hK K
                refine wpAny_ready (rs := [4]) (by kernel_rfl) (by simp) (AllReady.cons rfl (fun K hK => ?_) AllReady.nil)
                go_simp
                refine hK _ _ ?_
                clear hK K
                by_cases hus : us = []
                · obtain rfl := (unhide HLV).2.1 hus
                  subst hus
                  obtain ⟨hucap, ga, rfl⟩ := (unhide HOc).cap (by rw [unhide HKL]; decide)
                  have HP1 := hide (push0 (unhide HOc) (unhide HRc) (unhide HAc) (unhide HLO))
                  refine wpAny_ready (rs := [11]) (by kernel_rfl) (by simp) (AllReady.cons rfl (fun K hK => ?_) AllReady.nil)
                  go_simp
                  refine hK _ _ ?_
                  clear hK K hucap
                  refine wpAny_take (i := 12) (v := nPtr pq) rfl (by kernel_rfl) (by kernel_rfl) (by kernel_rfl) (fun _ _ _ h => h) (Or.inl ⟨by kernel_rfl, fun w => by go_simp⟩) ?_
                  refine wpAny_take (i := 13) (v := .pointer (some ⟨pq, 3, none⟩)) rfl (by kernel_rfl) (by kernel_rfl) (by kernel_rfl) (fun _ _ _ h => h) (Or.inl ⟨by kernel_rfl, fun w => by go_simp⟩) ?_
                  refine wpAny_ready (rs := [14]) (by kernel_rfl) (by simp) (AllReady.cons rfl (fun K hK => ?_) AllReady.nil)
                  go_simp
                  refine hK _ _ ?_
                  clear hK K
                  refine wpAny_done (by kernel_rfl) ?_ _
                  go_simp
                  obtain ⟨m1, m2, m3⟩ := unhide HP1
                  obtain ⟨pm, hpm, hnm⟩ := m1.nv
                  have hpe : pm = pq := by simpa [nPtr] using hpm.symm
                  subst hpe
                  have ht0 := unhide HT0
                  have HM1 := hide hnm
                  have HM2 := hide m2
                  have HM3 := hide m3
                  clear m1 m2 m3 hpm hnm
                  go_wp2_with fail
                  go_roundw
                  case rel => exact ⟨k, .mk 35 noText 0 [t], j2, pm, rfl, unhide HS, unhide HM2, unhide HM3, by have h9 := unhide HM1; rw [show Tr.mk t0.kd t0.tx t0.n (t0.kids ++ []) = Tr.mk 35 noText 0 [t] by rw [ht0]; rfl] at h9; exact h9⟩
                  case measure => rw [nxt_eq (unhide HM2), nxt_eq (unhide HRM)]; omega
                · obtain ⟨g2, cap2, qs, rfl, hql, hqn, hqc⟩ := (unhide HLV).many hus
                  have hu1 := (unhide HLV).2.2
                  have hpos : 0 < us.length := List.length_pos_iff.2 hus
                  have HX := hide (Open.apart (unhide HOP) (unhide HAn).size (show NAts (From wn.heap.size) wc us qs from hqn))
                  have hlen := NAts.length _ _ (unhide HOc).kids
                  have hkl := unhide HKL
                  have hsz := (unhide HAc).size
                  have hown := (unhide HOc).row
                  rw [hlen] at hown
                  have HOWN := hide hown
                  have HQL := hide hql
                  have HLEN := hide hlen
                  clear hown hus hqn hlen
                  refine wpAny_ready (rs := [11]) (by kernel_rfl) (by simp) (AllReady.cons rfl (fun K hK => ?_) AllReady.nil)
                  refine step_append_lies _ rfl _ _ 36 rfl w.heap.size 22 i0 (.pointer none) 1 8 Tryz.underlying36 hi0 hz0 hz1 hz2 rfl (by decide) _ _ _ rfl (unhide HOWN) ⟨g2, 0, none⟩ us.length cap2 (qs.map nPtr) rfl (by simp [hql]) hqc (map_one qs) hpos (by unfold maxLen; omega) (by omega) hsz wc.heap.size rfl ?_
                  intro g cap w3 hown3 hgr3 hg3 _
                  refine hK _ _ ?_
                  clear hK K
                  have HP1 := hide (pushN (m := t0.kids.length + us.length) (unhide HOc) (unhide HX) (unhide HRc) (unhide HAc) (unhide HLO) hown3 (by rw [unhide HLEN, unhide HQL]) hgr3 hg3)
                  have hp3 : w3.cell? ⟨pq, 3, none⟩ = wc.cell? ⟨pq, 3, none⟩ ∧ w3.frozen? ⟨pq, 3, none⟩ = wc.frozen? ⟨pq, 3, none⟩ := by
                    have hbb : w3.heap[pq]? = wc.heap[pq]? := hgr3.block pq gcl (fun e => (unhide HOc).own e.symm)
                    exact ⟨World.cell?_of_block (w := wc) hbb, World.frozen?_of_block (w := wc) hbb⟩
                  obtain ⟨hp3c, hp3f⟩ := hp3
                  rw [gc3] at hp3c
                  rw [gcf 3] at hp3f
                  clear hown3 hgr3 hg3 gc3 gcf hqc hkl
                  refine wpAny_take (i := 12) (v := nPtr pq) rfl (by kernel_rfl) (by kernel_rfl) (by kernel_rfl) (fun _ _ _ h => h) (Or.inl ⟨by kernel_rfl, fun w => by go_simp⟩) ?_
                  refine wpAny_take (i := 13) (v := .pointer (some ⟨pq, 3, none⟩)) rfl (by kernel_rfl) (by kernel_rfl) (by kernel_rfl) (fun _ _ _ h => h) (Or.inl ⟨by kernel_rfl, fun w => by go_simp⟩) ?_
                  refine wpAny_ready (rs := [14]) (by kernel_rfl) (by simp) (AllReady.cons rfl (fun K hK => ?_) AllReady.nil)
                  go_simp
                  refine hK _ _ ?_
                  clear hK K
                  refine wpAny_done (by kernel_rfl) ?_ _
                  go_simp
                  obtain ⟨m1, m2, m3⟩ := unhide HP1
                  obtain ⟨pm, hpm, hnm⟩ := m1.nv
                  have hpe : pm = pq := by simpa [nPtr] using hpm.symm
                  subst hpe
                  have ht0 := unhide HT0
                  have HM1 := hide hnm
                  have HM2 := hide m2
                  have HM3 := hide m3
                  clear m1 m2 m3 hpm hnm
                  go_wp2_with fail
                  go_roundw
                  case rel => exact ⟨k, .mk 35 noText 0 (t :: us), j2, pm, rfl, unhide HS, unhide HM2, unhide HM3, by have h9 := unhide HM1; rw [show Tr.mk t0.kd t0.tx t0.n (t0.kids ++ us) = Tr.mk 35 noText 0 (t :: us) by rw [ht0]; rfl] at h9; exact h9⟩
                  case measure => rw [nxt_eq (unhide HM2), nxt_eq (unhide HRM)]; omega
          · rw [if_neg hy] at HS
            have by1 : ((fx c.l j).toList == [40]) = false := tl_neL (b := tOpen) rfl hy
            clear hy
            go_wp2_with fail
            refine Calls.mono HC.out ?_
            rintro e wf ⟨rfl, hbf⟩
            clear HC
            have HRf := hide ((unhide HRr).later hbf)
            have HAf := hide ((unhide HAr).next (Ap.of hbf))
            replace HNt := hide (nat_later (c := c) (unhide HNt) (Ap.of hbf) (unhide HLT))
            clear hbf
            go_wp2_with fail
            go_ret
            exact ppOk (unhide HS).symm ⟨p0, rfl, unhide HNt⟩ (unhide HRf) (unhide HAf)

end Go.Proofs.YtodmgaikhbmlnaaGreatDoor
