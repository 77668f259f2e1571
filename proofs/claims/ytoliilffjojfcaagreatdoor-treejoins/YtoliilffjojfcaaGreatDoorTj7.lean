/-
  Joined out of Rd22, Pg1, Pg2, Pg3.
-/
import Derived.Test.YtoliilffjojfcaaGreatDoorTj6
import Derived.Deep.MidRow
import Derived.Laws.AppendOwnNone
import Derived.MapKept
/-
  Rd22: Calls and properties behind a value.
-/
namespace Go.Proofs.YtoliilffjojfcaaGreatDoor
open Go.RowKit

/-- The row stays as it was, and is stored again. -/
theorem push0 {c : Ctx} {w w1 : World} {j d : Nat} {t : Tr} {p : Nat} {u : Value} {ps : List Nat} (hO : Open w.heap.size w1 t p u ps) (hR : Rdr c w1 j d) (hA : Ap c.R w.heap.size w w1) (hlo : c.lo ≤ w.heap.size) :
    EV w.heap.size (w1.setCell ⟨p, 3, none⟩ u) (.mk t.kd t.tx t.n (t.kids ++ [])) (nPtr p) ∧ Rdr c (w1.setCell ⟨p, 3, none⟩ u) j d ∧ Ap c.R w.heap.size w (w1.setCell ⟨p, 3, none⟩ u) := by
  have hset : ∀ b, b ≠ p → (w1.setCell ⟨p, 3, none⟩ u).heap[b]? = w1.heap[b]? := fun b hb => Below.heap_setCell w1 ⟨p, 3, none⟩ _ b hb
  have hB : Below w.heap.size w1 (w1.setCell ⟨p, 3, none⟩ u) := (Below.refl _ _).setCell (p := ⟨p, 3, none⟩) hO.low _
  refine ⟨?_, hR.ap hB hlo, hA.trans (Ap.of hB)⟩
  rw [List.append_nil]
  refine ⟨p, u, ps, rfl, hO.low, by rw [heap_set hO.blk]; rfl, ?_, hO.own, NAts.later (fun b hb _ => hset b hb.2.1) _ _ hO.kids⟩
  exact owns_stay (I := fun b => b ≠ p) (fun b hb _ => hset b hb) (fun g hg e => hO.own (by rw [hg, e])) hO.row

/-- Many parts more. -/
theorem pushN {c : Ctx} {w w1 w3 : World} {j d : Nat} {t : Tr} {us : List Tr} {p g cap m : Nat} {u : Value} {ps qs : List Nat} (hO : Open w.heap.size w1 t p u ps) (hx : NAts (fun b => w.heap.size ≤ b ∧ b ≠ p ∧ u.ownBlock ≠ some b) w1 us qs) (hR : Rdr c w1 j d) (hA : Ap c.R w.heap.size w w1) (hlo : c.lo ≤ w.heap.size)
    (hown : w3.ownsRow w.heap.size 22 1 (.slice (some ⟨g, 0, none⟩) m cap) m (ps.map nPtr ++ qs.map nPtr)) (hm : m = ps.length + qs.length) (hgr : w1.grownBy w3 u.ownBlock) (hg : u.ownBlock = some g ∨ g = w1.heap.size) :
    EV w.heap.size (w3.setCell ⟨p, 3, none⟩ (.slice (some ⟨g, 0, none⟩) m cap)) (.mk t.kd t.tx t.n (t.kids ++ us)) (nPtr p) ∧
    Rdr c (w3.setCell ⟨p, 3, none⟩ (.slice (some ⟨g, 0, none⟩) m cap)) j d ∧
    Ap c.R w.heap.size w (w3.setCell ⟨p, 3, none⟩ (.slice (some ⟨g, 0, none⟩) m cap)) := by
  have hrow : ∀ k, u.ownBlock = some k → w.heap.size ≤ k := fun k hk => (own_lt hO.row k hk).2
  have hgrow : Below w.heap.size w1 w3 := (Below.refl w.heap.size w1).grown hgr hA.size hrow
  have hset : Below w.heap.size w1 (w3.setCell ⟨p, 3, none⟩ (.slice (some ⟨g, 0, none⟩) m cap)) := hgrow.setCell (p := ⟨p, 3, none⟩) hO.low _
  refine ⟨?_, hR.ap hset hlo, hA.trans (Ap.of hset)⟩
  exact ev_push hO.low hO.blk hO.own hO.kids hx (by rw [List.map_append]; exact hown) (by rw [hm, List.length_append]) hgr hg

theorem en239 : ∀ args W, (callFunc 239 args).run Tryz.prog W = .ok (.enter 239 args) W := fun _ _ => by kernel_rfl
theorem en240 : ∀ args W, (callFunc 240 args).run Tryz.prog W = .ok (.enter 240 args) W := fun _ _ => by kernel_rfl

/-- A list's parts, open. -/
theorem LV.many {B : Nat} {w : World} {ts : List Tr} {v : Value} (h : LV B w ts v) (hne : ts ≠ []) : ∃ g cap qs, v = .slice (some ⟨g, 0, none⟩) ts.length cap ∧ qs.length = ts.length ∧ NAts (From B) w ts qs ∧ (∀ j u, (qs.map nPtr)[j]? = some u → w.cell? ((⟨g, 0, none⟩ : Addr).add j) = some u) := by
  obtain ⟨⟨qs, hr, hk⟩, _, _⟩ := h
  have hl := NAts.length _ _ hk
  have hp : 0 < qs.length := by rw [hl]; exact List.length_pos_iff.2 hne
  obtain ⟨g, cap, hv, hc⟩ := row_open hr hp
  refine ⟨g, cap, qs, by rw [hv, hl], hl, NAts.mono (fun b hb _ => hb.1) _ _ hk, fun j u hj => ?_⟩
  rw [Addr.add_mid, Nat.zero_add]
  rw [List.getElem?_map] at hj
  cases hq : qs[j]? with
  | none => rw [hq] at hj; cases hj
  | some q =>
    rw [hq] at hj
    obtain ⟨hlt, he⟩ := List.getElem?_eq_some_iff.1 hq
    rw [hc j hlt, he]
    exact hj
theorem map_one (qs : List Nat) : ∀ u ∈ qs.map nPtr, u.oneCell' = true := by
  intro u hu
  obtain ⟨q, _, rfl⟩ := List.mem_map.1 hu
  rfl

theorem Open.cap {B : Nat} {w : World} {t : Tr} {p : Nat} {ua : Option Addr} {n uc : Nat} {ps : List Nat} (h : Open B w t p (.slice ua n uc) ps) (hp : 0 < t.kids.length) : n ≤ uc ∧ ∃ g, ua = some ⟨g, 0, none⟩ := by
  have hl := NAts.length _ _ h.kids
  rcases h.row.2 with hn | ⟨g, cap, cur, hv, _, _, h1, _⟩
  · omega
  · simp only [Value.slice.injEq] at hv
    obtain ⟨rfl, rfl, rfl⟩ := hv
    exact ⟨h1, g, rfl⟩

set_option maxRecDepth 100000 in
set_option maxHeartbeats 1000000 in
theorem asked_any {c : Ctx} {F : Fns} (hF : FC c F) (hN : ∃ k, FNx c.l k F) (hK : FOk F) : Does c 237 NV (askedP c.l F) := by
  have hmf := mf_bound c.R 239
  have hmf2 := mf_bound c.R 240
  intro w d i r hs ho h
  have HLO := hide h.base.size
  have HE := hide h.base.ends
  have HL := hide h.base.len
  obtain ⟨i0, hi0, hz0, hz1, hz2⟩ := info_parts info22
  have HNX := hide hN
  have HFC := hide hF
  have HR0 := hide h
  have HA0 := hide (Ap.refl c.R w.heap.size w)
  have HLT := hide h.rlt
  unfold askedP at hs
  have HS := hide hs
  have HO := hide ho
  clear h hs ho
  go_enter Tryz.func237, Tryz.ntmps237
  cases hr : aloneP c.l F d i with
  | out =>
    rw [hr] at HS
    simp only [bind_out] at HS
    exact absurd (unhide HS).symm (unhide HO)
  | bad er p =>
    have HC := hide (alone_any hF hN hK w d i _ rfl (by rw [hr]; nofun) (unhide HR0))
    rw [hr] at HC HS
    simp only [bind_bad] at HS
    clear hr
    go_wp2_with fail
    refine Calls.mono HC.out ?_
    intro e w' hp
    obtain ⟨rfl, ha⟩ := hp
    exact ⟨rfl, ppBad (unhide HS).symm ((unhide HA0).next ha)⟩
  | ok x1 j1 =>
    have HC := hide (alone_any hF hN hK w d i _ rfl (by rw [hr]; nofun) (unhide HR0))
    rw [hr] at HC HS
    simp only [bind_ok] at HS
    clear hr
    go_wp2_with fail
    refine Calls.mono HC.out ?_
    intro e w1 hp
    obtain ⟨⟨v1, rfl, p1, rfl, hn1⟩, hrd, ha⟩ := hp
    clear HC
    have HA1 := hide ((unhide HA0).next ha)
    have HR1 := hide hrd
    have HN1 := hide (nat_mono hn1 (unhide HA0).size)
    clear hn1
    clear hrd ha HA0 HR0
    clear hF hN hK
    go_wp2_with fail
    go_loopw [3] (fun v wr => ∃ k t j p, v = nPtr p ∧ askedLoop c.l F d k t j = r ∧ Rdr c wr j d ∧ Ap c.R w.heap.size w wr ∧ NAt (From w.heap.size) wr t p) (fun _ wr => c.l.length - nxt c wr)
    case atStart => exact ⟨F.fuel, x1, j1, p1, rfl, unhide HS, unhide HR1, unhide HA1, unhide HN1⟩
    case round =>
      obtain ⟨k, t, j, p0, rfl, hq, hrd, hap, hnt⟩ := hrel
      clear HS HR1 HA1 HN1
      cases k with
      | zero => exact absurd hq.symm (unhide HO)
      | succ k =>
        have HRr := hide hrd
        have HRM := hide hrd
        have HAr := hide hap
        have HNt := hide hnt
        have hjl := hrd.lt
        have hL := unhide HL
        unfold askedLoop at hq
        have HS := hide hq
        have HC := hide (fixed_any c wr j d hrd)
        clear hq hrd hap hnt
        by_cases hx : fx c.l j = tDot
        · rw [if_pos hx] at HS
          have bx : ((fx c.l j).toList == [46]) = true := tl_eqL (b := tDot) rfl hx
          have hi := fx_lt (unhide HE) hjl hx (by decide)
          clear hx
          go_wp2_with fail
          refine Calls.mono HC.out ?_
          rintro e wf ⟨rfl, hbf⟩
          clear HC
          have HRf := hide ((unhide HRr).later hbf)
          have HAf := hide ((unhide HAr).next (Ap.of hbf))
          replace HNt := hide (nat_later (c := c) (unhide HNt) (Ap.of hbf) (unhide HLT))
          clear hbf
          have hc1 := (unhide HRf).c1
          have hcz := (unhide HRf).fz
          have hcl := (unhide HRf).rlt
          obtain ⟨hsr, hsa⟩ := stepped (unhide HRf) (unhide HAf) hi
          have HRs := hide hsr
          have HAs := hide hsa
          replace HNt := hide (nat_later (c := c) (unhide HNt) (Ap.setCell (R := c.R) (Ap.refl _ _ _) (p := ⟨c.R, 1, none⟩) (Or.inr rfl) (.int .i64 ((j : Int) + 1))) (unhide HLT))
          clear hsr hsa HRf HAf
          cases hr : nameP c.l (j + 1) with
          | out =>
            rw [hr] at HS
            simp only [bind_out] at HS
            exact absurd (unhide HS).symm (unhide HO)
          | bad er p =>
            have HC := hide (name_any c (wf.setCell ⟨c.R, 1, none⟩ (.int .i64 ((j : Int) + 1))) (j + 1) d (unhide HRs))
            rw [hr] at HC HS
            simp only [bind_bad] at HS
            clear hr
            go_wp2_with fail
            refine Calls.mono HC.out ?_
            intro e w' hp
            obtain ⟨rfl, ha⟩ := hp
            exact ⟨rfl, ppBad (unhide HS).symm ((unhide HAs).next ha)⟩
          | ok x2 j2 =>
            have hgt := ((nameP_nx (q := True) (unhide HE) hi).2 _ _ hr).1
            have HC := hide (name_any c (wf.setCell ⟨c.R, 1, none⟩ (.int .i64 ((j : Int) + 1))) (j + 1) d (unhide HRs))
            rw [hr] at HC HS
            simp only [bind_ok] at HS
            clear hr
            go_wp2_with fail
            refine Calls.mono HC.out ?_
            intro e w2 hp
            obtain ⟨⟨v2, rfl, rfl⟩, hrd, ha⟩ := hp
            clear HC
            have HA2 := hide ((unhide HAs).next ha)
            have HR2 := hide hrd
            replace HNt := hide (nat_later (unhide HNt) ha (unhide HLT))
            clear hrd ha HAs HRs
            have hlt2 := (unhide HR2).lt
            have HC := hide (node_any 36 x2 (.slice (some ⟨w2.heap.size, 0, none⟩) 1 1) (w2.alloc (.cells #[nPtr p0] 22)) ⟨_, _, _, rfl⟩)
            go_wp2_with fail
            refine Calls.mono HC.out ?_
            rintro e wn ⟨rfl, rfl⟩
            clear HC
            obtain ⟨m1, m2, m3⟩ := made (unhide HR2) (unhide HA2) (NAts.cons (unhide HNt) NAts.nil) (by simp [maxLen]) #[nPtr p0] rfl 1 rfl 36 x2 (w2.heap.size + 1) rfl
            obtain ⟨pm, hpm, hnm⟩ := m1.nv
            have hpe : pm = w2.heap.size + 1 := by simpa [nPtr] using hpm.symm
            subst hpe
            have HM1 := hide hnm
            have HM2 := hide m2
            have HM3 := hide m3
            clear m1 m2 m3 hpm hnm
            go_wp2_with fail
            go_roundw
            case rel => exact ⟨k, .mk 36 x2 0 [t], j2, w2.heap.size + 1, by simp, unhide HS, unhide HM2, unhide HM3, unhide HM1⟩
            case measure => rw [nxt_eq (unhide HM2), nxt_eq (unhide HRM)]; omega
        · rw [if_neg hx] at HS
          have bx : ((fx c.l j).toList == [46]) = false := tl_neL (b := tDot) rfl hx
          clear hx
          by_cases hy : fx c.l j = tOpen
          · rw [if_pos hy] at HS
            have by1 : ((fx c.l j).toList == [40]) = true := tl_eqL (b := tOpen) rfl hy
            clear hy
            go_wp2_with fail
            refine Calls.mono HC.out ?_
            rintro e wf ⟨rfl, hbf⟩
            clear HC
            have HRf := hide ((unhide HRr).later hbf)
            have HAf := hide ((unhide HAr).next (Ap.of hbf))
            replace HNt := hide (nat_later (c := c) (unhide HNt) (Ap.of hbf) (unhide HLT))
            clear hbf
            have HC := hide (node_any 35 noText (.slice (some ⟨wf.heap.size, 0, none⟩) 1 1) (wf.alloc (.cells #[nPtr p0] 22)) ⟨_, _, _, rfl⟩)
            go_wp2_with fail
            refine Calls.mono HC.out ?_
            rintro e wn0 ⟨rfl, rfl⟩
            clear HC
            obtain ⟨m1, m2, m3⟩ := made (unhide HRf) (unhide HAf) (NAts.cons (unhide HNt) NAts.nil) (by simp [maxLen]) #[nPtr p0] rfl 1 rfl 35 noText (wf.heap.size + 1) rfl
            obtain ⟨t0, ht0⟩ : ∃ t0 : Tr, t0 = .mk 35 noText 0 [t] := ⟨_, rfl⟩
            rw [← ht0] at m1
            have HKL : Hid (t0.kids.length = 1) := by
              show _ = _
              rw [ht0]; rfl
            have HT0 := hide ht0
            obtain ⟨pq, u0, ps0, hpe, hop⟩ := m1.opens
            have hpe2 : pq = wf.heap.size + 1 := by simpa [nPtr] using hpe.symm
            rw [hpe2] at hop
            have HOP := hide hop
            have HRn := hide m2
            have HAn := hide m3
            clear m1 m2 m3 hop hpe ht0
            obtain ⟨wn, hwn⟩ : ∃ wn, wn = (wf.alloc (.cells #[nPtr p0] 22)).alloc (nodeObj 35 noText 0 (.slice (some ⟨wf.heap.size, 0, none⟩) 1 1)) := ⟨_, rfl⟩
            rw [← hwn] at HOP HRn HAn
            rw [← hpe2] at HOP
            rw [show (wf.alloc (.cells #[nPtr p0] 22)).heap.size = pq by rw [hpe2]; simp, ← hwn]
            clear hwn hpe2
            obtain ⟨hc3, hcf, hcl⟩ := (unhide HOP).cell
            obtain ⟨ua, uc, hue⟩ := (unhide HOP).shape
            subst hue
            obtain ⟨kk, hkk⟩ := unhide HNX
            cases hr : listP c.l tOpen tShut (isVal c.l) (argP c.l F d) F.fuel j with
            | out =>
              rw [hr] at HS
              simp only [bind_out] at HS
              exact absurd (unhide HS).symm (unhide HO)
            | bad er p =>
              have HC := hide (list_any 239 240 (isVal c.l) (argP c.l F) tOpen tShut (atValue_any c) (arg_any (unhide HFC)) en239 en240 (by decide) (by decide) (argP_go hkk) F.fuel wn.drew d j _ rfl (by rw [hr]; nofun) (unhide HRn).drew)
              rw [hr] at HC HS
              simp only [bind_bad] at HS
              clear hr hkk
              go_wp2_with fail
              refine wp_region_any (by kernel_rfl) ?_
              change wpAny _ _ _ _ _ _ _ (World.drew _)
              refine wpAny_take (i := 0) (v := nPtr pq) rfl (by kernel_rfl) (by kernel_rfl) (by kernel_rfl) (fun _ _ _ h => h) (Or.inl ⟨by kernel_rfl, fun w => by go_simp⟩) ?_
              refine wpAny_take (i := 1) (v := nPtr pq) rfl (by kernel_rfl) (by kernel_rfl) (by kernel_rfl) (fun _ _ _ h => h) (Or.inl ⟨by kernel_rfl, fun w => by go_simp⟩) ?_
              refine wpAny_take (i := 2) (v := nPtr pq) rfl (by kernel_rfl) (by kernel_rfl) (by kernel_rfl) (fun _ _ _ h => h) (Or.inl ⟨by kernel_rfl, fun w => by go_simp⟩) ?_
              refine wpAny_take (i := 3) (v := .pointer (some ⟨pq, 3, none⟩)) rfl (by kernel_rfl) (by kernel_rfl) (by kernel_rfl) (fun _ _ _ h => h) (Or.inl ⟨by kernel_rfl, fun w => by go_simp⟩) ?_
              refine wpAny_take (i := 5) (v := rPtr c) rfl (by kernel_rfl) (by kernel_rfl) (by kernel_rfl) (fun _ _ _ h => h) (Or.inl ⟨by kernel_rfl, fun w => by go_simp⟩) ?_
              refine wpAny_take (i := 6) (v := rPtr c) rfl (by kernel_rfl) (by kernel_rfl) (by kernel_rfl) (fun _ _ _ h => h) (Or.inl ⟨by kernel_rfl, fun w => by go_simp⟩) ?_
              refine wpAny_take (i := 7) (v := .func (.func 239) #[rPtr c] #[]) rfl (by kernel_rfl) (by kernel_rfl) (by kernel_rfl) (fun _ _ _ h => h) (Or.inl ⟨by kernel_rfl, fun w => by go_simp⟩) ?_
              refine wpAny_take (i := 8) (v := rPtr c) rfl (by kernel_rfl) (by kernel_rfl) (by kernel_rfl) (fun _ _ _ h => h) (Or.inl ⟨by kernel_rfl, fun w => by go_simp⟩) ?_
              refine wpAny_take (i := 9) (v := .func (.func 240) #[rPtr c] #[]) rfl (by kernel_rfl) (by kernel_rfl) (by kernel_rfl) (fun _ _ _ h => h) (Or.inl ⟨by kernel_rfl, fun w => by go_simp⟩) ?_
              refine wpAny_ready (rs := [4, 10]) (by kernel_rfl) (by simp) (AllReady.cons rfl (fun K hK => ?_) (AllReady.cons rfl (fun K hK => ?_) AllReady.nil))
              · go_simp
                refine hK _ _ ?_
                clear hK K
                refine wpAny_ready (rs := [10]) (by kernel_rfl) (by simp) (AllReady.cons rfl (fun K hK => ?_) AllReady.nil)
                go_simp
                refine Calls.mono HC.out ?_
                intro e w' hp
                obtain ⟨rfl, ha⟩ := hp
                exact ⟨rfl, ppBad (unhide HS).symm ((unhide HAn).drew.next ha)⟩
              · go_simp
                refine Calls.mono HC.out ?_
                intro e w' hp
                obtain ⟨rfl, ha⟩ := hp
                exact ⟨rfl, ppBad (unhide HS).symm ((unhide HAn).drew.next ha)⟩
            | ok us j2 =>
              have HC := hide (list_any 239 240 (isVal c.l) (argP c.l F) tOpen tShut (atValue_any c) (arg_any (unhide HFC)) en239 en240 (by decide) (by decide) (argP_go hkk) F.fuel wn.drew d j _ rfl (by rw [hr]; nofun) (unhide HRn).drew)
              have hgt := ((listP_nx (q := False) (unhide HE) hjl (by decide) (by decide) (fun h => h.elim) (fun j1 _ h1 => argP_nx hkk h1 (fun h => h.elim))).2 _ _ hr).1
              rw [hr] at HC HS
              simp only [bind_ok] at HS
              clear hr hkk
              go_wp2_with fail
              refine wp_region_any (by kernel_rfl) ?_
              change wpAny _ _ _ _ _ _ _ (World.drew _)
              refine wpAny_take (i := 0) (v := nPtr pq) rfl (by kernel_rfl) (by kernel_rfl) (by kernel_rfl) (fun _ _ _ h => h) (Or.inl ⟨by kernel_rfl, fun w => by go_simp⟩) ?_
              refine wpAny_take (i := 1) (v := nPtr pq) rfl (by kernel_rfl) (by kernel_rfl) (by kernel_rfl) (fun _ _ _ h => h) (Or.inl ⟨by kernel_rfl, fun w => by go_simp⟩) ?_
              refine wpAny_take (i := 2) (v := nPtr pq) rfl (by kernel_rfl) (by kernel_rfl) (by kernel_rfl) (fun _ _ _ h => h) (Or.inl ⟨by kernel_rfl, fun w => by go_simp⟩) ?_
              refine wpAny_take (i := 3) (v := .pointer (some ⟨pq, 3, none⟩)) rfl (by kernel_rfl) (by kernel_rfl) (by kernel_rfl) (fun _ _ _ h => h) (Or.inl ⟨by kernel_rfl, fun w => by go_simp⟩) ?_
              refine wpAny_take (i := 5) (v := rPtr c) rfl (by kernel_rfl) (by kernel_rfl) (by kernel_rfl) (fun _ _ _ h => h) (Or.inl ⟨by kernel_rfl, fun w => by go_simp⟩) ?_
              refine wpAny_take (i := 6) (v := rPtr c) rfl (by kernel_rfl) (by kernel_rfl) (by kernel_rfl) (fun _ _ _ h => h) (Or.inl ⟨by kernel_rfl, fun w => by go_simp⟩) ?_
              refine wpAny_take (i := 7) (v := .func (.func 239) #[rPtr c] #[]) rfl (by kernel_rfl) (by kernel_rfl) (by kernel_rfl) (fun _ _ _ h => h) (Or.inl ⟨by kernel_rfl, fun w => by go_simp⟩) ?_
              refine wpAny_take (i := 8) (v := rPtr c) rfl (by kernel_rfl) (by kernel_rfl) (by kernel_rfl) (fun _ _ _ h => h) (Or.inl ⟨by kernel_rfl, fun w => by go_simp⟩) ?_
              refine wpAny_take (i := 9) (v := .func (.func 240) #[rPtr c] #[]) rfl (by kernel_rfl) (by kernel_rfl) (by kernel_rfl) (fun _ _ _ h => h) (Or.inl ⟨by kernel_rfl, fun w => by go_simp⟩) ?_
              refine wpAny_ready (rs := [4, 10]) (by kernel_rfl) (by simp) (AllReady.cons rfl (fun K hK => ?_) (AllReady.cons rfl (fun K hK => ?_) AllReady.nil))
              · go_simp
                refine hK _ _ ?_
                clear hK K
                refine wpAny_ready (rs := [10]) (by kernel_rfl) (by simp) (AllReady.cons rfl (fun K hK => ?_) AllReady.nil)
                go_simp
                refine Calls.mono HC.out ?_
                intro e wc hp
                obtain ⟨⟨vc, rfl, hlv⟩, hrd, ha⟩ := hp
                have HAc := hide ((unhide HAn).drew.next ha)
                have HRc := hide hrd
                have hlt2 := hrd.lt
                have HOc := hide (Open.later (unhide HOP) (((Ap.refl c.R wn.heap.size wn).drew).next ha) (unhide HLT))
                have HLV := hide hlv
                obtain ⟨gc3, gcf, gcl⟩ := (unhide HOc).cell
                clear hrd ha hlv
                refine hK _ _ ?_
                clear hK K
                by_cases hus : us = []
                · obtain rfl := (unhide HLV).2.1 hus
                  subst hus
                  obtain ⟨hucap, ga, rfl⟩ := (unhide HOc).cap (by rw [unhide HKL]; decide)
                  have HP1 := hide (push0 (unhide HOc) (unhide HRc) (unhide HAc) (unhide HLO))
                  refine wpAny_ready (rs := [11]) (by kernel_rfl) (by simp) (AllReady.cons rfl (fun K hK => ?_) AllReady.nil)
                  go_simp
                  refine hK _ _ ?_
                  clear hK K hucap
                  refine wpAny_take (i := 12) (v := nPtr pq) rfl (by kernel_rfl) (by kernel_rfl) (by kernel_rfl) (fun _ _ _ h => h) (Or.inl ⟨by kernel_rfl, fun w => by go_simp⟩) ?_
                  refine wpAny_take (i := 13) (v := .pointer (some ⟨pq, 3, none⟩)) rfl (by kernel_rfl) (by kernel_rfl) (by kernel_rfl) (fun _ _ _ h => h) (Or.inl ⟨by kernel_rfl, fun w => by go_simp⟩) ?_
                  refine wpAny_ready (rs := [14]) (by kernel_rfl) (by simp) (AllReady.cons rfl (fun K hK => ?_) AllReady.nil)
                  go_simp
                  refine hK _ _ ?_
                  clear hK K
                  refine wpAny_done (by kernel_rfl) ?_ _
                  go_simp
                  obtain ⟨m1, m2, m3⟩ := unhide HP1
                  obtain ⟨pm, hpm, hnm⟩ := m1.nv
                  have hpe : pm = pq := by simpa [nPtr] using hpm.symm
                  subst hpe
                  have ht0 := unhide HT0
                  have HM1 := hide hnm
                  have HM2 := hide m2
                  have HM3 := hide m3
                  clear m1 m2 m3 hpm hnm
                  go_wp2_with fail
                  go_roundw
                  case rel => exact ⟨k, .mk 35 noText 0 [t], j2, pm, rfl, unhide HS, unhide HM2, unhide HM3, by have h9 := unhide HM1; rw [show Tr.mk t0.kd t0.tx t0.n (t0.kids ++ []) = Tr.mk 35 noText 0 [t] by rw [ht0]; rfl] at h9; exact h9⟩
                  case measure => rw [nxt_eq (unhide HM2), nxt_eq (unhide HRM)]; omega
                · obtain ⟨g2, cap2, qs, rfl, hql, hqn, hqc⟩ := (unhide HLV).many hus
                  have hu1 := (unhide HLV).2.2
                  have hpos : 0 < us.length := List.length_pos_iff.2 hus
                  have HX := hide (Open.apart (unhide HOP) (unhide HAn).size (show NAts (From wn.heap.size) wc us qs from hqn))
                  have hlen := NAts.length _ _ (unhide HOc).kids
                  have hkl := unhide HKL
                  have hsz := (unhide HAc).size
                  have hown := (unhide HOc).row
                  rw [hlen] at hown
                  have HOWN := hide hown
                  have HQL := hide hql
                  have HLEN := hide hlen
                  clear hown hus hqn hlen
                  refine wpAny_ready (rs := [11]) (by kernel_rfl) (by simp) (AllReady.cons rfl (fun K hK => ?_) AllReady.nil)
                  refine step_append_lies _ rfl _ _ 36 rfl w.heap.size 22 i0 (.pointer none) 1 8 Tryz.underlying36 hi0 hz0 hz1 hz2 rfl (by decide) _ _ _ rfl (unhide HOWN) ⟨g2, 0, none⟩ us.length cap2 (qs.map nPtr) rfl (by simp [hql]) hqc (map_one qs) hpos (by unfold maxLen; omega) (by omega) hsz wc.heap.size rfl ?_
                  intro g cap w3 hown3 hgr3 hg3 _
                  refine hK _ _ ?_
                  clear hK K
                  have HP1 := hide (pushN (m := t0.kids.length + us.length) (unhide HOc) (unhide HX) (unhide HRc) (unhide HAc) (unhide HLO) hown3 (by rw [unhide HLEN, unhide HQL]) hgr3 hg3)
                  have hp3 : w3.cell? ⟨pq, 3, none⟩ = wc.cell? ⟨pq, 3, none⟩ ∧ w3.frozen? ⟨pq, 3, none⟩ = wc.frozen? ⟨pq, 3, none⟩ := by
                    have hbb : w3.heap[pq]? = wc.heap[pq]? := hgr3.block pq gcl (fun e => (unhide HOc).own e.symm)
                    exact ⟨World.cell?_of_block (w := wc) hbb, World.frozen?_of_block (w := wc) hbb⟩
                  obtain ⟨hp3c, hp3f⟩ := hp3
                  rw [gc3] at hp3c
                  rw [gcf 3] at hp3f
                  clear hown3 hgr3 hg3 gc3 gcf hqc hkl
                  refine wpAny_take (i := 12) (v := nPtr pq) rfl (by kernel_rfl) (by kernel_rfl) (by kernel_rfl) (fun _ _ _ h => h) (Or.inl ⟨by kernel_rfl, fun w => by go_simp⟩) ?_
                  refine wpAny_take (i := 13) (v := .pointer (some ⟨pq, 3, none⟩)) rfl (by kernel_rfl) (by kernel_rfl) (by kernel_rfl) (fun _ _ _ h => h) (Or.inl ⟨by kernel_rfl, fun w => by go_simp⟩) ?_
                  refine wpAny_ready (rs := [14]) (by kernel_rfl) (by simp) (AllReady.cons rfl (fun K hK => ?_) AllReady.nil)
                  go_simp
                  refine hK _ _ ?_
                  clear hK K
                  refine wpAny_done (by kernel_rfl) ?_ _
                  go_simp
                  obtain ⟨m1, m2, m3⟩ := unhide HP1
                  obtain ⟨pm, hpm, hnm⟩ := m1.nv
                  have hpe : pm = pq := by simpa [nPtr] using hpm.symm
                  subst hpe
                  have ht0 := unhide HT0
                  have HM1 := hide hnm
                  have HM2 := hide m2
                  have HM3 := hide m3
                  clear m1 m2 m3 hpm hnm
                  go_wp2_with fail
                  go_roundw
                  case rel => exact ⟨k, .mk 35 noText 0 (t :: us), j2, pm, rfl, unhide HS, unhide HM2, unhide HM3, by have h9 := unhide HM1; rw [show Tr.mk t0.kd t0.tx t0.n (t0.kids ++ us) = Tr.mk 35 noText 0 (t :: us) by rw [ht0]; rfl] at h9; exact h9⟩
                  case measure => rw [nxt_eq (unhide HM2), nxt_eq (unhide HRM)]; omega
              · go_simp
                refine Calls.mono HC.out ?_
                intro e wc hp
                obtain ⟨⟨vc, rfl, hlv⟩, hrd, ha⟩ := hp
                have HAc := hide ((unhide HAn).drew.next ha)
                have HRc := hide hrd
                have hlt2 := hrd.lt
                have HOc := hide (Open.later (unhide HOP) (((Ap.refl c.R wn.heap.size wn).drew).next ha) (unhide HLT))
                have HLV := hide hlv
                obtain ⟨gc3, gcf, gcl⟩ := (unhide HOc).cell
                clear hrd ha hlv
                refine hK _ _ ?_
                clear hK K
                refine wpAny_ready (rs := [4]) (by kernel_rfl) (by simp) (AllReady.cons rfl (fun K hK => ?_) AllReady.nil)
                go_simp
                refine hK _ _ ?_
                clear hK K
                by_cases hus : us = []
                · obtain rfl := (unhide HLV).2.1 hus
                  subst hus
                  obtain ⟨hucap, ga, rfl⟩ := (unhide HOc).cap (by rw [unhide HKL]; decide)
                  have HP1 := hide (push0 (unhide HOc) (unhide HRc) (unhide HAc) (unhide HLO))
                  refine wpAny_ready (rs := [11]) (by kernel_rfl) (by simp) (AllReady.cons rfl (fun K hK => ?_) AllReady.nil)
                  go_simp
                  refine hK _ _ ?_
                  clear hK K hucap
                  refine wpAny_take (i := 12) (v := nPtr pq) rfl (by kernel_rfl) (by kernel_rfl) (by kernel_rfl) (fun _ _ _ h => h) (Or.inl ⟨by kernel_rfl, fun w => by go_simp⟩) ?_
                  refine wpAny_take (i := 13) (v := .pointer (some ⟨pq, 3, none⟩)) rfl (by kernel_rfl) (by kernel_rfl) (by kernel_rfl) (fun _ _ _ h => h) (Or.inl ⟨by kernel_rfl, fun w => by go_simp⟩) ?_
                  refine wpAny_ready (rs := [14]) (by kernel_rfl) (by simp) (AllReady.cons rfl (fun K hK => ?_) AllReady.nil)
                  go_simp
                  refine hK _ _ ?_
                  clear hK K
                  refine wpAny_done (by kernel_rfl) ?_ _
                  go_simp
                  obtain ⟨m1, m2, m3⟩ := unhide HP1
                  obtain ⟨pm, hpm, hnm⟩ := m1.nv
                  have hpe : pm = pq := by simpa [nPtr] using hpm.symm
                  subst hpe
                  have ht0 := unhide HT0
                  have HM1 := hide hnm
                  have HM2 := hide m2
                  have HM3 := hide m3
                  clear m1 m2 m3 hpm hnm
                  go_wp2_with fail
                  go_roundw
                  case rel => exact ⟨k, .mk 35 noText 0 [t], j2, pm, rfl, unhide HS, unhide HM2, unhide HM3, by have h9 := unhide HM1; rw [show Tr.mk t0.kd t0.tx t0.n (t0.kids ++ []) = Tr.mk 35 noText 0 [t] by rw [ht0]; rfl] at h9; exact h9⟩
                  case measure => rw [nxt_eq (unhide HM2), nxt_eq (unhide HRM)]; omega
                · obtain ⟨g2, cap2, qs, rfl, hql, hqn, hqc⟩ := (unhide HLV).many hus
                  have hu1 := (unhide HLV).2.2
                  have hpos : 0 < us.length := List.length_pos_iff.2 hus
                  have HX := hide (Open.apart (unhide HOP) (unhide HAn).size (show NAts (From wn.heap.size) wc us qs from hqn))
                  have hlen := NAts.length _ _ (unhide HOc).kids
                  have hkl := unhide HKL
                  have hsz := (unhide HAc).size
                  have hown := (unhide HOc).row
                  rw [hlen] at hown
                  have HOWN := hide hown
                  have HQL := hide hql
                  have HLEN := hide hlen
                  clear hown hus hqn hlen
                  refine wpAny_ready (rs := [11]) (by kernel_rfl) (by simp) (AllReady.cons rfl (fun K hK => ?_) AllReady.nil)
                  refine step_append_lies _ rfl _ _ 36 rfl w.heap.size 22 i0 (.pointer none) 1 8 Tryz.underlying36 hi0 hz0 hz1 hz2 rfl (by decide) _ _ _ rfl (unhide HOWN) ⟨g2, 0, none⟩ us.length cap2 (qs.map nPtr) rfl (by simp [hql]) hqc (map_one qs) hpos (by unfold maxLen; omega) (by omega) hsz wc.heap.size rfl ?_
                  intro g cap w3 hown3 hgr3 hg3 _
                  refine hK _ _ ?_
                  clear hK K
                  have HP1 := hide (pushN (m := t0.kids.length + us.length) (unhide HOc) (unhide HX) (unhide HRc) (unhide HAc) (unhide HLO) hown3 (by rw [unhide HLEN, unhide HQL]) hgr3 hg3)
                  have hp3 : w3.cell? ⟨pq, 3, none⟩ = wc.cell? ⟨pq, 3, none⟩ ∧ w3.frozen? ⟨pq, 3, none⟩ = wc.frozen? ⟨pq, 3, none⟩ := by
                    have hbb : w3.heap[pq]? = wc.heap[pq]? := hgr3.block pq gcl (fun e => (unhide HOc).own e.symm)
                    exact ⟨World.cell?_of_block (w := wc) hbb, World.frozen?_of_block (w := wc) hbb⟩
                  obtain ⟨hp3c, hp3f⟩ := hp3
                  rw [gc3] at hp3c
                  rw [gcf 3] at hp3f
                  clear hown3 hgr3 hg3 gc3 gcf hqc hkl
                  refine wpAny_take (i := 12) (v := nPtr pq) rfl (by kernel_rfl) (by kernel_rfl) (by kernel_rfl) (fun _ _ _ h => h) (Or.inl ⟨by kernel_rfl, fun w => by go_simp⟩) ?_
                  refine wpAny_take (i := 13) (v := .pointer (some ⟨pq, 3, none⟩)) rfl (by kernel_rfl) (by kernel_rfl) (by kernel_rfl) (fun _ _ _ h => h) (Or.inl ⟨by kernel_rfl, fun w => by go_simp⟩) ?_
                  refine wpAny_ready (rs := [14]) (by kernel_rfl) (by simp) (AllReady.cons rfl (fun K hK => ?_) AllReady.nil)
                  go_simp
                  refine hK _ _ ?_
                  clear hK K
                  refine wpAny_done (by kernel_rfl) ?_ _
                  go_simp
                  obtain ⟨m1, m2, m3⟩ := unhide HP1
                  obtain ⟨pm, hpm, hnm⟩ := m1.nv
                  have hpe : pm = pq := by simpa [nPtr] using hpm.symm
                  subst hpe
                  have ht0 := unhide HT0
                  have HM1 := hide hnm
                  have HM2 := hide m2
                  have HM3 := hide m3
                  clear m1 m2 m3 hpm hnm
                  go_wp2_with fail
                  go_roundw
                  case rel => exact ⟨k, .mk 35 noText 0 (t :: us), j2, pm, rfl, unhide HS, unhide HM2, unhide HM3, by have h9 := unhide HM1; rw [show Tr.mk t0.kd t0.tx t0.n (t0.kids ++ us) = Tr.mk 35 noText 0 (t :: us) by rw [ht0]; rfl] at h9; exact h9⟩
                  case measure => rw [nxt_eq (unhide HM2), nxt_eq (unhide HRM)]; omega
          · rw [if_neg hy] at HS
            have by1 : ((fx c.l j).toList == [40]) = false := tl_neL (b := tOpen) rfl hy
            clear hy
            go_wp2_with fail
            refine Calls.mono HC.out ?_
            rintro e wf ⟨rfl, hbf⟩
            clear HC
            have HRf := hide ((unhide HRr).later hbf)
            have HAf := hide ((unhide HAr).next (Ap.of hbf))
            replace HNt := hide (nat_later (c := c) (unhide HNt) (Ap.of hbf) (unhide HLT))
            clear hbf
            go_wp2_with fail
            go_ret
            exact ppOk (unhide HS).symm ⟨p0, rfl, unhide HNt⟩ (unhide HRf) (unhide HAf)

end Go.Proofs.YtoliilffjojfcaaGreatDoor

/-
  Pg1: A program; the reader that is made for it.
-/
namespace Go.Proofs.YtoliilffjojfcaaGreatDoor
open Go.RowKit

/-- One entry more. -/
theorem mapOf_snoc (l : List (ByteArray × Value)) (k : ByteArray) (v : Value) : (mapOf l).push { key := .string k, val := v, born := l.length } = mapOf (l ++ [(k, v)]) := by
  unfold mapOf
  rw [List.zipIdx_append, List.map_append]
  simp [mkE, List.zipIdx]

def setMap (W : World) (m : Nat) (o : Obj) : World := { W with heap := W.heap.setIfInBounds m o }
theorem setMap_size (W : World) (m : Nat) (o : Obj) : (setMap W m o).heap.size = W.heap.size := by simp [setMap]
theorem setMap_at {W : World} {m : Nat} {o : Obj} (h : m < W.heap.size) : (setMap W m o).heap[m]? = some o := by simp [setMap, h]
theorem setMap_other {W : World} {m k : Nat} {o : Obj} (h : k ≠ m) : (setMap W m o).heap[k]? = W.heap[k]? := by simp [setMap, Ne.symm h]
theorem setMap_below {B : Nat} {w W : World} {m : Nat} {o : Obj} (h : Below B w W) (hm : B ≤ m) : Below B w (setMap W m o) :=
  ⟨h.os, h.tape, h.output, by rw [setMap_size]; exact h.size, fun k hk => by rw [setMap_other (by omega)]; exact h.block k hk⟩

theorem update_new (T E : TypeId) (m : Nat) (l : List (ByteArray × Value)) (s : ByteArray) (v : Value) (W : World) (hT : Tryz.prog.underlying T = some (.map 9 E)) (hm : W.heap[m]? = some (.map (mapOf l) l.length)) (hn : l.find? (fun e => decide (s = e.1)) = none) :
    (Instr.mapUpdate T (.map (some m)) (.string s) v).run Tryz.prog W = .ok () (setMap W m (.map (mapOf (l ++ [(s, v)])) (l.length + 1))) := by
  obtain ⟨o, h1, h2⟩ := find_ents s l 0 0
  have h9 := Tryz.underlying9
  have ho : o = none := by
    rw [hn] at h2
    cases o with
    | none => rfl
    | some y => simp at h2
  subst ho
  have h3 : (Instr.findKey 9 (.string s) (mapOf l).toList).run Tryz.prog W = .ok none W := by
    unfold Instr.findKey
    rw [Sem.run_bind, run_underlying h9 W]
    simp only [Result.andThen_ok, mapOf]
    rw [h1]
    rfl
  have hck : ∀ b, (Instr.checkKey b 10000 9 (.string s)).run Tryz.prog W = .ok () W := by
    intro b
    rw [Instr.checkKey, Sem.run_bind, run_underlying h9 W]
    rfl
  have hg : (getObj m).run Tryz.prog W = .ok (.map (mapOf l) l.length) W := by simp [getObj, Sem.run, hm]
  unfold Instr.mapUpdate
  rw [Sem.run_bind, run_underlying hT W]
  simp only [Result.andThen_ok, Sem.run_bind, hg, hck, h3]
  rw [mapOf_snoc]
  simp [setObj, Sem.run, hm, setMap]

def sgCells : Array Value := (sgs.flatMap fun e => [.string e.tx, .int .i64 e.kd, .int .i64 e.parts, .int .i64 e.str]).toArray
theorem sgSize : sgCells.size = 56 := by decide +kernel
theorem sgIdx (k : Nat) (hk : k < 14) (W : World) : (Instr.index 161 (.agg sgCells) (.int .i64 (k : Int))).run Tryz.prog W = .ok (sgV (sgs.getD k ⟨noText, 0, 0, 0⟩)) W := by
  have h : k = 0 ∨ k = 1 ∨ k = 2 ∨ k = 3 ∨ k = 4 ∨ k = 5 ∨ k = 6 ∨ k = 7 ∨ k = 8 ∨ k = 9 ∨ k = 10 ∨ k = 11 ∨ k = 12 ∨ k = 13 := by omega
  rcases h with rfl | rfl | rfl | rfl | rfl | rfl | rfl | rfl | rfl | rfl | rfl | rfl | rfl | rfl <;> (show _ = _; kernel_rfl)
def sgL (j : Nat) : List (ByteArray × Value) := (sgs.take j).map fun e => (e.tx, sgV e)
theorem sgL_len {j : Nat} (hj : j ≤ 14) : (sgL j).length = j := by
  unfold sgL
  rw [List.length_map, List.length_take]
  have : sgs.length = 14 := rfl
  omega
theorem sgL_next {j : Nat} (hj : j < 14) : sgL (j + 1) = sgL j ++ [((sgs.getD j ⟨noText, 0, 0, 0⟩).tx, sgV (sgs.getD j ⟨noText, 0, 0, 0⟩))] := by
  have h : j = 0 ∨ j = 1 ∨ j = 2 ∨ j = 3 ∨ j = 4 ∨ j = 5 ∨ j = 6 ∨ j = 7 ∨ j = 8 ∨ j = 9 ∨ j = 10 ∨ j = 11 ∨ j = 12 ∨ j = 13 := by omega
  rcases h with rfl | rfl | rfl | rfl | rfl | rfl | rfl | rfl | rfl | rfl | rfl | rfl | rfl | rfl <;> rfl
theorem sgL_new {j : Nat} (hj : j < 14) : (sgL j).find? (fun e => decide ((sgs.getD j ⟨noText, 0, 0, 0⟩).tx = e.1)) = none := by
  have key : ∀ j, j < 14 → ((sgs.take j).map (·.tx)).find? (fun e => decide ((sgs.getD j ⟨noText, 0, 0, 0⟩).tx = e)) = none := by decide +kernel
  have := key j hj
  unfold sgL
  rw [List.find?_map] at this ⊢
  simpa [Function.comp_def] using this

theorem mkMap (T : TypeId) (W : World) : (Instr.makeMap T none).run Tryz.prog W = .ok (.map (some W.heap.size)) (W.alloc (.map #[] 0)) := rfl

set_option maxRecDepth 100000 in
set_option maxHeartbeats 1000000 in
theorem signsByText_any (w : World) (t : TypeId) (fr : Nat × Nat) (hg : w.heap[3]? = some (.cells sgCells t fr)) :
    Calls Tryz.prog 126 #[] w fun e w' => e = .returned (.map (some w.heap.size)) ∧ w'.heap[w.heap.size]? = some (.map sgMap 14) ∧ Below w.heap.size w w' := by
  have HG : Hid ((w.alloc (.map #[] 0)).heap[3]? = some (.cells sgCells t fr)) := (Below.heap_alloc w _ 3 (lt_of_heap hg)).trans hg
  obtain ⟨cs, hcs⟩ : ∃ cs, cs = sgCells := ⟨_, rfl⟩
  have hix : ∀ k : Nat, k < 14 → ∀ W, (Instr.index 161 (.agg cs) (.int .i64 (k : Int))).run Tryz.prog W = .ok (sgV (sgs.getD k ⟨noText, 0, 0, 0⟩)) W := by rw [hcs]; exact sgIdx
  have hsz : cs.size = 56 := by rw [hcs]; exact sgSize
  rw [← hcs] at HG
  have HIX := hide hix
  have Hsz := hide hsz
  have hmk := mkMap 150
  clear hg hix hcs hsz
  go_enter Tryz.func126, Tryz.ntmps126
  go_wp2_with (refine wpList_load_row rfl 161 _ rfl 3 rfl t cs fr _ (unhide HG) Tryz.underlying161 rfl (by rw [unhide Hsz]; kernel_rfl) ?_)
  go_loopw [6] (fun i wr => ∃ j : Nat, j ≤ 14 ∧ i = .int .i64 j ∧ wr.heap[w.heap.size]? = some (.map (mapOf (sgL j)) j) ∧ Below w.heap.size w wr) (fun i _ => 14 - (intOf i).toNat)
  case atStart => exact ⟨0, Nat.zero_le _, rfl, heap_new _ _, (Below.refl _ _).alloc (Nat.le_refl _) _⟩
  case round =>
    obtain ⟨j, hj, rfl, hm, hb⟩ := hrel
    have HM := hide hm
    have HB := hide hb
    clear hm hb
    by_cases hlt : j < 14
    · have hck := unhide HIX j hlt
      obtain ⟨x, hx⟩ : ∃ x, x = sgs.getD j ⟨noText, 0, 0, 0⟩ := ⟨_, rfl⟩
      have hm2 : (wr.alloc (.cells #[.string x.tx, .int .i64 x.kd, .int .i64 x.parts, .int .i64 x.str] 160)).heap[w.heap.size]? = some (.map (mapOf (sgL j)) (sgL j).length) := by
        rw [sgL_len (by omega)]
        exact (Below.heap_alloc _ _ _ (lt_of_heap (unhide HM))).trans (unhide HM)
      have hup := update_new 150 160 w.heap.size (sgL j) x.tx (sgV x) _ Tryz.underlying150 hm2 (by rw [hx]; exact sgL_new hlt)
      rw [← hx] at hck
      have HX := hide hx
      have HM2 := hide hm2
      simp only [sgV] at hck hup
      clear hx hm2
      go_wp2_with fail
      go_roundw
      case rel =>
        refine ⟨j + 1, by omega, by go_num, ?_, setMap_below ((unhide HB).alloc (unhide HB).size _) (Nat.le_refl _)⟩
        rw [setMap_at (by simp; have := (unhide HB).size; omega), sgL_next hlt, ← unhide HX, sgL_len (by omega)]
        rfl
      case measure => simp [intOf]; omega
    · have hj14 : j = 14 := by omega
      subst hj14
      go_wp2_with fail
      go_ret
      exact ⟨rfl, unhide HM, unhide HB⟩
end Go.Proofs.YtoliilffjojfcaaGreatDoor

/-
  Pg2: The reader that is made of the tokens.
-/
namespace Go.Proofs.YtoliilffjojfcaaGreatDoor
open Go.RowKit

theorem setMap_twice (W : World) (m : Nat) (a b : Obj) : setMap (setMap W m a) m b = setMap W m b := by simp [setMap]
theorem upd (T E : TypeId) (m : Nat) (W : World) (l : List (ByteArray × Value)) (s : ByteArray) (v : Value) (hT : Tryz.prog.underlying T = some (.map 9 E)) (hm : m < W.heap.size) (hn : l.find? (fun e => decide (s = e.1)) = none) :
    (Instr.mapUpdate T (.map (some m)) (.string s) v).run Tryz.prog (setMap W m (.map (mapOf l) l.length)) = .ok () (setMap W m (.map (mapOf (l ++ [(s, v)])) (l.length + 1))) := by
  rw [update_new T E m l s v _ hT (setMap_at hm) hn, setMap_twice]
theorem upd0 (T E : TypeId) (m : Nat) (W : World) (s : ByteArray) (v : Value) (hT : Tryz.prog.underlying T = some (.map 9 E)) (hm : W.heap[m]? = some (.map #[] 0)) :
    (Instr.mapUpdate T (.map (some m)) (.string s) v).run Tryz.prog W = .ok () (setMap W m (.map (mapOf [(s, v)]) 1)) :=
  update_new T E m [] s v W hT hm rfl

/-- What the reader's block, its maps and the tokens are, when all is made. -/
theorem reader_made {w w1 X Y Z V : World} {l : List Tk} {tb cap R mS : Nat} {cur : Array Value} (hE : Ends l) (h0 : 0 < l.length) (hl : l.length ≤ 3001) (ht : w.heap[tb]? = some (.cells cur 113 (0, 0))) (hcap : l.length ≤ cap ∧ cap ≤ maxLen ∧ cur.size = cap * 4 ∧ cur.toList.take (l.length * 4) = tksCells l)
    (hh : ∃ t fr, w.heap[4]? = some (.cells hdCells t fr)) (hS : w1.heap[mS]? = some (.map sgMap 14)) (hSm : mS = w.heap.size) (hb : Below w.heap.size w w1) (hR : R = w1.heap.size)
    (hX : X = setMap ((w1.alloc (.cells #[.slice (some ⟨tb, 0, none⟩) l.length cap, .int .i64 0, .int .i64 0, .map (some mS), .map none, .map none] 154)).alloc (.map #[] 0)) (R + 1) (.map (stMap R) 12))
    (hY : Y = X.setCell ⟨R, 4, none⟩ (.map (some (R + 1)))) (hZ : Z = setMap (Y.alloc (.map #[] 0)) (R + 2) (.map (vlMap R) 3)) (hV : V = Z.setCell ⟨R, 5, none⟩ (.map (some (R + 2)))) :
    Rdr ⟨R, l, tb, cap, mS, R + 1, R + 2, R + 3⟩ V 0 0 ∧ Below w.heap.size w V := by
  have hsz := hb.size
  have ltb := lt_of_heap ht
  obtain ⟨t4, fr4, hh⟩ := hh
  have l4 := lt_of_heap hh
  have lmS := lt_of_heap hS
  have sX : X.heap.size = R + 2 := by rw [hX, setMap_size, hR]; simp
  have sY : Y.heap.size = R + 2 := by rw [hY, World.size_setCell, sX]
  have sZ : Z.heap.size = R + 3 := by rw [hZ, setMap_size]; simp [sY]
  have sV : V.heap.size = R + 3 := by rw [hV, World.size_setCell, sZ]
  have xl : ∀ b, b < R → X.heap[b]? = w1.heap[b]? := fun b hb => by
    rw [hX, setMap_other (by omega), Below.heap_alloc _ _ b (by simp; omega), Below.heap_alloc _ _ b (by omega)]
  have xR : X.heap[R]? = some (.cells #[.slice (some ⟨tb, 0, none⟩) l.length cap, .int .i64 0, .int .i64 0, .map (some mS), .map none, .map none] 154 (0, 0)) := by
    rw [hX, setMap_other (by omega), Below.heap_alloc _ _ R (by simp; omega), hR]
    exact heap_new _ _
  have xT : X.heap[R + 1]? = some (.map (stMap R) 12) := by rw [hX, setMap_at (by simp; omega)]
  have vl : ∀ b, b < R → V.heap[b]? = w1.heap[b]? := fun b hb => by
    rw [hV, Below.heap_setCell Z ⟨R, 5, none⟩ _ b (by simp; omega), hZ, setMap_other (by omega), Below.heap_alloc _ _ b (by omega), hY, Below.heap_setCell X ⟨R, 4, none⟩ _ b (by simp; omega)]
    exact xl b hb
  have zR : Z.heap[R]? = some (.cells #[.slice (some ⟨tb, 0, none⟩) l.length cap, .int .i64 0, .int .i64 0, .map (some mS), .map (some (R + 1)), .map none] 154 (0, 0)) := by
    rw [hZ, setMap_other (by omega), Below.heap_alloc _ _ R (by omega), hY, heap_set xR]
    rfl
  have vR : V.heap[R]? = some (.cells #[.slice (some ⟨tb, 0, none⟩) l.length cap, .int .i64 0, .int .i64 0, .map (some mS), .map (some (R + 1)), .map (some (R + 2))] 154 (0, 0)) := by
    rw [hV, heap_set zR]
    rfl
  have vT : V.heap[R + 1]? = some (.map (stMap R) 12) := by
    rw [hV, Below.heap_setCell Z ⟨R, 5, none⟩ _ (R + 1) (by simp), hZ, setMap_other (by omega), Below.heap_alloc _ _ (R + 1) (by omega), hY, Below.heap_setCell X ⟨R, 4, none⟩ _ (R + 1) (by simp)]
    exact xT
  have vV : V.heap[R + 2]? = some (.map (vlMap R) 3) := by
    rw [hV, Below.heap_setCell Z ⟨R, 5, none⟩ _ (R + 2) (by simp), hZ, setMap_at (by simp; omega)]
  have lw : ∀ b, b < w.heap.size → V.heap[b]? = w.heap[b]? := fun b h => (vl b (by omega)).trans (hb.block b h)
  refine ⟨⟨⟨hE, ⟨cur, (lw tb ltb).trans ht, hcap⟩, ?_, (vl mS (by omega)).trans hS, ?_, vT, ?_, vV, ?_, hl, ⟨t4, fr4, (lw 4 l4).trans hh⟩, ?_, ?_, ?_⟩, vR, h0, by decide⟩, ?_⟩
  · show tb ≠ R; omega
  · show mS ≠ R; omega
  · show R + 1 ≠ R; omega
  · show R + 2 ≠ R; omega
  · show 4 ≠ R; omega
  · show tb < R + 3 ∧ mS < R + 3 ∧ R + 1 < R + 3 ∧ R + 2 < R + 3 ∧ 4 < R + 3 ∧ R < R + 3; omega
  · show R + 3 ≤ V.heap.size; omega
  · have bX : Below w.heap.size w X := by rw [hX]; exact setMap_below ((hb.alloc hsz _).alloc (by simp; omega) _) (by omega)
    have bY : Below w.heap.size w Y := by rw [hY]; exact bX.setCell (p := ⟨R, 4, none⟩) (by show w.heap.size ≤ R; omega) _
    have bZ : Below w.heap.size w Z := by rw [hZ]; exact setMap_below (bY.alloc bY.size _) (by omega)
    rw [hV]
    exact bZ.setCell (p := ⟨R, 5, none⟩) (by show w.heap.size ≤ R; omega) _

set_option maxRecDepth 100000 in
set_option maxHeartbeats 4000000 in
theorem newReader_any (w : World) (l : List Tk) (tb cap : Nat) (cur : Array Value) (hE : Ends l) (h0 : 0 < l.length) (hl : l.length ≤ 3001) (ht : w.heap[tb]? = some (.cells cur 113 (0, 0))) (hcap : l.length ≤ cap ∧ cap ≤ maxLen ∧ cur.size = cap * 4 ∧ cur.toList.take (l.length * 4) = tksCells l)
    (hh : ∃ t fr, w.heap[4]? = some (.cells hdCells t fr)) (hs3 : ∃ t fr, w.heap[3]? = some (.cells sgCells t fr)) :
    Calls Tryz.prog 88 #[.slice (some ⟨tb, 0, none⟩) l.length cap] w fun e w' => ∃ c : Ctx, e = .returned (rPtr c) ∧ c.l = l ∧ w.heap.size ≤ c.R ∧ Rdr c w' 0 0 ∧ Below w.heap.size w w' := by
  obtain ⟨t3, fr3, hs3⟩ := hs3
  have HC := hide (signsByText_any w t3 fr3 hs3)
  have HMK := fun (w1 X Y Z V : World) (R : Nat) => reader_made (w := w) (w1 := w1) (X := X) (Y := Y) (Z := Z) (V := V) (R := R) (mS := w.heap.size) hE h0 hl ht hcap hh
  have HMADE := hide HMK
  have hmk := mkMap 152
  clear hs3 HMK hE h0 hl ht hcap hh
  go_enter Tryz.func88, Tryz.ntmps88
  go_wp2_with fail
  refine Calls.mono HC.out ?_
  rintro e w1 ⟨rfl, hm1, hb1⟩
  clear HC
  have HM1 := hide hm1
  have HB1 := hide hb1
  clear hm1 hb1
  have s0 : ((w1.alloc (.cells #[.slice (some ⟨tb, 0, none⟩) l.length cap, .int .i64 0, .int .i64 0, .map (some w.heap.size), .map none, .map none] 154)).alloc (.map #[] 0)).heap.size = w1.heap.size + 2 := by simp
  have m0 : ((w1.alloc (.cells #[.slice (some ⟨tb, 0, none⟩) l.length cap, .int .i64 0, .int .i64 0, .map (some w.heap.size), .map none, .map none] 154)).alloc (.map #[] 0)).heap[w1.heap.size + 1]? = some (.map #[] 0) := by
    have := heap_new (w1.alloc (.cells #[.slice (some ⟨tb, 0, none⟩) l.length cap, .int .i64 0, .int .i64 0, .map (some w.heap.size), .map none, .map none] 154)) (.map #[] 0)
    simpa using this
  have rA : (w1.alloc (.cells #[.slice (some ⟨tb, 0, none⟩) l.length cap, .int .i64 0, .int .i64 0, .map (some w.heap.size), .map none, .map none] 154)).heap[w1.heap.size]? = some (.cells #[.slice (some ⟨tb, 0, none⟩) l.length cap, .int .i64 0, .int .i64 0, .map (some w.heap.size), .map none, .map none] 154) := heap_new _ _
  obtain ⟨X1, hX1⟩ : ∃ X, X = setMap ((w1.alloc (.cells #[.slice (some ⟨tb, 0, none⟩) l.length cap, .int .i64 0, .int .i64 0, .map (some w.heap.size), .map none, .map none] 154)).alloc (.map #[] 0)) (w1.heap.size + 1) (.map (mapOf [(tVar, .func (.func 127) #[.pointer (some ⟨w1.heap.size, 0, none⟩)] #[])]) 1) := ⟨_, rfl⟩
  have u1 : (Instr.mapUpdate 152 (.map (some (w1.heap.size + 1))) (.string tVar) (.func (.func 127) #[.pointer (some ⟨w1.heap.size, 0, none⟩)] #[])).run Tryz.prog ((w1.alloc (.cells #[.slice (some ⟨tb, 0, none⟩) l.length cap, .int .i64 0, .int .i64 0, .map (some w.heap.size), .map none, .map none] 154)).alloc (.map #[] 0)) = .ok () X1 := by rw [hX1]; exact upd0 152 201 (w1.heap.size + 1) _ _ _ Tryz.underlying152 m0
  obtain ⟨X2, hX2⟩ : ∃ X, X = setMap ((w1.alloc (.cells #[.slice (some ⟨tb, 0, none⟩) l.length cap, .int .i64 0, .int .i64 0, .map (some w.heap.size), .map none, .map none] 154)).alloc (.map #[] 0)) (w1.heap.size + 1) (.map (mapOf [(tVar, .func (.func 127) #[.pointer (some ⟨w1.heap.size, 0, none⟩)] #[]), (tLet, .func (.func 127) #[.pointer (some ⟨w1.heap.size, 0, none⟩)] #[])]) 2) := ⟨_, rfl⟩
  have u2 : (Instr.mapUpdate 152 (.map (some (w1.heap.size + 1))) (.string tLet) (.func (.func 127) #[.pointer (some ⟨w1.heap.size, 0, none⟩)] #[])).run Tryz.prog X1 = .ok () X2 := by rw [hX1, hX2]; exact upd 152 201 (w1.heap.size + 1) _ [(tVar, .func (.func 127) #[.pointer (some ⟨w1.heap.size, 0, none⟩)] #[])] _ _ Tryz.underlying152 (by rw [s0]; omega) (by rfl)
  obtain ⟨X3, hX3⟩ : ∃ X, X = setMap ((w1.alloc (.cells #[.slice (some ⟨tb, 0, none⟩) l.length cap, .int .i64 0, .int .i64 0, .map (some w.heap.size), .map none, .map none] 154)).alloc (.map #[] 0)) (w1.heap.size + 1) (.map (mapOf [(tVar, .func (.func 127) #[.pointer (some ⟨w1.heap.size, 0, none⟩)] #[]), (tLet, .func (.func 127) #[.pointer (some ⟨w1.heap.size, 0, none⟩)] #[]), (tConst, .func (.func 127) #[.pointer (some ⟨w1.heap.size, 0, none⟩)] #[])]) 3) := ⟨_, rfl⟩
  have u3 : (Instr.mapUpdate 152 (.map (some (w1.heap.size + 1))) (.string tConst) (.func (.func 127) #[.pointer (some ⟨w1.heap.size, 0, none⟩)] #[])).run Tryz.prog X2 = .ok () X3 := by rw [hX2, hX3]; exact upd 152 201 (w1.heap.size + 1) _ [(tVar, .func (.func 127) #[.pointer (some ⟨w1.heap.size, 0, none⟩)] #[]), (tLet, .func (.func 127) #[.pointer (some ⟨w1.heap.size, 0, none⟩)] #[])] _ _ Tryz.underlying152 (by rw [s0]; omega) (by rfl)
  obtain ⟨X4, hX4⟩ : ∃ X, X = setMap ((w1.alloc (.cells #[.slice (some ⟨tb, 0, none⟩) l.length cap, .int .i64 0, .int .i64 0, .map (some w.heap.size), .map none, .map none] 154)).alloc (.map #[] 0)) (w1.heap.size + 1) (.map (mapOf [(tVar, .func (.func 127) #[.pointer (some ⟨w1.heap.size, 0, none⟩)] #[]), (tLet, .func (.func 127) #[.pointer (some ⟨w1.heap.size, 0, none⟩)] #[]), (tConst, .func (.func 127) #[.pointer (some ⟨w1.heap.size, 0, none⟩)] #[]), (tFunction, .func (.func 128) #[.pointer (some ⟨w1.heap.size, 0, none⟩)] #[])]) 4) := ⟨_, rfl⟩
  have u4 : (Instr.mapUpdate 152 (.map (some (w1.heap.size + 1))) (.string tFunction) (.func (.func 128) #[.pointer (some ⟨w1.heap.size, 0, none⟩)] #[])).run Tryz.prog X3 = .ok () X4 := by rw [hX3, hX4]; exact upd 152 201 (w1.heap.size + 1) _ [(tVar, .func (.func 127) #[.pointer (some ⟨w1.heap.size, 0, none⟩)] #[]), (tLet, .func (.func 127) #[.pointer (some ⟨w1.heap.size, 0, none⟩)] #[]), (tConst, .func (.func 127) #[.pointer (some ⟨w1.heap.size, 0, none⟩)] #[])] _ _ Tryz.underlying152 (by rw [s0]; omega) (by rfl)
  obtain ⟨X5, hX5⟩ : ∃ X, X = setMap ((w1.alloc (.cells #[.slice (some ⟨tb, 0, none⟩) l.length cap, .int .i64 0, .int .i64 0, .map (some w.heap.size), .map none, .map none] 154)).alloc (.map #[] 0)) (w1.heap.size + 1) (.map (mapOf [(tVar, .func (.func 127) #[.pointer (some ⟨w1.heap.size, 0, none⟩)] #[]), (tLet, .func (.func 127) #[.pointer (some ⟨w1.heap.size, 0, none⟩)] #[]), (tConst, .func (.func 127) #[.pointer (some ⟨w1.heap.size, 0, none⟩)] #[]), (tFunction, .func (.func 128) #[.pointer (some ⟨w1.heap.size, 0, none⟩)] #[]), (tLBrace, .func (.func 129) #[.pointer (some ⟨w1.heap.size, 0, none⟩)] #[])]) 5) := ⟨_, rfl⟩
  have u5 : (Instr.mapUpdate 152 (.map (some (w1.heap.size + 1))) (.string tLBrace) (.func (.func 129) #[.pointer (some ⟨w1.heap.size, 0, none⟩)] #[])).run Tryz.prog X4 = .ok () X5 := by rw [hX4, hX5]; exact upd 152 201 (w1.heap.size + 1) _ [(tVar, .func (.func 127) #[.pointer (some ⟨w1.heap.size, 0, none⟩)] #[]), (tLet, .func (.func 127) #[.pointer (some ⟨w1.heap.size, 0, none⟩)] #[]), (tConst, .func (.func 127) #[.pointer (some ⟨w1.heap.size, 0, none⟩)] #[]), (tFunction, .func (.func 128) #[.pointer (some ⟨w1.heap.size, 0, none⟩)] #[])] _ _ Tryz.underlying152 (by rw [s0]; omega) (by rfl)
  obtain ⟨X6, hX6⟩ : ∃ X, X = setMap ((w1.alloc (.cells #[.slice (some ⟨tb, 0, none⟩) l.length cap, .int .i64 0, .int .i64 0, .map (some w.heap.size), .map none, .map none] 154)).alloc (.map #[] 0)) (w1.heap.size + 1) (.map (mapOf [(tVar, .func (.func 127) #[.pointer (some ⟨w1.heap.size, 0, none⟩)] #[]), (tLet, .func (.func 127) #[.pointer (some ⟨w1.heap.size, 0, none⟩)] #[]), (tConst, .func (.func 127) #[.pointer (some ⟨w1.heap.size, 0, none⟩)] #[]), (tFunction, .func (.func 128) #[.pointer (some ⟨w1.heap.size, 0, none⟩)] #[]), (tLBrace, .func (.func 129) #[.pointer (some ⟨w1.heap.size, 0, none⟩)] #[]), (tSemi, .func (.func 130) #[.pointer (some ⟨w1.heap.size, 0, none⟩)] #[])]) 6) := ⟨_, rfl⟩
  have u6 : (Instr.mapUpdate 152 (.map (some (w1.heap.size + 1))) (.string tSemi) (.func (.func 130) #[.pointer (some ⟨w1.heap.size, 0, none⟩)] #[])).run Tryz.prog X5 = .ok () X6 := by rw [hX5, hX6]; exact upd 152 201 (w1.heap.size + 1) _ [(tVar, .func (.func 127) #[.pointer (some ⟨w1.heap.size, 0, none⟩)] #[]), (tLet, .func (.func 127) #[.pointer (some ⟨w1.heap.size, 0, none⟩)] #[]), (tConst, .func (.func 127) #[.pointer (some ⟨w1.heap.size, 0, none⟩)] #[]), (tFunction, .func (.func 128) #[.pointer (some ⟨w1.heap.size, 0, none⟩)] #[]), (tLBrace, .func (.func 129) #[.pointer (some ⟨w1.heap.size, 0, none⟩)] #[])] _ _ Tryz.underlying152 (by rw [s0]; omega) (by rfl)
  obtain ⟨X7, hX7⟩ : ∃ X, X = setMap ((w1.alloc (.cells #[.slice (some ⟨tb, 0, none⟩) l.length cap, .int .i64 0, .int .i64 0, .map (some w.heap.size), .map none, .map none] 154)).alloc (.map #[] 0)) (w1.heap.size + 1) (.map (mapOf [(tVar, .func (.func 127) #[.pointer (some ⟨w1.heap.size, 0, none⟩)] #[]), (tLet, .func (.func 127) #[.pointer (some ⟨w1.heap.size, 0, none⟩)] #[]), (tConst, .func (.func 127) #[.pointer (some ⟨w1.heap.size, 0, none⟩)] #[]), (tFunction, .func (.func 128) #[.pointer (some ⟨w1.heap.size, 0, none⟩)] #[]), (tLBrace, .func (.func 129) #[.pointer (some ⟨w1.heap.size, 0, none⟩)] #[]), (tSemi, .func (.func 130) #[.pointer (some ⟨w1.heap.size, 0, none⟩)] #[]), (tIf, .func (.func 131) #[.pointer (some ⟨w1.heap.size, 0, none⟩)] #[])]) 7) := ⟨_, rfl⟩
  have u7 : (Instr.mapUpdate 152 (.map (some (w1.heap.size + 1))) (.string tIf) (.func (.func 131) #[.pointer (some ⟨w1.heap.size, 0, none⟩)] #[])).run Tryz.prog X6 = .ok () X7 := by rw [hX6, hX7]; exact upd 152 201 (w1.heap.size + 1) _ [(tVar, .func (.func 127) #[.pointer (some ⟨w1.heap.size, 0, none⟩)] #[]), (tLet, .func (.func 127) #[.pointer (some ⟨w1.heap.size, 0, none⟩)] #[]), (tConst, .func (.func 127) #[.pointer (some ⟨w1.heap.size, 0, none⟩)] #[]), (tFunction, .func (.func 128) #[.pointer (some ⟨w1.heap.size, 0, none⟩)] #[]), (tLBrace, .func (.func 129) #[.pointer (some ⟨w1.heap.size, 0, none⟩)] #[]), (tSemi, .func (.func 130) #[.pointer (some ⟨w1.heap.size, 0, none⟩)] #[])] _ _ Tryz.underlying152 (by rw [s0]; omega) (by rfl)
  obtain ⟨X8, hX8⟩ : ∃ X, X = setMap ((w1.alloc (.cells #[.slice (some ⟨tb, 0, none⟩) l.length cap, .int .i64 0, .int .i64 0, .map (some w.heap.size), .map none, .map none] 154)).alloc (.map #[] 0)) (w1.heap.size + 1) (.map (mapOf [(tVar, .func (.func 127) #[.pointer (some ⟨w1.heap.size, 0, none⟩)] #[]), (tLet, .func (.func 127) #[.pointer (some ⟨w1.heap.size, 0, none⟩)] #[]), (tConst, .func (.func 127) #[.pointer (some ⟨w1.heap.size, 0, none⟩)] #[]), (tFunction, .func (.func 128) #[.pointer (some ⟨w1.heap.size, 0, none⟩)] #[]), (tLBrace, .func (.func 129) #[.pointer (some ⟨w1.heap.size, 0, none⟩)] #[]), (tSemi, .func (.func 130) #[.pointer (some ⟨w1.heap.size, 0, none⟩)] #[]), (tIf, .func (.func 131) #[.pointer (some ⟨w1.heap.size, 0, none⟩)] #[]), (tWhile, .func (.func 132) #[.pointer (some ⟨w1.heap.size, 0, none⟩)] #[])]) 8) := ⟨_, rfl⟩
  have u8 : (Instr.mapUpdate 152 (.map (some (w1.heap.size + 1))) (.string tWhile) (.func (.func 132) #[.pointer (some ⟨w1.heap.size, 0, none⟩)] #[])).run Tryz.prog X7 = .ok () X8 := by rw [hX7, hX8]; exact upd 152 201 (w1.heap.size + 1) _ [(tVar, .func (.func 127) #[.pointer (some ⟨w1.heap.size, 0, none⟩)] #[]), (tLet, .func (.func 127) #[.pointer (some ⟨w1.heap.size, 0, none⟩)] #[]), (tConst, .func (.func 127) #[.pointer (some ⟨w1.heap.size, 0, none⟩)] #[]), (tFunction, .func (.func 128) #[.pointer (some ⟨w1.heap.size, 0, none⟩)] #[]), (tLBrace, .func (.func 129) #[.pointer (some ⟨w1.heap.size, 0, none⟩)] #[]), (tSemi, .func (.func 130) #[.pointer (some ⟨w1.heap.size, 0, none⟩)] #[]), (tIf, .func (.func 131) #[.pointer (some ⟨w1.heap.size, 0, none⟩)] #[])] _ _ Tryz.underlying152 (by rw [s0]; omega) (by rfl)
  obtain ⟨X9, hX9⟩ : ∃ X, X = setMap ((w1.alloc (.cells #[.slice (some ⟨tb, 0, none⟩) l.length cap, .int .i64 0, .int .i64 0, .map (some w.heap.size), .map none, .map none] 154)).alloc (.map #[] 0)) (w1.heap.size + 1) (.map (mapOf [(tVar, .func (.func 127) #[.pointer (some ⟨w1.heap.size, 0, none⟩)] #[]), (tLet, .func (.func 127) #[.pointer (some ⟨w1.heap.size, 0, none⟩)] #[]), (tConst, .func (.func 127) #[.pointer (some ⟨w1.heap.size, 0, none⟩)] #[]), (tFunction, .func (.func 128) #[.pointer (some ⟨w1.heap.size, 0, none⟩)] #[]), (tLBrace, .func (.func 129) #[.pointer (some ⟨w1.heap.size, 0, none⟩)] #[]), (tSemi, .func (.func 130) #[.pointer (some ⟨w1.heap.size, 0, none⟩)] #[]), (tIf, .func (.func 131) #[.pointer (some ⟨w1.heap.size, 0, none⟩)] #[]), (tWhile, .func (.func 132) #[.pointer (some ⟨w1.heap.size, 0, none⟩)] #[]), (tWith, .func (.func 132) #[.pointer (some ⟨w1.heap.size, 0, none⟩)] #[])]) 9) := ⟨_, rfl⟩
  have u9 : (Instr.mapUpdate 152 (.map (some (w1.heap.size + 1))) (.string tWith) (.func (.func 132) #[.pointer (some ⟨w1.heap.size, 0, none⟩)] #[])).run Tryz.prog X8 = .ok () X9 := by rw [hX8, hX9]; exact upd 152 201 (w1.heap.size + 1) _ [(tVar, .func (.func 127) #[.pointer (some ⟨w1.heap.size, 0, none⟩)] #[]), (tLet, .func (.func 127) #[.pointer (some ⟨w1.heap.size, 0, none⟩)] #[]), (tConst, .func (.func 127) #[.pointer (some ⟨w1.heap.size, 0, none⟩)] #[]), (tFunction, .func (.func 128) #[.pointer (some ⟨w1.heap.size, 0, none⟩)] #[]), (tLBrace, .func (.func 129) #[.pointer (some ⟨w1.heap.size, 0, none⟩)] #[]), (tSemi, .func (.func 130) #[.pointer (some ⟨w1.heap.size, 0, none⟩)] #[]), (tIf, .func (.func 131) #[.pointer (some ⟨w1.heap.size, 0, none⟩)] #[]), (tWhile, .func (.func 132) #[.pointer (some ⟨w1.heap.size, 0, none⟩)] #[])] _ _ Tryz.underlying152 (by rw [s0]; omega) (by rfl)
  obtain ⟨X10, hX10⟩ : ∃ X, X = setMap ((w1.alloc (.cells #[.slice (some ⟨tb, 0, none⟩) l.length cap, .int .i64 0, .int .i64 0, .map (some w.heap.size), .map none, .map none] 154)).alloc (.map #[] 0)) (w1.heap.size + 1) (.map (mapOf [(tVar, .func (.func 127) #[.pointer (some ⟨w1.heap.size, 0, none⟩)] #[]), (tLet, .func (.func 127) #[.pointer (some ⟨w1.heap.size, 0, none⟩)] #[]), (tConst, .func (.func 127) #[.pointer (some ⟨w1.heap.size, 0, none⟩)] #[]), (tFunction, .func (.func 128) #[.pointer (some ⟨w1.heap.size, 0, none⟩)] #[]), (tLBrace, .func (.func 129) #[.pointer (some ⟨w1.heap.size, 0, none⟩)] #[]), (tSemi, .func (.func 130) #[.pointer (some ⟨w1.heap.size, 0, none⟩)] #[]), (tIf, .func (.func 131) #[.pointer (some ⟨w1.heap.size, 0, none⟩)] #[]), (tWhile, .func (.func 132) #[.pointer (some ⟨w1.heap.size, 0, none⟩)] #[]), (tWith, .func (.func 132) #[.pointer (some ⟨w1.heap.size, 0, none⟩)] #[]), (tReturn, .func (.func 133) #[.pointer (some ⟨w1.heap.size, 0, none⟩)] #[])]) 10) := ⟨_, rfl⟩
  have u10 : (Instr.mapUpdate 152 (.map (some (w1.heap.size + 1))) (.string tReturn) (.func (.func 133) #[.pointer (some ⟨w1.heap.size, 0, none⟩)] #[])).run Tryz.prog X9 = .ok () X10 := by rw [hX9, hX10]; exact upd 152 201 (w1.heap.size + 1) _ [(tVar, .func (.func 127) #[.pointer (some ⟨w1.heap.size, 0, none⟩)] #[]), (tLet, .func (.func 127) #[.pointer (some ⟨w1.heap.size, 0, none⟩)] #[]), (tConst, .func (.func 127) #[.pointer (some ⟨w1.heap.size, 0, none⟩)] #[]), (tFunction, .func (.func 128) #[.pointer (some ⟨w1.heap.size, 0, none⟩)] #[]), (tLBrace, .func (.func 129) #[.pointer (some ⟨w1.heap.size, 0, none⟩)] #[]), (tSemi, .func (.func 130) #[.pointer (some ⟨w1.heap.size, 0, none⟩)] #[]), (tIf, .func (.func 131) #[.pointer (some ⟨w1.heap.size, 0, none⟩)] #[]), (tWhile, .func (.func 132) #[.pointer (some ⟨w1.heap.size, 0, none⟩)] #[]), (tWith, .func (.func 132) #[.pointer (some ⟨w1.heap.size, 0, none⟩)] #[])] _ _ Tryz.underlying152 (by rw [s0]; omega) (by rfl)
  obtain ⟨X11, hX11⟩ : ∃ X, X = setMap ((w1.alloc (.cells #[.slice (some ⟨tb, 0, none⟩) l.length cap, .int .i64 0, .int .i64 0, .map (some w.heap.size), .map none, .map none] 154)).alloc (.map #[] 0)) (w1.heap.size + 1) (.map (mapOf [(tVar, .func (.func 127) #[.pointer (some ⟨w1.heap.size, 0, none⟩)] #[]), (tLet, .func (.func 127) #[.pointer (some ⟨w1.heap.size, 0, none⟩)] #[]), (tConst, .func (.func 127) #[.pointer (some ⟨w1.heap.size, 0, none⟩)] #[]), (tFunction, .func (.func 128) #[.pointer (some ⟨w1.heap.size, 0, none⟩)] #[]), (tLBrace, .func (.func 129) #[.pointer (some ⟨w1.heap.size, 0, none⟩)] #[]), (tSemi, .func (.func 130) #[.pointer (some ⟨w1.heap.size, 0, none⟩)] #[]), (tIf, .func (.func 131) #[.pointer (some ⟨w1.heap.size, 0, none⟩)] #[]), (tWhile, .func (.func 132) #[.pointer (some ⟨w1.heap.size, 0, none⟩)] #[]), (tWith, .func (.func 132) #[.pointer (some ⟨w1.heap.size, 0, none⟩)] #[]), (tReturn, .func (.func 133) #[.pointer (some ⟨w1.heap.size, 0, none⟩)] #[]), (tThrow, .func (.func 133) #[.pointer (some ⟨w1.heap.size, 0, none⟩)] #[])]) 11) := ⟨_, rfl⟩
  have u11 : (Instr.mapUpdate 152 (.map (some (w1.heap.size + 1))) (.string tThrow) (.func (.func 133) #[.pointer (some ⟨w1.heap.size, 0, none⟩)] #[])).run Tryz.prog X10 = .ok () X11 := by rw [hX10, hX11]; exact upd 152 201 (w1.heap.size + 1) _ [(tVar, .func (.func 127) #[.pointer (some ⟨w1.heap.size, 0, none⟩)] #[]), (tLet, .func (.func 127) #[.pointer (some ⟨w1.heap.size, 0, none⟩)] #[]), (tConst, .func (.func 127) #[.pointer (some ⟨w1.heap.size, 0, none⟩)] #[]), (tFunction, .func (.func 128) #[.pointer (some ⟨w1.heap.size, 0, none⟩)] #[]), (tLBrace, .func (.func 129) #[.pointer (some ⟨w1.heap.size, 0, none⟩)] #[]), (tSemi, .func (.func 130) #[.pointer (some ⟨w1.heap.size, 0, none⟩)] #[]), (tIf, .func (.func 131) #[.pointer (some ⟨w1.heap.size, 0, none⟩)] #[]), (tWhile, .func (.func 132) #[.pointer (some ⟨w1.heap.size, 0, none⟩)] #[]), (tWith, .func (.func 132) #[.pointer (some ⟨w1.heap.size, 0, none⟩)] #[]), (tReturn, .func (.func 133) #[.pointer (some ⟨w1.heap.size, 0, none⟩)] #[])] _ _ Tryz.underlying152 (by rw [s0]; omega) (by rfl)
  obtain ⟨X12, hX12⟩ : ∃ X, X = setMap ((w1.alloc (.cells #[.slice (some ⟨tb, 0, none⟩) l.length cap, .int .i64 0, .int .i64 0, .map (some w.heap.size), .map none, .map none] 154)).alloc (.map #[] 0)) (w1.heap.size + 1) (.map (mapOf [(tVar, .func (.func 127) #[.pointer (some ⟨w1.heap.size, 0, none⟩)] #[]), (tLet, .func (.func 127) #[.pointer (some ⟨w1.heap.size, 0, none⟩)] #[]), (tConst, .func (.func 127) #[.pointer (some ⟨w1.heap.size, 0, none⟩)] #[]), (tFunction, .func (.func 128) #[.pointer (some ⟨w1.heap.size, 0, none⟩)] #[]), (tLBrace, .func (.func 129) #[.pointer (some ⟨w1.heap.size, 0, none⟩)] #[]), (tSemi, .func (.func 130) #[.pointer (some ⟨w1.heap.size, 0, none⟩)] #[]), (tIf, .func (.func 131) #[.pointer (some ⟨w1.heap.size, 0, none⟩)] #[]), (tWhile, .func (.func 132) #[.pointer (some ⟨w1.heap.size, 0, none⟩)] #[]), (tWith, .func (.func 132) #[.pointer (some ⟨w1.heap.size, 0, none⟩)] #[]), (tReturn, .func (.func 133) #[.pointer (some ⟨w1.heap.size, 0, none⟩)] #[]), (tThrow, .func (.func 133) #[.pointer (some ⟨w1.heap.size, 0, none⟩)] #[]), (tTry, .func (.func 134) #[.pointer (some ⟨w1.heap.size, 0, none⟩)] #[])]) 12) := ⟨_, rfl⟩
  have u12 : (Instr.mapUpdate 152 (.map (some (w1.heap.size + 1))) (.string tTry) (.func (.func 134) #[.pointer (some ⟨w1.heap.size, 0, none⟩)] #[])).run Tryz.prog X11 = .ok () X12 := by rw [hX11, hX12]; exact upd 152 201 (w1.heap.size + 1) _ [(tVar, .func (.func 127) #[.pointer (some ⟨w1.heap.size, 0, none⟩)] #[]), (tLet, .func (.func 127) #[.pointer (some ⟨w1.heap.size, 0, none⟩)] #[]), (tConst, .func (.func 127) #[.pointer (some ⟨w1.heap.size, 0, none⟩)] #[]), (tFunction, .func (.func 128) #[.pointer (some ⟨w1.heap.size, 0, none⟩)] #[]), (tLBrace, .func (.func 129) #[.pointer (some ⟨w1.heap.size, 0, none⟩)] #[]), (tSemi, .func (.func 130) #[.pointer (some ⟨w1.heap.size, 0, none⟩)] #[]), (tIf, .func (.func 131) #[.pointer (some ⟨w1.heap.size, 0, none⟩)] #[]), (tWhile, .func (.func 132) #[.pointer (some ⟨w1.heap.size, 0, none⟩)] #[]), (tWith, .func (.func 132) #[.pointer (some ⟨w1.heap.size, 0, none⟩)] #[]), (tReturn, .func (.func 133) #[.pointer (some ⟨w1.heap.size, 0, none⟩)] #[]), (tThrow, .func (.func 133) #[.pointer (some ⟨w1.heap.size, 0, none⟩)] #[])] _ _ Tryz.underlying152 (by rw [s0]; omega) (by rfl)
  have xR : X12.heap[w1.heap.size]? = some (.cells #[.slice (some ⟨tb, 0, none⟩) l.length cap, .int .i64 0, .int .i64 0, .map (some w.heap.size), .map none, .map none] 154) := by rw [hX12, setMap_other (by omega), Below.heap_alloc _ _ _ (by simp)]; exact rA
  have s12 : X12.heap.size = w1.heap.size + 2 := by rw [hX12, setMap_size, s0]
  have yR : (X12.setCell ⟨w1.heap.size, 4, none⟩ (.map (some (w1.heap.size + 1)))).heap[w1.heap.size]? = some (.cells #[.slice (some ⟨tb, 0, none⟩) l.length cap, .int .i64 0, .int .i64 0, .map (some w.heap.size), .map (some (w1.heap.size + 1)), .map none] 154) := by rw [heap_set xR]; rfl
  have z0 : ((X12.setCell ⟨w1.heap.size, 4, none⟩ (.map (some (w1.heap.size + 1)))).alloc (.map #[] 0)).heap.size = w1.heap.size + 3 := by simp [s12]
  have n0 : ((X12.setCell ⟨w1.heap.size, 4, none⟩ (.map (some (w1.heap.size + 1)))).alloc (.map #[] 0)).heap[w1.heap.size + 2]? = some (.map #[] 0) := by
    have := heap_new (X12.setCell ⟨w1.heap.size, 4, none⟩ (.map (some (w1.heap.size + 1)))) (.map #[] 0)
    rw [World.size_setCell, s12] at this
    exact this
  obtain ⟨Z1, hZ1⟩ : ∃ Z, Z = setMap ((X12.setCell ⟨w1.heap.size, 4, none⟩ (.map (some (w1.heap.size + 1)))).alloc (.map #[] 0)) (w1.heap.size + 2) (.map (mapOf [(tOpen, .func (.func 135) #[.pointer (some ⟨w1.heap.size, 0, none⟩)] #[])]) 1) := ⟨_, rfl⟩
  have v1 : (Instr.mapUpdate 152 (.map (some (w1.heap.size + 2))) (.string tOpen) (.func (.func 135) #[.pointer (some ⟨w1.heap.size, 0, none⟩)] #[])).run Tryz.prog ((X12.setCell ⟨w1.heap.size, 4, none⟩ (.map (some (w1.heap.size + 1)))).alloc (.map #[] 0)) = .ok () Z1 := by rw [hZ1]; exact upd0 152 201 (w1.heap.size + 2) _ _ _ Tryz.underlying152 n0
  obtain ⟨Z2, hZ2⟩ : ∃ Z, Z = setMap ((X12.setCell ⟨w1.heap.size, 4, none⟩ (.map (some (w1.heap.size + 1)))).alloc (.map #[] 0)) (w1.heap.size + 2) (.map (mapOf [(tOpen, .func (.func 135) #[.pointer (some ⟨w1.heap.size, 0, none⟩)] #[]), (tLBrace, .func (.func 136) #[.pointer (some ⟨w1.heap.size, 0, none⟩)] #[])]) 2) := ⟨_, rfl⟩
  have v2 : (Instr.mapUpdate 152 (.map (some (w1.heap.size + 2))) (.string tLBrace) (.func (.func 136) #[.pointer (some ⟨w1.heap.size, 0, none⟩)] #[])).run Tryz.prog Z1 = .ok () Z2 := by rw [hZ1, hZ2]; exact upd 152 201 (w1.heap.size + 2) _ [(tOpen, .func (.func 135) #[.pointer (some ⟨w1.heap.size, 0, none⟩)] #[])] _ _ Tryz.underlying152 (by rw [z0]; omega) (by rfl)
  obtain ⟨Z3, hZ3⟩ : ∃ Z, Z = setMap ((X12.setCell ⟨w1.heap.size, 4, none⟩ (.map (some (w1.heap.size + 1)))).alloc (.map #[] 0)) (w1.heap.size + 2) (.map (mapOf [(tOpen, .func (.func 135) #[.pointer (some ⟨w1.heap.size, 0, none⟩)] #[]), (tLBrace, .func (.func 136) #[.pointer (some ⟨w1.heap.size, 0, none⟩)] #[]), (tFunction, .func (.func 137) #[.pointer (some ⟨w1.heap.size, 0, none⟩)] #[])]) 3) := ⟨_, rfl⟩
  have v3 : (Instr.mapUpdate 152 (.map (some (w1.heap.size + 2))) (.string tFunction) (.func (.func 137) #[.pointer (some ⟨w1.heap.size, 0, none⟩)] #[])).run Tryz.prog Z2 = .ok () Z3 := by rw [hZ2, hZ3]; exact upd 152 201 (w1.heap.size + 2) _ [(tOpen, .func (.func 135) #[.pointer (some ⟨w1.heap.size, 0, none⟩)] #[]), (tLBrace, .func (.func 136) #[.pointer (some ⟨w1.heap.size, 0, none⟩)] #[])] _ _ Tryz.underlying152 (by rw [z0]; omega) (by rfl)
  have zR : Z3.heap[w1.heap.size]? = some (.cells #[.slice (some ⟨tb, 0, none⟩) l.length cap, .int .i64 0, .int .i64 0, .map (some w.heap.size), .map (some (w1.heap.size + 1)), .map none] 154) := by rw [hZ3, setMap_other (by omega), Below.heap_alloc _ _ _ (by rw [World.size_setCell, s12]; omega)]; exact yR
  have a4 : X12.cell? ⟨w1.heap.size, 4, none⟩ = some (.map none) := by rw [cell_of xR]; rfl
  have a4f := frozen_of xR 4
  have a5 : Z3.cell? ⟨w1.heap.size, 5, none⟩ = some (.map none) := by rw [cell_of zR]; rfl
  have a5f := frozen_of zR 5
  have HALL := hide ((unhide HMADE) w1 X12 _ Z3 (Z3.setCell ⟨w1.heap.size, 5, none⟩ (.map (some (w1.heap.size + 2)))) w1.heap.size (unhide HM1) (by first | rfl | trivial) (unhide HB1) rfl (by rw [hX12]; rfl) rfl (by rw [hZ3]; rfl) rfl)
  have HLE : Hid (w.heap.size ≤ w1.heap.size) := (unhide HB1).size
  clear hX1 hX2 hX3 hX4 hX5 hX6 hX7 hX8 hX9 hX10 hX11 hX12 hZ1 hZ2 hZ3 xR yR zR rA m0 n0 z0 s0 HMADE
  go_wp2_with fail
  go_ret
  obtain ⟨m1, m2⟩ := unhide HALL
  exact ⟨_, rfl, rfl, unhide HLE, m1, m2⟩
end Go.Proofs.YtoliilffjojfcaaGreatDoor

/-
  Pg3: A program's statements, up to the end.
-/
namespace Go.Proofs.YtoliilffjojfcaaGreatDoor
open Go.RowKit

set_option maxRecDepth 100000 in
set_option maxHeartbeats 2000000 in
theorem program_any {c : Ctx} {F : Fns} (hF : FC c F) (hN : ∃ k, FNx c.l k F) (hK : FOk F) (w : World) (r : PR Tr) (hs : progP c.l F = r) (ho : r ≠ .out) (h : Rdr c w 0 0) : Calls Tryz.prog 89 #[rPtr c] w (PPost c w 0 (NV w.heap.size) r) := by
  have hmf := mf_bound c.R 140
  have HR0 := hide h
  have HE := hide h.base.ends
  have HL := hide h.base.len
  have HLO := hide h.base.size
  obtain ⟨i0, hi0, hz0, hz1, hz2⟩ := info_parts info22
  have HA0 := hide (Ap.refl c.R w.heap.size w)
  have HLT := hide h.rlt
  have HFC := hide hF
  have HNX := hide hN
  have HFO := hide hK
  unfold progP at hs
  have HS := hide hs
  have HO := hide ho
  clear h hs ho hF hN hK
  go_enter Tryz.func89, Tryz.ntmps89
  go_wp2_with fail
  go_loopw [3] (fun v wr => ∃ k acc j, (progLoop c.l F k acc j).bind (fun ts i => PR.ok (codeT (.mk 1 noText 0 ts)) i) = r ∧ Rdr c wr j 0 ∧ Ap c.R w.heap.size w wr ∧ KV w.heap.size wr acc v ∧ acc.length ≤ j ∧ ∀ t ∈ acc, t.kd = 15 → ∃ v r, t.kids = v :: r) (fun _ wr => c.l.length - nxt c wr)
  case atStart => exact ⟨F.fuel, [], 0, unhide HS, unhide HR0, unhide HA0, KV.nil _ _, Nat.zero_le _, fun _ hu => absurd hu (by simp)⟩
  case round =>
    obtain ⟨k, acc, j, hq, hrd, hap, hkv, hle, hex⟩ := hrel
    have HEX := hide hex
    clear hex HS HR0 HA0
    cases k with
    | zero => exact absurd hq.symm (unhide HO)
    | succ k =>
      have hL := unhide HL
      have hjl := hrd.lt
      have HR2 := hide hrd
      have HRM := hide hrd
      have HA2 := hide hap
      have HK2 := hide hkv
      have HLE := hide hle
      have hfl := fldKind (tkA c.l j)
      by_cases hx : (tkA c.l j).kd = 6
      · have HQ : Hid (PR.ok (codeT (.mk 1 noText 0 acc)) j = r) := by
          unfold progLoop at hq
          rw [if_pos hx, bind_ok] at hq
          exact hq
        have b6 : ((tkA c.l j).kd != 6) = false := by rw [hx]; rfl
        have HC := hide (token_any c wr j 0 hrd)
        unfold tkV at HC
        obtain ⟨va, vc, rfl⟩ := hkv.shape
        clear hq hrd hap hkv hle hx
        go_wp2_with fail
        refine Calls.mono HC.out ?_
        rintro e w3 ⟨rfl, hb3⟩
        have HA3 := hide ((unhide HA2).next (Ap.of hb3))
        have HR3 := hide ((unhide HR2).later hb3)
        have HK3 := hide (KV.later (unhide HK2) (Ap.of hb3) (unhide HLT))
        clear hb3 HC HA2 HR2 HK2
        have HC := hide (node_any 1 noText (.slice va acc.length vc) w3 ⟨_, _, _, rfl⟩)
        go_wp2_with fail
        refine Calls.mono HC.out ?_
        rintro e wn ⟨rfl, rfl⟩
        clear HC
        obtain ⟨m1, m2, m3⟩ := made0 (unhide HR3) (unhide HA3) (unhide HK3) 1 noText _ rfl
        have HC := hide (code_any w.heap.size (.mk 1 noText 0 acc) (nPtr w3.heap.size) _ m1 (fun k1 r1 hk1 h15 => unhide HEX k1 (by have hk2 : acc = k1 :: r1 := hk1; rw [hk2]; simp) h15))
        have HM2 := hide m2
        have HM3 := hide m3
        clear m1 m2 m3
        go_wp2_with fail
        refine Calls.mono HC.out ?_
        rintro e w5 ⟨rfl, hev, hbw⟩
        have HEV := hide hev
        have HR5 := hide ((unhide HM2).ap hbw (unhide HLO))
        have HA5 := hide ((unhide HM3).trans (Ap.of hbw))
        clear hev hbw
        go_wp2_with fail
        go_ret
        exact ppOk (unhide HQ).symm (unhide HEV).nv (unhide HR5) (unhide HA5)
      · have HQ : Hid ((deepP c.l F.st 0 j).bind (fun t i1 => (progLoop c.l F k (acc ++ [t]) i1).bind fun ts i => PR.ok (codeT (.mk 1 noText 0 ts)) i) = r) := by
          unfold progLoop at hq
          rw [if_neg hx] at hq
          rw [← hq]
          cases deepP c.l F.st 0 j <;> rfl
        have b6 : ((tkA c.l j).kd != 6) = true := bne_iff_ne.2 hx
        have HC := hide (token_any c wr j 0 hrd)
        unfold tkV at HC
        clear hq hrd hap hkv hle hx
        cases hr : deepP c.l F.st 0 j with
        | out =>
          rw [hr] at HQ
          simp only [bind_out] at HQ
          exact absurd (unhide HQ).symm (unhide HO)
        | bad er p =>
          have HRR := hide hr
          rw [hr] at HQ
          simp only [bind_bad] at HQ
          clear hr
          go_wp2_with fail
          refine Calls.mono HC.out ?_
          rintro e w3 ⟨rfl, hb3⟩
          have HA3 := hide ((unhide HA2).next (Ap.of hb3))
          have HR3 := hide ((unhide HR2).later hb3)
          clear hb3 HC HA2 HR2
          have HC := hide (deepS (unhide HFC) w3 0 j (unhide HR3) (by rw [unhide HRR]; nofun))
          rw [unhide HRR] at HC
          go_wp2_with fail
          refine Calls.mono HC.out ?_
          intro e w' hp
          obtain ⟨rfl, ha⟩ := hp
          exact ⟨rfl, ppBad (unhide HQ).symm ((unhide HA3).next ha)⟩
        | ok t j2 =>
          have HRR := hide hr
          rw [hr] at HQ
          simp only [bind_ok] at HQ
          clear hr
          go_wp2_with fail
          refine Calls.mono HC.out ?_
          rintro e w3 ⟨rfl, hb3⟩
          have HA3 := hide ((unhide HA2).next (Ap.of hb3))
          have HR3 := hide ((unhide HR2).later hb3)
          have HK3 := hide (KV.later (unhide HK2) (Ap.of hb3) (unhide HLT))
          clear hb3 HC HA2 HR2 HK2
          have HC := hide (deepS (unhide HFC) w3 0 j (unhide HR3) (by rw [unhide HRR]; nofun))
          rw [unhide HRR] at HC
          go_wp2_with fail
          refine Calls.mono HC.out ?_
          intro e w4 hp
          obtain ⟨⟨v4, rfl, p4, rfl, hn4⟩, hrd, ha⟩ := hp
          have HA4 := hide ((unhide HA3).next ha)
          have HR4 := hide hrd
          have HN4 := hide (apart_own (unhide HK3) (unhide HA3).size hn4)
          have HK4 := hide (KV.later (unhide HK3) ha (unhide HLT))
          have hlt2 := hrd.lt
          have hgt : j < j2 := by
            obtain ⟨kk, hkk⟩ := unhide HNX
            exact ((deepP_nx (l := c.l) (d := 0) (hkk.st (0 + 1) j hjl)).2 t j2 (unhide HRR)).1
          clear hrd ha hn4 HC HA3 HR3 HK3
          obtain ⟨ps, hown, hk4⟩ := unhide HK4
          have hlen := NAts.length _ _ hk4
          have hOB := own_lt hown
          rw [hlen] at hown
          have HOWN := hide hown
          have HLEN := hide hlen
          have HKK := hide hk4
          have hsz := (unhide HA4).size
          have hle := unhide HLE
          have HOB := hide hOB
          clear hown hk4 HK4 hOB hlen
          go_wp2_with (at_builtin; refine wpList_append_lies _ rfl _ _ 36 rfl w.heap.size 22 i0 (.pointer none) 1 8 Tryz.underlying36 hi0 hz0 hz1 hz2 rfl (by decide) _ _ _ rfl ((unhide HOWN).alloc _) ⟨w4.heap.size, 0, none⟩ 1 1 [nPtr p4] rfl rfl (one_cells w4 p4 _ rfl) (one_one p4) (by decide) (by unfold maxLen; omega) (by omega) (by simp; omega) (w4.heap.size + 1) (by simp) ?_)
          intro g cap w5 hown' hgrow hg _
          have HK5 : Hid (KV w.heap.size w5 (acc ++ [t]) (.slice (some ⟨g, 0, none⟩) (acc.length + 1) cap)) := kv_push (unhide HKK) (NAts.cons (unhide HN4) NAts.nil) (by rw [List.map_append]; exact hown') (by simp [unhide HLEN]) hgrow hg
          have HA5 := hide (((unhide HA4).alloc hsz (.cells #[nPtr p4] 22)).grown hgrow (by simp; omega) (fun k hk => (unhide HOB k hk).2))
          have HR5 := hide ((unhide HR4).ap (((Below.refl w.heap.size w4).alloc hsz (.cells #[nPtr p4] 22)).grown hgrow (by simp; omega) (fun k hk => (unhide HOB k hk).2)) (unhide HLO))
          clear hown' hgrow hg HKK HOWN
          go_wp2_with fail
          go_roundw
          case rel => exact ⟨k, acc ++ [t], j2, unhide HQ, unhide HR5, unhide HA5, unhide HK5, by simp; omega, fun u hu => by
              rcases List.mem_append.1 hu with hu | hu
              · exact unhide HEX u hu
              · rw [List.mem_singleton] at hu
                subst hu
                exact unhide HFO _ _ _ _ (deepP_ok (unhide HRR))⟩
          case measure => rw [nxt_eq (unhide HR5), nxt_eq (unhide HRM)]; omega
end Go.Proofs.YtoliilffjojfcaaGreatDoor
