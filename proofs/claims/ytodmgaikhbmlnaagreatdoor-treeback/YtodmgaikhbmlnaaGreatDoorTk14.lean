/-
  Values of two parts, from the left.
-/
import Derived.Test.YtodmgaikhbmlnaaGreatDoorTk8
import Derived.Test.YtodmgaikhbmlnaaGreatDoorTk13
import Derived.Test.YtodmgaikhbmlnaaGreatDoorTk0
import Derived.RegionTactic
import Derived.Deep.RegionHeld
set_option maxRecDepth 100000
set_option maxHeartbeats 16000000
namespace Go.Proofs.YtodmgaikhbmlnaaGreatDoor
open Go.RowKit

theorem pair_any {c : Ctx} {F : Fns} (hF : FC c F) (hN : ∃ k, FNx c.l k F) (b : Int) (w : World) (d i : Nat) (r : PR Tr) (hs : pairP c.l F b d i = r) (ho : r ≠ .out) (h : Rdr c w i d) : Calls Tryz.prog 261 #[rPtr c, .int .i64 b] w (PPost c w d (NV w.heap.size) r) := by
  have HE := hide h.base.ends
  have HL := hide h.base.len
  have HNX := hide hN
  have HFC := hide hF
  clear hN
  have HR0 := hide h
  have HA0 := hide (Ap.refl c.R w.heap.size w)
  have HLT := hide h.rlt
  unfold pairP at hs
  have HS := hide hs
  have HO := hide ho
  clear h hs ho
  go_enter Tryz.func261, Tryz.ntmps261
  cases hr : F.sg d i with
  | out =>
    rw [hr] at HS
    simp only [bind_out] at HS
    exact absurd (unhide HS).symm (unhide HO)
  | bad er p =>
    have HC := hide (hF.sg w d i _ rfl (by rw [hr]; nofun) (unhide HR0))
    rw [hr] at HC HS
    simp only [bind_bad] at HS
    clear hr
    go_wp2_with fail
    refine Calls.mono HC.out ?_
    intro e w' hp
    obtain ⟨rfl, ha⟩ := hp
    exact ⟨rfl, ppBad (unhide HS).symm ((unhide HA0).next ha)⟩
  | ok x1 j1 =>
    have HC := hide (hF.sg w d i _ rfl (by rw [hr]; nofun) (unhide HR0))
    rw [hr] at HC HS
    simp only [bind_ok] at HS
    clear hr
    go_wp2_with fail
    refine Calls.mono HC.out ?_
    intro e w1 hp
    obtain ⟨⟨v1, rfl, p1, rfl, hn1⟩, hrd, ha⟩ := hp
    clear HC
    have HA1 := hide ((unhide HA0).next ha)
    have HR1 := hide hrd
    have HN1 := hide (nat_mono hn1 (unhide HA0).size)
    clear hn1
    clear hrd ha HA0 HR0
    clear hF
    go_wp2_with fail
    go_loopw [5] (fun v wr => ∃ k t j p, v = nPtr p ∧ pairLoop c.l F b d k t j = r ∧ Rdr c wr j d ∧ Ap c.R w.heap.size w wr ∧ NAt (From w.heap.size) wr t p) (fun _ wr => c.l.length - nxt c wr)
    case atStart => exact ⟨F.fuel, x1, j1, p1, rfl, unhide HS, unhide HR1, unhide HA1, unhide HN1⟩
    case round =>
      obtain ⟨k, t, j, p0, rfl, hq, hrd, hap, hnt⟩ := hrel
      clear HS HR1 HA1 HN1
      cases k with
      | zero => exact absurd hq.symm (unhide HO)
      | succ k =>
        have HR2 := hide hrd
        have HRM := hide hrd
        have HA2 := hide hap
        have HN2 := hide hnt
        have hjl := hrd.lt
        have hL := unhide HL
        unfold pairLoop at hq
        cases hsg : sgP 2 (fx c.l j) with
        | none =>
          rw [hsg] at hq
          have HQ := hide hq
          have HSG := hide hsg
          clear hq hrd hap hnt hsg
          have HC := hide (sign_any c 2 wr j d (unhide HR2))
          rw [unhide HSG] at HC
          simp only [sgVO, noSg, Option.isSome] at HC
          go_wp2_with fail
          refine Calls.mono HC.out ?_
          rintro e ws ⟨rfl, hbws⟩
          clear HC
          have HAws := hide ((unhide HA2).next (Ap.of hbws))
          have HRws := hide ((unhide HR2).later hbws)
          replace HN2 := hide (nat_later (unhide HN2) (Ap.of hbws) (unhide HLT))
          clear hbws
          have HAs2 := hide ((unhide HAws).alloc (unhide HAws).size (.cells #[.string ⟨#[]⟩, .int .i64 0, .int .i64 0, .int .i64 0] 175))
          have HRs2 := hide ((unhide HRws).alloc (.cells #[.string ⟨#[]⟩, .int .i64 0, .int .i64 0, .int .i64 0] 175))
          replace HN2 := hide (nat_later (unhide HN2) (Ap.of ((Below.refl _ _).alloc (Nat.le_refl _) (.cells #[.string ⟨#[]⟩, .int .i64 0, .int .i64 0, .int .i64 0] 175))) (unhide HLT))
          go_wp2_with fail
          go_ret
          exact ppOk (unhide HQ).symm ⟨p0, rfl, unhide HN2⟩ (unhide HRs2) (unhide HAs2)
        | some x =>
          rw [hsg] at hq
          dsimp only at hq
          have HSG := hide hsg
          have hi := sgP_lt (unhide HE) hjl hsg
          obtain ⟨hx2, hx7⟩ := sg2 hsg
          clear hrd hap hnt hsg
          by_cases hle : x.str < b
          · rw [if_pos hle] at hq
            have HQ := hide hq
            clear hq
            have HC := hide (sign_any c 2 wr j d (unhide HR2))
            rw [unhide HSG] at HC
            simp only [sgVO, sgV, Option.isSome] at HC
            go_wp2_with fail
            refine Calls.mono HC.out ?_
            rintro e ws ⟨rfl, hbws⟩
            clear HC
            have HAws := hide ((unhide HA2).next (Ap.of hbws))
            have HRws := hide ((unhide HR2).later hbws)
            replace HN2 := hide (nat_later (unhide HN2) (Ap.of hbws) (unhide HLT))
            clear hbws
            have HAs2 := hide ((unhide HAws).alloc (unhide HAws).size (.cells #[.string x.tx, .int .i64 x.kd, .int .i64 x.parts, .int .i64 x.str] 175))
            have HRs2 := hide ((unhide HRws).alloc (.cells #[.string x.tx, .int .i64 x.kd, .int .i64 x.parts, .int .i64 x.str] 175))
            replace HN2 := hide (nat_later (unhide HN2) (Ap.of ((Below.refl _ _).alloc (Nat.le_refl _) (.cells #[.string x.tx, .int .i64 x.kd, .int .i64 x.parts, .int .i64 x.str] 175))) (unhide HLT))
            go_wp2_with fail
            go_ret
            exact ppOk (unhide HQ).symm ⟨p0, rfl, unhide HN2⟩ (unhide HRs2) (unhide HAs2)
          · rw [if_neg hle] at hq
            have HQ := hide hq
            clear hq
            have HC := hide (sign_any c 2 wr j d (unhide HR2))
            rw [unhide HSG] at HC
            simp only [sgVO, sgV, Option.isSome] at HC
            go_wp2_with fail
            refine Calls.mono HC.out ?_
            rintro e ws ⟨rfl, hbws⟩
            clear HC
            have HAws := hide ((unhide HA2).next (Ap.of hbws))
            have HRws := hide ((unhide HR2).later hbws)
            replace HN2 := hide (nat_later (unhide HN2) (Ap.of hbws) (unhide HLT))
            have hc1 := (unhide HRws).c1
            have hcz := (unhide HRws).fz
            have hcl := (unhide HRws).rlt
            obtain ⟨hx1, hxa, hx3⟩ := behindSign x (unhide HRws) (unhide HAws) hi
            have HX1 := hide hx1
            have HX2 := hide hxa
            have HX3 := hide hx3
            have HTL : Hid (c.R < ws.heap.size) := hcl
            replace HN2 : Hid (NAt (From w.heap.size) (((ws.setCell ⟨c.R, 1, none⟩ (.int .i64 ((j : Int) + 1))).alloc (.cells #[.string x.tx, .int .i64 x.kd, .int .i64 x.parts, .int .i64 x.str] 175)).drew) t p0) := nat_later (c := c) (unhide HN2) ⟨rfl, rfl, rfl, by simp, fun k hk hkr => by
              show ((ws.setCell ⟨c.R, 1, none⟩ (.int .i64 ((j : Int) + 1))).alloc (.cells #[.string x.tx, .int .i64 x.kd, .int .i64 x.parts, .int .i64 x.str] 175)).heap[k]? = _
              rw [Below.heap_alloc _ _ k (by simpa using hk), Below.heap_setCell ws ⟨c.R, 1, none⟩ _ k hkr]⟩ (unhide HLT)
            clear hbws hx1 hxa hx3 HRws HAws
            cases hr : F.pr (x.str + 1) d (j + 1) with
            | out =>
              rw [hr] at HQ
              simp only [bind_out] at HQ
              exact absurd (unhide HQ).symm (unhide HO)
            | bad er p =>
              have HC := hide ((unhide HFC).pr (x.str + 1) (by omega) (by omega) ((ws.setCell ⟨c.R, 1, none⟩ (.int .i64 ((j : Int) + 1))).alloc (.cells #[.string x.tx, .int .i64 x.kd, .int .i64 x.parts, .int .i64 x.str] 175)).drew d (j + 1) _ rfl (by rw [hr]; nofun) (unhide HX1))
              rw [hr] at HC HQ
              simp only [bind_bad] at HQ
              clear hr
              go_wp2_with fail
              refine wp_region_held (S := fun W => W.heap[ws.heap.size]? = some (.cells #[.string x.tx, .int .i64 x.kd, .int .i64 x.parts, .int .i64 x.str] 175)) (by kernel_rfl) ?_
              change wpAnyH _ _ _ _ _ _ _ _ (World.drew _)
              refine wpAnyH_take (i := 0) (v := .pointer (some ⟨ws.heap.size, 1, none⟩)) rfl (by kernel_rfl) (by kernel_rfl) (by kernel_rfl) (fun _ _ _ h => h) (Or.inl ⟨by kernel_rfl, fun W _ => by go_simp⟩) (unhide HX3) ?_
              refine wpAnyH_take (i := 1) (v := .int .i64 x.kd) rfl (by kernel_rfl) (by kernel_rfl) (by kernel_rfl) (fun _ _ _ h => h) (Or.inl ⟨by kernel_rfl, fun W hW => by obtain ⟨_, kk, _, _, _, _⟩ := c160 hW; go_simp⟩) (unhide HX3) ?_
              refine wpAnyH_take (i := 2) (v := nPtr p0) rfl (by kernel_rfl) (by kernel_rfl) (by kernel_rfl) (fun _ _ _ h => h) (Or.inl ⟨by kernel_rfl, fun W _ => by go_simp⟩) (unhide HX3) ?_
              refine wpAnyH_take (i := 3) (v := rPtr c) rfl (by kernel_rfl) (by kernel_rfl) (by kernel_rfl) (fun _ _ _ h => h) (Or.inl ⟨by kernel_rfl, fun W _ => by go_simp⟩) (unhide HX3) ?_
              refine wpAnyH_take (i := 4) (v := .pointer (some ⟨ws.heap.size, 3, none⟩)) rfl (by kernel_rfl) (by kernel_rfl) (by kernel_rfl) (fun _ _ _ h => h) (Or.inl ⟨by kernel_rfl, fun W _ => by go_simp⟩) (unhide HX3) ?_
              refine wpAnyH_take (i := 5) (v := .int .i64 x.str) rfl (by kernel_rfl) (by kernel_rfl) (by kernel_rfl) (fun _ _ _ h => h) (Or.inl ⟨by kernel_rfl, fun W hW => by obtain ⟨_, _, _, kk, _, _⟩ := c160 hW; go_simp⟩) (unhide HX3) ?_
              refine wpAnyH_take (i := 6) (v := .int .i64 (x.str + 1)) rfl (by kernel_rfl) (by kernel_rfl) (by kernel_rfl) (fun _ _ _ h => h) (Or.inl ⟨by kernel_rfl, fun W _ => by have hw : IntKind.i64.wrap (x.str + 1) = x.str + 1 := (by rw [IntKind.wrap_i64]; omega); go_simp; try exact hw⟩) (unhide HX3) ?_
              refine wpAnyH_ready (rs := [7]) (by kernel_rfl) (by simp) (AllReadyH.cons rfl (fun K hK => ?_) AllReadyH.nil)
              go_simp
              refine Calls.mono HC.out ?_
              intro e w' hp
              obtain ⟨rfl, ha⟩ := hp
              exact ⟨rfl, ppBad (unhide HQ).symm ((unhide HX2).next ha)⟩
            | ok u j2 =>
              have HC := hide ((unhide HFC).pr (x.str + 1) (by omega) (by omega) ((ws.setCell ⟨c.R, 1, none⟩ (.int .i64 ((j : Int) + 1))).alloc (.cells #[.string x.tx, .int .i64 x.kd, .int .i64 x.parts, .int .i64 x.str] 175)).drew d (j + 1) _ rfl (by rw [hr]; nofun) (unhide HX1))
              have hgt : j + 1 < j2 := by
                obtain ⟨kk, hkk⟩ := unhide HNX
                exact ((hkk.pr (x.str + 1) d (j + 1) hi).2 u j2 hr).1
              rw [hr] at HC HQ
              simp only [bind_ok] at HQ
              clear hr
              go_wp2_with fail
              refine wp_region_held (S := fun W => W.heap[ws.heap.size]? = some (.cells #[.string x.tx, .int .i64 x.kd, .int .i64 x.parts, .int .i64 x.str] 175)) (by kernel_rfl) ?_
              change wpAnyH _ _ _ _ _ _ _ _ (World.drew _)
              refine wpAnyH_take (i := 0) (v := .pointer (some ⟨ws.heap.size, 1, none⟩)) rfl (by kernel_rfl) (by kernel_rfl) (by kernel_rfl) (fun _ _ _ h => h) (Or.inl ⟨by kernel_rfl, fun W _ => by go_simp⟩) (unhide HX3) ?_
              refine wpAnyH_take (i := 1) (v := .int .i64 x.kd) rfl (by kernel_rfl) (by kernel_rfl) (by kernel_rfl) (fun _ _ _ h => h) (Or.inl ⟨by kernel_rfl, fun W hW => by obtain ⟨_, kk, _, _, _, _⟩ := c160 hW; go_simp⟩) (unhide HX3) ?_
              refine wpAnyH_take (i := 2) (v := nPtr p0) rfl (by kernel_rfl) (by kernel_rfl) (by kernel_rfl) (fun _ _ _ h => h) (Or.inl ⟨by kernel_rfl, fun W _ => by go_simp⟩) (unhide HX3) ?_
              refine wpAnyH_take (i := 3) (v := rPtr c) rfl (by kernel_rfl) (by kernel_rfl) (by kernel_rfl) (fun _ _ _ h => h) (Or.inl ⟨by kernel_rfl, fun W _ => by go_simp⟩) (unhide HX3) ?_
              refine wpAnyH_take (i := 4) (v := .pointer (some ⟨ws.heap.size, 3, none⟩)) rfl (by kernel_rfl) (by kernel_rfl) (by kernel_rfl) (fun _ _ _ h => h) (Or.inl ⟨by kernel_rfl, fun W _ => by go_simp⟩) (unhide HX3) ?_
              refine wpAnyH_take (i := 5) (v := .int .i64 x.str) rfl (by kernel_rfl) (by kernel_rfl) (by kernel_rfl) (fun _ _ _ h => h) (Or.inl ⟨by kernel_rfl, fun W hW => by obtain ⟨_, _, _, kk, _, _⟩ := c160 hW; go_simp⟩) (unhide HX3) ?_
              refine wpAnyH_take (i := 6) (v := .int .i64 (x.str + 1)) rfl (by kernel_rfl) (by kernel_rfl) (by kernel_rfl) (fun _ _ _ h => h) (Or.inl ⟨by kernel_rfl, fun W _ => by have hw : IntKind.i64.wrap (x.str + 1) = x.str + 1 := (by rw [IntKind.wrap_i64]; omega); go_simp; try exact hw⟩) (unhide HX3) ?_
              refine wpAnyH_ready (rs := [7]) (by kernel_rfl) (by simp) (AllReadyH.cons rfl (fun K hK => ?_) AllReadyH.nil)
              go_simp
              refine Calls.mono HC.out ?_
              intro e w1 hp
              obtain ⟨⟨v1, rfl, p1, rfl, hn1⟩, hrd, ha⟩ := hp
              clear HC
              have HA1 := hide ((unhide HX2).next ha)
              have HR1 := hide hrd
              have hj2 := hrd.lt
              have HN1 := hide (nat_mono hn1 (unhide HX2).size)
              replace HN2 := hide (nat_later (unhide HN2) ha (unhide HLT))
              have HS1 := hide ((ha.block _ (lt_of_heap (unhide HX3)) (by have := unhide HTL; omega)).trans (unhide HX3))
              clear hn1 hrd ha
              refine hK.out _ _ (unhide HS1) (fun _ => ?_)
              clear hK K
              refine wpAnyH_ready (rs := [8]) (by kernel_rfl) (by simp) (AllReadyH.cons rfl (fun K hK => ?_) AllReadyH.nil)
              go_simp
              have HS2 := hide ((Below.heap_alloc w1 (.cells #[nPtr p0, nPtr p1] 22) _ (lt_of_heap (unhide HS1))).trans (unhide HS1))
              refine hK.out _ _ (unhide HS2) (fun _ => ?_)
              clear hK K
              refine wpAnyH_ready (rs := [9]) (by kernel_rfl) (by simp) (AllReadyH.cons rfl (fun K hK => ?_) AllReadyH.nil)
              go_simp
              refine Calls.mono (node_any x.kd noText (.slice (some ⟨w1.heap.size, 0, none⟩) 2 2) (w1.alloc (.cells #[nPtr p0, nPtr p1] 22)) ⟨_, _, _, rfl⟩) ?_
              rintro e wn ⟨rfl, rfl⟩
              have HS3 := hide ((Below.heap_alloc (w1.alloc (.cells #[nPtr p0, nPtr p1] 22)) (nodeObj x.kd noText 0 (.slice (some ⟨w1.heap.size, 0, none⟩) 2 2)) _ (lt_of_heap (unhide HS2))).trans (unhide HS2))
              refine hK.out _ _ (unhide HS3) (fun _ => ?_)
              clear hK K
              refine wpAnyH_take (i := 10) (v := nPtr (w1.alloc (.cells #[nPtr p0, nPtr p1] 22)).heap.size) rfl (by kernel_rfl) (by kernel_rfl) (by kernel_rfl) (fun _ _ _ h => h) (Or.inl ⟨by kernel_rfl, fun W _ => by go_simp⟩) (unhide HS3) ?_
              refine wpAnyH_done (by kernel_rfl) ?_ _
              go_simp
              obtain ⟨m1, m2, m3⟩ := made (unhide HR1) (unhide HA1) (NAts.cons (unhide HN2) (NAts.cons (unhide HN1) NAts.nil)) (by simp [maxLen]) #[nPtr p0, nPtr p1] rfl 2 rfl x.kd noText (w1.heap.size + 1) rfl
              obtain ⟨pm, hpm, hnm⟩ := m1.nv
              have hpe : pm = w1.heap.size + 1 := by simpa [nPtr] using hpm.symm
              subst hpe
              have HM1 := hide hnm
              have HM2 := hide m2
              have HM3 := hide m3
              clear m1 m2 m3 hpm hnm
              go_wp2_with fail
              go_roundw
              case rel => exact ⟨k, .mk x.kd noText 0 [t, u], j2, w1.heap.size + 1, rfl, unhide HQ, unhide HM2, unhide HM3, unhide HM1⟩
              case measure => rw [nxt_eq (unhide HM2), nxt_eq (unhide HRM)]; omega


section
variable {P : Program} {md : Region.Mode} {ops : Array Oper} {Q : Exit → Act → World → Prop} {S : World → Prop} {fuel : Nat} {listed : Array Bool} {a : Act} {w : World}

theorem wt {oi : Oper} (i : Nat) (v : Value)
    (h : wpAny P md ops Q fuel (listed.setIfInBounds i true) (a.put oi.dst v) w) (hi : ops[i]? = some oi := by rfl)
    (hs : Region.noSelect ops = true := by kernel_rfl) (hf : Region.free md ops listed i = true := by kernel_rfl) (hr : (Region.ready md ops listed).contains i = true := by kernel_rfl)
    (hQ : ∀ c a w, Q (.panic c) (a.put oi.dst v) w → Q (.panic c) a w := by exact fun _ _ _ h => h) (hy : Yields P ops oi v a := by exact Or.inl ⟨by kernel_rfl, fun w => by go_simp⟩) : wpAny P md ops Q (fuel + 1) listed a w :=
  wpAny_take hi hs hf hr hQ hy h
theorem wg {oi : Oper} (i : Nat) (v : Value) (hi : ops[i]? = some oi) (hy : YieldsIf P ops S oi v a) (hS : S w)
    (h : wpAnyH P md ops Q S fuel (listed.setIfInBounds i true) (a.put oi.dst v) w)
    (hs : Region.noSelect ops = true := by kernel_rfl) (hf : Region.free md ops listed i = true := by kernel_rfl) (hr : (Region.ready md ops listed).contains i = true := by kernel_rfl)
    (hQ : ∀ c a w, Q (.panic c) (a.put oi.dst v) w → Q (.panic c) a w := by exact fun _ _ _ h => h) : wpAnyH P md ops Q S (fuel + 1) listed a w :=
  wpAnyH_take hi hs hf hr hQ hy hS h
theorem wh {oi : Oper} (i : Nat) (v : Value) (hS : S w)
    (h : wpAnyH P md ops Q S fuel (listed.setIfInBounds i true) (a.put oi.dst v) w) (hi : ops[i]? = some oi := by rfl)
    (hs : Region.noSelect ops = true := by kernel_rfl) (hf : Region.free md ops listed i = true := by kernel_rfl) (hr : (Region.ready md ops listed).contains i = true := by kernel_rfl)
    (hQ : ∀ c a w, Q (.panic c) (a.put oi.dst v) w → Q (.panic c) a w := by exact fun _ _ _ h => h) (hy : YieldsIf P ops S oi v a := by exact Or.inl ⟨by kernel_rfl, fun _ _ => by go_simp⟩) : wpAnyH P md ops Q S (fuel + 1) listed a w :=
  wpAnyH_take hi hs hf hr hQ hy hS h
theorem wr1 {o : Oper} (i : Nat)
    (h : ∀ K' : Act → World → Prop, (∀ a w, wpAny P md ops Q fuel (listed.setIfInBounds i true) a w → K' a w) → if Region.wanted o (yielded ops a.tmps) = true then Oper.wp P o a w K' Q else K' (a.put o.dst undef) w)
    (ho : ops[i]? = some o := by rfl) (hr : Region.ready md ops listed = [i] := by kernel_rfl) : wpAny P md ops Q (fuel + 1) listed a w :=
  wpAny_ready hr (by simp) (AllReady.cons ho h AllReady.nil)
theorem wr2 {o o' : Oper} (i j : Nat)
    (h : ∀ K' : Act → World → Prop, (∀ a w, wpAny P md ops Q fuel (listed.setIfInBounds i true) a w → K' a w) → if Region.wanted o (yielded ops a.tmps) = true then Oper.wp P o a w K' Q else K' (a.put o.dst undef) w)
    (h' : ∀ K' : Act → World → Prop, (∀ a w, wpAny P md ops Q fuel (listed.setIfInBounds j true) a w → K' a w) → if Region.wanted o' (yielded ops a.tmps) = true then Oper.wp P o' a w K' Q else K' (a.put o'.dst undef) w)
    (ho : ops[i]? = some o := by rfl) (ho' : ops[j]? = some o' := by rfl) (hr : Region.ready md ops listed = [i, j] := by kernel_rfl) : wpAny P md ops Q (fuel + 1) listed a w :=
  wpAny_ready hr (by simp) (AllReady.cons ho h (AllReady.cons ho' h' AllReady.nil))
theorem wq1 {o : Oper} (i : Nat)
    (h : ∀ K' : Act → World → Prop, Shut (∀ a w, S w → (S w → wpAnyH P md ops Q S fuel (listed.setIfInBounds i true) a w) → K' a w) → if Region.wanted o (yielded ops a.tmps) = true then Oper.wp P o a w K' Q else K' (a.put o.dst undef) w)
    (ho : ops[i]? = some o := by rfl) (hr : Region.ready md ops listed = [i] := by kernel_rfl) : wpAnyH P md ops Q S (fuel + 1) listed a w :=
  wpAnyH_ready hr (by simp) (AllReadyH.cons ho h AllReadyH.nil)
theorem via2 {H G : World → Nat → Prop} {goal : Prop} (h1 : (∀ wc pc, H wc pc → G wc pc) → goal) (h2 : ∀ wc pc, H wc pc → G wc pc) : goal := h1 h2
theorem wpAny_same {listed' : Array Bool} {a' : Act} (h1 : listed = listed') (h2 : a = a') (h : wpAny P md ops Q fuel listed' a' w) : wpAny P md ops Q fuel listed a w := by
  subst h1 h2
  exact h
def tf (n m : Nat) : Array Bool := Array.replicate n true ++ Array.replicate m false
theorem wz {a' : Act} (n m : Nat) (h : wpAny P md ops Q fuel (tf n m) a' w) (h1 : listed = tf n m := by kernel_rfl) (h2 : a = a' := by kernel_rfl) : wpAny P md ops Q fuel listed a w := wpAny_same h1 h2 h
theorem cm {f : FuncId} {args : Array Value} {R R' : Ending → World → Prop} (h : Calls P f args w R) (hr : ∀ e w', R e w' → R' e w') : Calls P f args w R' := h.mono hr
end

/-- A node's blocks and its parts, open. -/
structure Open (B : Nat) (w : World) (t : Tr) (p : Nat) (u : Value) (ps : List Nat) : Prop where
  low : B ≤ p
  blk : w.heap[p]? = some (nodeObj t.kd t.tx t.n u)
  row : w.ownsRow B 22 1 u ps.length (ps.map nPtr)
  own : u.ownBlock ≠ some p
  kids : NAts (fun b => B ≤ b ∧ b ≠ p ∧ u.ownBlock ≠ some b) w t.kids ps

theorem EV.opens {B : Nat} {w : World} {t : Tr} {v : Value} (h : EV B w t v) : ∃ p u ps, v = nPtr p ∧ Open B w t p u ps := by
  obtain ⟨p, u, ps, rfl, h1, h2, h3, h4, h5⟩ := h
  exact ⟨p, u, ps, rfl, h1, h2, h3, h4, h5⟩
theorem Open.ev {B : Nat} {w : World} {t : Tr} {p : Nat} {u : Value} {ps : List Nat} (h : Open B w t p u ps) : EV B w t (nPtr p) := ⟨p, u, ps, rfl, h.low, h.blk, h.row, h.own, h.kids⟩
theorem Open.later {c : Ctx} {B : Nat} {w w' : World} {t : Tr} {p : Nat} {u : Value} {ps : List Nat} (h : Open B w t p u ps) (ha : Ap c.R w.heap.size w w') (hB : c.R < B) : Open B w' t p u ps :=
  ⟨h.low, by rw [ha.block p (lt_of_heap h.blk) (by have := h.low; omega)]; exact h.blk, owns_stay (I := fun b => B ≤ b) (Stay.of_ap ha hB fun _ h => h) (fun g hg => (own_lt h.row g hg).2) h.row, h.own, NAts.later (Stay.of_ap ha hB fun _ h => h.1) _ _ h.kids⟩
theorem Open.cell {B : Nat} {w : World} {t : Tr} {p : Nat} {u : Value} {ps : List Nat} (h : Open B w t p u ps) : w.cell? ⟨p, 3, none⟩ = some u ∧ (∀ o, w.frozen? ⟨p, o, none⟩ = false) ∧ p < w.heap.size :=
  ⟨(node_cells h.blk).2.2.2.1, (node_cells h.blk).2.2.2.2, lt_of_heap h.blk⟩
theorem Open.shape {B : Nat} {w : World} {t : Tr} {p : Nat} {u : Value} {ps : List Nat} (h : Open B w t p u ps) : ∃ a cap, u = .slice a t.kids.length cap := by
  rw [← NAts.length _ _ h.kids]; exact row_shut h.row

/-- What was made from a later number on has none of the node's blocks. -/
theorem Open.apart {B : Nat} {w w1 : World} {t : Tr} {p : Nat} {u : Value} {ps : List Nat} (h : Open B w t p u ps) (hB : B ≤ w.heap.size) {us : List Tr} {qs : List Nat} (hn : NAts (From w.heap.size) w1 us qs) :
    NAts (fun b => B ≤ b ∧ b ≠ p ∧ u.ownBlock ≠ some b) w1 us qs :=
  NAts.mono (fun b hb _ => by
    have h1 : w.heap.size ≤ b := hb
    have h2 := lt_of_heap h.blk
    exact ⟨by omega, by omega, fun e => by have := (own_lt h.row b e).1; omega⟩) _ _ hn

/-- The row has grown, and the node's word for it is stored. -/
theorem ev_push {B : Nat} {w0 w3 : World} {kd n : Int} {tx : ByteArray} {ts us : List Tr} {ps qs : List Nat} {p g m cap : Nat} {u : Value} (hB : B ≤ p) (hb : w0.heap[p]? = some (nodeObj kd tx n u)) (hu : u.ownBlock ≠ some p)
    (hk : NAts (fun b => B ≤ b ∧ b ≠ p ∧ u.ownBlock ≠ some b) w0 ts ps) (hq : NAts (fun b => B ≤ b ∧ b ≠ p ∧ u.ownBlock ≠ some b) w0 us qs)
    (hown : w3.ownsRow B 22 1 (.slice (some ⟨g, 0, none⟩) m cap) m ((ps ++ qs).map nPtr)) (hm : m = (ps ++ qs).length) (hgr : w0.grownBy w3 u.ownBlock) (hg : u.ownBlock = some g ∨ g = w0.heap.size) :
    EV B (w3.setCell ⟨p, 3, none⟩ (.slice (some ⟨g, 0, none⟩) m cap)) (.mk kd tx n (ts ++ us)) (nPtr p) := by
  subst hm
  have hlt := lt_of_heap hb
  have hgp : g ≠ p := by
    rcases hg with hg | hg
    · exact fun e => hu (by rw [hg, e])
    · omega
  have h3 : w3.heap[p]? = some (nodeObj kd tx n u) := by rw [hgr.block p hlt (fun e => hu e.symm)]; exact hb
  have hset : ∀ b, b ≠ p → (w3.setCell ⟨p, 3, none⟩ (.slice (some ⟨g, 0, none⟩) (ps ++ qs).length cap)).heap[b]? = w3.heap[b]? := fun b hb => Below.heap_setCell w3 ⟨p, 3, none⟩ _ b hb
  refine ⟨p, .slice (some ⟨g, 0, none⟩) (ps ++ qs).length cap, ps ++ qs, rfl, hB, by rw [heap_set h3]; rfl, ?_, fun e => hgp (by simpa [Value.ownBlock] using e), ?_⟩
  · exact owns_stay (I := fun b => b = g) (fun b hb _ => hset b (by rw [hb]; exact hgp)) (fun g' hg' => by simpa [Value.ownBlock] using hg'.symm) hown
  · have h0 := NAts.mono (J := fun b => B ≤ b ∧ b ≠ p ∧ b ≠ g ∧ u.ownBlock ≠ some b) (fun b hb hl => ⟨hb.1, hb.2.1, fun e => by (rcases hg with hg | hg); (exact hb.2.2 (by rw [hg, e])); omega, hb.2.2⟩) _ _ (NAts.append hq _ _ hk)
    have hs : Stay (fun b => B ≤ b ∧ b ≠ p ∧ b ≠ g ∧ u.ownBlock ≠ some b) w0 (w3.setCell ⟨p, 3, none⟩ (.slice (some ⟨g, 0, none⟩) (ps ++ qs).length cap)) := by
      intro b hb hl
      rw [hset b hb.2.1]
      exact hgr.block b hl (fun e => hb.2.2.2 e.symm)
    exact NAts.mono (fun b hb _ => ⟨hb.1, hb.2.1, fun e => by simp only [Value.ownBlock, Option.some.injEq] at e; exact hb.2.2.1 e.symm⟩) _ _ (NAts.later hs _ _ h0)

/-- One part more, through a new row of one: all that is known behind the store. -/
theorem push1 {c : Ctx} {w w1 w3 : World} {j d : Nat} {t x : Tr} {p q g cap : Nat} {u : Value} {ps : List Nat} (hO : Open w.heap.size w1 t p u ps) (hx : NAts (fun b => w.heap.size ≤ b ∧ b ≠ p ∧ u.ownBlock ≠ some b) w1 [x] [q]) (hR : Rdr c w1 j d) (hA : Ap c.R w.heap.size w w1) (hlo : c.lo ≤ w.heap.size)
    (hown : w3.ownsRow w.heap.size 22 1 (.slice (some ⟨g, 0, none⟩) (t.kids.length + 1) cap) (t.kids.length + 1) (ps.map nPtr ++ [nPtr q])) (hgr : (w1.alloc (.cells #[nPtr q] 22)).grownBy w3 u.ownBlock) (hg : u.ownBlock = some g ∨ g = w1.heap.size + 1) :
    EV w.heap.size (w3.setCell ⟨p, 3, none⟩ (.slice (some ⟨g, 0, none⟩) (t.kids.length + 1) cap)) (.mk t.kd t.tx t.n (t.kids ++ [x])) (nPtr p) ∧
    Rdr c (w3.setCell ⟨p, 3, none⟩ (.slice (some ⟨g, 0, none⟩) (t.kids.length + 1) cap)) j d ∧
    Ap c.R w.heap.size w (w3.setCell ⟨p, 3, none⟩ (.slice (some ⟨g, 0, none⟩) (t.kids.length + 1) cap)) := by
  have hlen := NAts.length _ _ hO.kids
  have hst : ∀ I, Stay I w1 (w1.alloc (.cells #[nPtr q] 22)) := fun I b _ hl => Below.heap_alloc w1 _ b hl
  have hb : (w1.alloc (.cells #[nPtr q] 22)).heap[p]? = some (nodeObj t.kd t.tx t.n u) := by rw [Below.heap_alloc w1 _ p (lt_of_heap hO.blk)]; exact hO.blk
  have hrow : ∀ k, u.ownBlock = some k → w.heap.size ≤ k := fun k hk => (own_lt hO.row k hk).2
  have hgrow : Below w.heap.size w1 w3 := ((Below.refl w.heap.size w1).alloc hA.size _).grown hgr (by simp; have := hA.size; omega) hrow
  have hset : Below w.heap.size w1 (w3.setCell ⟨p, 3, none⟩ (.slice (some ⟨g, 0, none⟩) (t.kids.length + 1) cap)) := hgrow.setCell (p := ⟨p, 3, none⟩) hO.low _
  refine ⟨?_, hR.ap hset hlo, hA.trans (Ap.of hset)⟩
  refine ev_push (w0 := w1.alloc (.cells #[nPtr q] 22)) hO.low hb hO.own (NAts.later (hst _) _ _ hO.kids) (NAts.later (hst _) _ _ hx) (by rw [List.map_append]; exact hown) (by simp [hlen]) hgr ?_
  rcases hg with hg | hg
  · exact Or.inl hg
  · exact Or.inr (by simp [hg])
end Go.Proofs.YtodmgaikhbmlnaaGreatDoor
