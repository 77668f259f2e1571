/-
  repeated, wrongBranch, wrongScope.
-/
import Derived.Test.YtodmgaikhbmlnaaGreatDoorEm30
set_option maxRecDepth 100000
set_option maxHeartbeats 16000000
namespace Go.Proofs.YtodmgaikhbmlnaaGreatDoor
open Go.RowKit

theorem NAts.take {I : Nat → Prop} {w : World} : ∀ (ts : List Tr) (ps : List Nat), NAts I w ts ps → ∀ k, NAts I w (ts.take k) (ps.take k)
  | [], ps, h, k => by rw [NAts] at h; subst h; simpa using NAts.nil
  | t :: ts, ps, h, k => by
    rw [NAts] at h
    obtain ⟨p, ps', rfl, h1, h2⟩ := h
    cases k with
    | zero => simpa using NAts.nil
    | succ k => simpa using NAts.cons h1 (NAts.take ts ps' h2 k)
theorem NRow.take {B : Nat} {w : World} {g cap : Nat} {ts : List Tr} (h : NRow B w (.slice (some ⟨g, 0, none⟩) ts.length cap) ts) (k : Nat) (hk : k ≤ ts.length) : NRow B w (.slice (some ⟨g, 0, none⟩) k cap) (ts.take k) := by
  obtain ⟨ps, h1, h2⟩ := h
  have hl := NAts.length _ _ h2
  refine ⟨ps.take k, ?_, NAts.take _ _ h2 k⟩
  have hlk : (ps.take k).length = k := by rw [List.length_take]; omega
  rw [hlk]
  refine ⟨by simp; omega, Or.inr ?_⟩
  rcases h1.2 with hn | ⟨g', cap', cur, hv, hb, hg, hc, hm, hz, hx⟩
  · exact absurd hn.1 (by simp)
  · simp only [Value.slice.injEq, Option.some.injEq, Addr.mk.injEq] at hv
    obtain ⟨⟨rfl, _, _⟩, _, rfl⟩ := hv
    refine ⟨g, cap, cur, rfl, hb, hg, by omega, hm, hz, ?_⟩
    have h3 := congrArg (List.take k) hx
    rw [List.take_take, Nat.min_eq_left (by omega)] at h3
    rw [Nat.mul_one, h3, ← List.map_take]

def txAt (l : List Tr) (i : Nat) : ByteArray := (l.map Tr.tx).getD i noText
theorem txAt_eq (l : List Tr) (i : Nat) (h : i < l.length) : txAt l i = (l[i]).tx := by simp [txAt, List.getD, h]
def repF (l : List Tr) (i : Nat) : Bool := namedB (l.take i) (txAt l i)
def repB (l : List Tr) : Bool := (List.range l.length).any (repF l)

theorem repeated_any (ts : List Tr) (v : Value) (w : World) {B : Nat} (h : NRow B w v ts) (hl : ts.length ≤ 90000) :
    Calls Tryz.prog 248 #[v] w fun e w' => e = .returned (.bool (repB ts)) ∧ Below w.heap.size w w' := by
  obtain ⟨va, vc, rfl⟩ := h.form
  have HR := hide h
  obtain ⟨R, hR⟩ : ∃ R, R = repB ts := ⟨_, rfl⟩
  rw [← hR]
  have HRR := hide hR
  clear h hR
  go_enter Tryz.func248, Tryz.ntmps248
  go_wp2_with fail
  go_loopw [7] (fun i wr => ∃ k : Nat, k ≤ ts.length ∧ i = .int .i64 k ∧ (List.range k).any (repF ts) = false ∧ Below w.heap.size w wr) (fun i _ => ts.length - (intOf i).toNat)
  case atStart => exact ⟨0, Nat.zero_le _, rfl, rfl, Below.refl _ _⟩
  case round =>
    obtain ⟨k, hk, rfl, hns, hb⟩ := hrel
    have HNS := hide hns
    have HB := hide hb
    clear hns hb
    by_cases hlt : k < ts.length
    · obtain ⟨g, cap, q, hv, hg, hc, hn⟩ := ((unhide HR).later (unhide HB)).cell k hlt
      simp only [Value.slice.injEq] at hv
      obtain ⟨rfl, _, rfl⟩ := hv
      have hki : (k : Int) < (ts.length : Int) := by omega
      obtain ⟨hql, _, c1, _⟩ := hn.cells
      rw [← txAt_eq ts k hlt] at c1
      obtain ⟨tx, htx⟩ : ∃ tx, tx = txAt ts k := ⟨_, rfl⟩
      rw [← htx] at c1
      have hS0 : Below wr.heap.size wr wr.drew := (Below.refl _ _).drew
      have HC := hide (named_any (ts.take k) _ tx wr.drew ((((unhide HR).later (unhide HB)).take k hk).later hS0) (by rw [List.length_take]; omega))
      obtain ⟨r, hr⟩ : ∃ r, r = namedB (ts.take k) tx := ⟨_, rfl⟩
      rw [← hr] at HC
      have HRF : Hid (repF ts k = r) := by rw [hr, htx]; rfl
      clear hn htx hr
      have hk64 : (k : Int) ≤ (vc : Int) := by
        obtain ⟨ps, ho, hns⟩ := unhide HR
        have hpl := NAts.length _ _ hns
        rcases ho.2 with hn | ⟨g', cap', cur, hv, _, _, hc', _⟩
        · exact absurd hn.1 (by simp)
        · simp only [Value.slice.injEq] at hv
          omega
      have hvc : vc ≤ maxLen := by
        obtain ⟨ps, ho, hns⟩ := unhide HR
        rcases ho.2 with hn | ⟨g', cap', cur, hv, _, _, hc', hm, _⟩
        · exact absurd hn.1 (by simp)
        · simp only [Value.slice.injEq] at hv
          omega
      go_wp2_with fail
      refine wp_region_held (S := fun X => Below wr.heap.size wr X) (by kernel_rfl) ?_
      change wpAnyH _ _ _ _ _ _ _ _ (World.drew _)
      refine wh 0 (.slice (some ⟨g, 0, none⟩) ts.length vc) hS0 ?_
      refine wh 1 (.int .i64 k) hS0 ?_
      refine wh 3 (nPtr q) hS0 ?_
      refine wh 4 (nPtr q) hS0 ?_
      refine wh 5 (.pointer (some ⟨q, 1, none⟩)) hS0 ?_
      refine wh 6 (.string tx) hS0 ?_ (hy := Or.inl ⟨by kernel_rfl, fun X hX => by have hh := keepC hX c1; go_simp⟩)
      refine wh 2 (.slice (some ⟨g, 0, none⟩) k vc) hS0 ?_
      refine wq1 7 fun K hK => ?_
      go_simp
      refine Calls.mono HC.out ?_
      rintro e w2 ⟨rfl, hb2⟩
      have hS2 : Below wr.heap.size wr w2 := hS0.trans (hb2.mono (Nat.le_refl _))
      refine hK.out _ _ hS2 (fun _ => ?_)
      clear hK K HC
      refine wpAnyH_done (by kernel_rfl) ?_ _
      go_simp
      have HB2 := hide ((unhide HB).trans (hS2.mono (unhide HB).size))
      clear hS2 hS0 hb2
      cases r with
      | true =>
        have hRt : R = true := by
          rw [unhide HRR, repB, List.any_eq_true]
          exact ⟨k, List.mem_range.2 hlt, unhide HRF⟩
        subst hRt
        go_wp2_with fail
        go_ret
        exact ⟨rfl, unhide HB2⟩
      | false =>
        go_wp2_with fail
        go_roundw
        case rel =>
          refine ⟨k + 1, by omega, by go_num, ?_, unhide HB2⟩
          rw [List.range_succ, List.any_append, unhide HNS]
          simp [unhide HRF]
        case measure => simp [intOf]; omega
    · have hkk : k = ts.length := by omega
      subst hkk
      have hRf : R = false := by rw [unhide HRR]; exact unhide HNS
      subst hRf
      go_wp2_with fail
      go_ret
      exact ⟨rfl, unhide HB⟩

def brE (t : Tr) (s : Bool) : Option Int := if (t.kd == 9 && s) || t.kids.any declK then some 1 else none

theorem wrongBranch_any (t : Tr) (p : Nat) (s i b : Bool) (w : World) (h : NTr w t p) (hl : t.kids.length ≤ 90000) : Calls Tryz.prog 207 #[nPtr p, plV s i b] w fun e w' => e = .returned (erV (brE t s)) ∧ Below w.heap.size w w' := by
  obtain ⟨wa, hwa⟩ : ∃ wa, wa = w.alloc (.cells #[.bool s, .bool i, .bool b] 112) := ⟨_, rfl⟩
  have hba : Below w.heap.size w wa := by rw [hwa]; exact (Below.refl _ _).alloc (Nat.le_refl _) _
  obtain ⟨hpl, c0, _, u, c3, hr⟩ := h.cells
  obtain ⟨va, vc, rfl⟩ := hr.form
  have HC := hide (containsF0 252 declK en252 t.kids _ wa (hr.later hba) hl (fun t _ p W _ hn => branch1_any t p W hn))
  have HBA := hide hba
  unfold brE
  clear h hr hba
  generalize t.kids.any declK = r at HC
  generalize t.kids.length = L at c3 HC
  generalize t.kd = kd at c0
  cases h9 : (kd == 9 && s) with
  | true =>
    have h1 : (kd == 9) = true := by cases hh : (kd == 9) <;> simp_all
    have h2 : s = true := by cases s <;> simp_all
    subst h2
    clear h9 HC
    rw [hwa] at HBA
    clear hwa
    go_enter Tryz.func207, Tryz.ntmps207
    go_wp2_with fail
    go_ret
    exact ⟨rfl, unhide HBA⟩
  | false =>
    cases h1 : (kd == 9) with
    | true =>
      have h2 : s = false := by cases s <;> simp_all
      subst h2
      clear h9
      cases r <;>
      · go_enter Tryz.func207, Tryz.ntmps207
        go_wp2_with fail
        rw [← hwa]
        refine Calls.mono HC.out ?_
        rintro e w2 ⟨rfl, hb2⟩
        have HB2 := hide ((unhide HBA).trans (hb2.mono (unhide HBA).size))
        clear HC hb2 hwa
        go_wp2_with fail
        go_ret
        exact ⟨rfl, unhide HB2⟩
    | false =>
      clear h9
      cases r <;>
      · go_enter Tryz.func207, Tryz.ntmps207
        go_wp2_with fail
        rw [← hwa]
        refine Calls.mono HC.out ?_
        rintro e w2 ⟨rfl, hb2⟩
        have HB2 := hide ((unhide HBA).trans (hb2.mono (unhide HBA).size))
        clear HC hb2 hwa
        go_wp2_with fail
        go_ret
        exact ⟨rfl, unhide HB2⟩


theorem nrow_mono {B B' : Nat} {w : World} {v : Value} {ts : List Tr} (h : NRow B w v ts) (hB : B' ≤ B) : NRow B' w v ts := by
  obtain ⟨ps, h1, h2⟩ := h
  refine ⟨ps, ⟨h1.1, ?_⟩, h2⟩
  rcases h1.2 with hn | ⟨g, cap, cur, hv, hb, rest⟩
  · exact Or.inl hn
  · exact Or.inr ⟨g, cap, cur, hv, by omega, rest⟩
def scT (t : Tr) : Bool := repB (letsT t) || (letsT t).any (fun k => namedB (fnsT t) k.tx) || (letsT t).any (fun k => hasB (varsT t) k.tx)
def scU (t : Tr) : Bool := repB (fnsT t) || (fnsT t).any (fun k => hasB (varsT t) k.tx)
def scE (t : Tr) (body : Bool) : Option Int := if scT t || (!body && scU t) then some 9 else none

/-- What wrongScope's three rows and two variables answer. -/
structure ScAt (wA : World) (bV bF : Nat) (LV FV : Value) (r1 a1 a2 r2 a3 : Bool) : Prop where
  cF : wA.cell? ⟨bF, 0, none⟩ = some FV
  hr1 : ∀ W, Below wA.heap.size wA W → Calls Tryz.prog 248 #[LV] W fun e w' => e = .returned (.bool r1) ∧ Below W.heap.size W w'
  ha1 : ∀ W, Below wA.heap.size wA W → Calls Tryz.prog 249 #[LV, .func (.func 246) #[] #[.pointer (some ⟨bF, 0, none⟩)]] W fun e w' => e = .returned (.bool a1) ∧ Below W.heap.size W w'
  ha2 : ∀ W, Below wA.heap.size wA W → Calls Tryz.prog 249 #[LV, .func (.func 245) #[] #[.pointer (some ⟨bV, 0, none⟩)]] W fun e w' => e = .returned (.bool a2) ∧ Below W.heap.size W w'
  hr2 : ∀ W, Below wA.heap.size wA W → Calls Tryz.prog 248 #[FV] W fun e w' => e = .returned (.bool r2) ∧ Below W.heap.size W w'
  ha3 : ∀ W, Below wA.heap.size wA W → Calls Tryz.prog 249 #[FV, .func (.func 245) #[] #[.pointer (some ⟨bV, 0, none⟩)]] W fun e w' => e = .returned (.bool a3) ∧ Below W.heap.size W w'

theorem scAt (t : Tr) (wA : World) (bV bF B : Nat) (va fa la : Option Addr) (vc fc lc : Nat) (hV : SRow B wA (.slice va (varsT t).length vc) (varsT t)) (hF : NRow B wA (.slice fa (fnsT t).length fc) (fnsT t)) (hL : NRow B wA (.slice la (letsT t).length lc) (letsT t))
    (cV : wA.cell? ⟨bV, 0, none⟩ = some (.slice va (varsT t).length vc)) (cF : wA.cell? ⟨bF, 0, none⟩ = some (.slice fa (fnsT t).length fc)) (hv : (varsT t).length ≤ 90000) (hf : (fnsT t).length ≤ 90000) (hl : (letsT t).length ≤ 90000) :
    ScAt wA bV bF (.slice la (letsT t).length lc) (.slice fa (fnsT t).length fc) (repB (letsT t)) ((letsT t).any fun k => namedB (fnsT t) k.tx) ((letsT t).any fun k => hasB (varsT t) k.tx) (repB (fnsT t)) ((fnsT t).any fun k => hasB (varsT t) k.tx) := by
  refine ⟨cF, fun W hW => repeated_any _ _ W (hL.later hW) hl, fun W hW => ?_, fun W hW => ?_, fun W hW => repeated_any _ _ W (hF.later hW) hf, fun W hW => ?_⟩
  · exact containsF1 246 _ (fun k => namedB (fnsT t) k.tx) en246 (letsT t) _ W (hL.later hW) hl (fun k _ p X hX hn => scope2_any k p bF (fnsT t) fa fc X hn (keepC hX (keepC hW cF)) ((hF.later hW).later hX) hf)
  · exact containsF1 245 _ (fun k => hasB (varsT t) k.tx) en245 (letsT t) _ W (hL.later hW) hl (fun k _ p X hX hn => scope1_any k p bV (varsT t) va vc X hn (keepC hX (keepC hW cV)) (SRow.later (SRow.later hV hW) hX) hv)
  · exact containsF1 245 _ (fun k => hasB (varsT t) k.tx) en245 (fnsT t) _ W (hF.later hW) hf (fun k _ p X hX hn => scope1_any k p bV (varsT t) va vc X hn (keepC hX (keepC hW cV)) (SRow.later (SRow.later hV hW) hX) hv)

theorem wrongScope_any (t : Tr) (p : Nat) (body : Bool) (w : World) (h : NTr w t p) (hc : t.count ≤ 20000) : Calls Tryz.prog 203 #[nPtr p, .bool body] w fun e w' => e = .returned (erV (scE t body)) ∧ Below w.heap.size w w' := by
  have htc : t.count = 1 + Tr.counts t.kids := by cases t with | mk kd tx nn ks => exact count_mk _ _ _ _
  have hkl : t.kids.length ≤ 20000 := by have := counts_len t.kids; omega
  have hfl := fns_len t
  have hll := lets_len t
  have hvl := vars_len t
  have hvl2 : (varsT t).length ≤ 20000 := by omega
  have HN0 := hide h
  have HC1 := hide (vars_any t p w h (by omega))
  unfold scE scT scU
  obtain ⟨r1, er1⟩ : ∃ r, r = repB (letsT t) := ⟨_, rfl⟩
  obtain ⟨a1, ea1⟩ : ∃ r, r = (letsT t).any fun k => namedB (fnsT t) k.tx := ⟨_, rfl⟩
  obtain ⟨a2, ea2⟩ : ∃ r, r = (letsT t).any fun k => hasB (varsT t) k.tx := ⟨_, rfl⟩
  obtain ⟨r2, er2⟩ : ∃ r, r = repB (fnsT t) := ⟨_, rfl⟩
  obtain ⟨a3, ea3⟩ : ∃ r, r = (fnsT t).any fun k => hasB (varsT t) k.tx := ⟨_, rfl⟩
  rw [← er1, ← ea1, ← ea2, ← er2, ← ea3]
  have HE1 := hide er1
  have HE2 := hide ea1
  have HE3 := hide ea2
  have HE4 := hide er2
  have HE5 := hide ea3
  clear h htc hvl hc er1 ea1 ea2 er2 ea3
  go_enter Tryz.func203, Tryz.ntmps203
  go_wp2_with fail
  refine Calls.mono HC1.out ?_
  rintro e w1 ⟨⟨u1, rfl, hr1⟩, hb1⟩
  obtain ⟨va, vc, rfl⟩ := srow_form hr1
  have HB1 := hide hb1
  have HV1 := hide hr1
  have HC2 := hide (funcs_any t p w1 ((unhide HN0).later hb1) (by omega))
  clear HC1 hr1 hb1
  go_wp2_with fail
  refine Calls.mono HC2.out ?_
  rintro e w2 ⟨⟨u2, rfl, hr2⟩, hb2⟩
  obtain ⟨fa, fc, rfl⟩ := hr2.form
  have HB2 := hide ((unhide HB1).trans (hb2.mono (unhide HB1).size))
  have HV2 := hide (SRow.later (unhide HV1) hb2)
  have HF2 := hide hr2
  have HC3 := hide (lets_any t p w2 ((unhide HN0).later (unhide HB2)) (by omega))
  clear HC2 hr2 hb2
  go_wp2_with fail
  refine Calls.mono HC3.out ?_
  rintro e w3 ⟨⟨u3, rfl, hr3⟩, hb3⟩
  obtain ⟨la, lc, rfl⟩ := hr3.form
  have HB3 := hide ((unhide HB2).trans (hb3.mono (unhide HB2).size))
  have HV3 := hide (SRow.later (unhide HV2) hb3)
  have HF3 := hide ((unhide HF2).later hb3)
  have HL3 := hide hr3
  clear HC3 hr3 hb3
  go_wp2_with fail
  obtain ⟨wA, hwA⟩ : ∃ wA, wA = (w3.alloc (.cells #[.slice va (varsT t).length vc] 54)).alloc (.cells #[.slice fa (fnsT t).length fc] 36) := ⟨_, rfl⟩
  have hbA : Below w3.heap.size w3 wA := by rw [hwA]; exact ((Below.refl _ _).alloc (Nat.le_refl _) _).alloc (by simp) _
  have hsA : wA.heap.size = w3.heap.size + 2 := by rw [hwA]; simp
  have cV : wA.cell? ⟨w3.heap.size, 0, none⟩ = some (.slice va (varsT t).length vc) := by
    have h1 : wA.heap[w3.heap.size]? = some (.cells #[.slice va (varsT t).length vc] 54 (0, 0)) := by rw [hwA, Below.heap_alloc _ _ _ (by simp), heap_new]
    rw [cell_of h1]; rfl
  have cF : wA.cell? ⟨w3.heap.size + 1, 0, none⟩ = some (.slice fa (fnsT t).length fc) := by
    have h1 : wA.heap[w3.heap.size + 1]? = some (.cells #[.slice fa (fnsT t).length fc] 36 (0, 0)) := by
      have h2 := heap_new (w3.alloc (.cells #[.slice va (varsT t).length vc] 54)) (.cells #[.slice fa (fnsT t).length fc] 36)
      rw [hwA]
      simpa using h2
    rw [cell_of h1]; rfl
  have SC := hide (scAt t wA w3.heap.size (w3.heap.size + 1) 0 va fa la vc fc lc (srow_mono (SRow.later (unhide HV3) hbA) (Nat.zero_le _)) (nrow_mono ((unhide HF3).later hbA) (Nat.zero_le _)) (nrow_mono ((unhide HL3).later hbA) (Nat.zero_le _)) cV cF (by omega) (by omega) (by omega))
  rw [← unhide HE1, ← unhide HE2, ← unhide HE3, ← unhide HE4, ← unhide HE5] at SC
  have HS0 : Hid (Below wA.heap.size wA wA) := Below.refl _ _
  have HBA := hide ((unhide HB3).trans (hbA.mono (unhide HB3).size))
  rw [← hwA]
  clear HE1 HE2 HE3 HE4 HE5 HV3 HF3 HL3 HV2 HF2 HV1 HB1 HB2 HB3 HN0 hbA cV hwA
  generalize (letsT t).length = ll at SC hll
  generalize (fnsT t).length = fl at SC hfl cF
  generalize (varsT t).length = vl at hvl2
  cases body with
  | true =>
    cases r1 with
    | true =>
      refine Calls.mono ((unhide SC).hr1 _ (unhide HS0)) ?_
      rintro e x1 ⟨rfl, hq1⟩
      have HS1 : Hid (Below wA.heap.size wA x1) := (unhide HS0).trans (hq1.mono (unhide HS0).size)
      clear hq1
      go_wp2_with fail
      go_ret
      exact ⟨rfl, (unhide HBA).trans ((unhide HS1).mono (unhide HBA).size)⟩
    | false =>
      refine Calls.mono ((unhide SC).hr1 _ (unhide HS0)) ?_
      rintro e x1 ⟨rfl, hq1⟩
      have HS1 : Hid (Below wA.heap.size wA x1) := (unhide HS0).trans (hq1.mono (unhide HS0).size)
      clear hq1
      go_wp2_with fail
      cases a1 with
      | true =>
        refine Calls.mono ((unhide SC).ha1 _ (unhide HS1)) ?_
        rintro e x2 ⟨rfl, hq2⟩
        have HS2 : Hid (Below wA.heap.size wA x2) := (unhide HS1).trans (hq2.mono (unhide HS1).size)
        clear hq2
        go_wp2_with fail
        go_ret
        exact ⟨rfl, (unhide HBA).trans ((unhide HS2).mono (unhide HBA).size)⟩
      | false =>
        refine Calls.mono ((unhide SC).ha1 _ (unhide HS1)) ?_
        rintro e x2 ⟨rfl, hq2⟩
        have HS2 : Hid (Below wA.heap.size wA x2) := (unhide HS1).trans (hq2.mono (unhide HS1).size)
        clear hq2
        go_wp2_with fail
        cases a2 with
        | true =>
          refine Calls.mono ((unhide SC).ha2 _ (unhide HS2)) ?_
          rintro e x3 ⟨rfl, hq3⟩
          have HS3 : Hid (Below wA.heap.size wA x3) := (unhide HS2).trans (hq3.mono (unhide HS2).size)
          clear hq3
          go_wp2_with fail
          go_ret
          exact ⟨rfl, (unhide HBA).trans ((unhide HS3).mono (unhide HBA).size)⟩
        | false =>
          refine Calls.mono ((unhide SC).ha2 _ (unhide HS2)) ?_
          rintro e x3 ⟨rfl, hq3⟩
          have HS3 : Hid (Below wA.heap.size wA x3) := (unhide HS2).trans (hq3.mono (unhide HS2).size)
          clear hq3
          go_wp2_with fail
          go_ret
          exact ⟨rfl, (unhide HBA).trans ((unhide HS3).mono (unhide HBA).size)⟩
  | false =>
    cases r1 with
    | true =>
      refine Calls.mono ((unhide SC).hr1 _ (unhide HS0)) ?_
      rintro e x1 ⟨rfl, hq1⟩
      have HS1 : Hid (Below wA.heap.size wA x1) := (unhide HS0).trans (hq1.mono (unhide HS0).size)
      clear hq1
      go_wp2_with fail
      go_ret
      exact ⟨rfl, (unhide HBA).trans ((unhide HS1).mono (unhide HBA).size)⟩
    | false =>
      refine Calls.mono ((unhide SC).hr1 _ (unhide HS0)) ?_
      rintro e x1 ⟨rfl, hq1⟩
      have HS1 : Hid (Below wA.heap.size wA x1) := (unhide HS0).trans (hq1.mono (unhide HS0).size)
      clear hq1
      go_wp2_with fail
      cases a1 with
      | true =>
        refine Calls.mono ((unhide SC).ha1 _ (unhide HS1)) ?_
        rintro e x2 ⟨rfl, hq2⟩
        have HS2 : Hid (Below wA.heap.size wA x2) := (unhide HS1).trans (hq2.mono (unhide HS1).size)
        clear hq2
        go_wp2_with fail
        go_ret
        exact ⟨rfl, (unhide HBA).trans ((unhide HS2).mono (unhide HBA).size)⟩
      | false =>
        refine Calls.mono ((unhide SC).ha1 _ (unhide HS1)) ?_
        rintro e x2 ⟨rfl, hq2⟩
        have HS2 : Hid (Below wA.heap.size wA x2) := (unhide HS1).trans (hq2.mono (unhide HS1).size)
        clear hq2
        go_wp2_with fail
        cases a2 with
        | true =>
          refine Calls.mono ((unhide SC).ha2 _ (unhide HS2)) ?_
          rintro e x3 ⟨rfl, hq3⟩
          have HS3 : Hid (Below wA.heap.size wA x3) := (unhide HS2).trans (hq3.mono (unhide HS2).size)
          clear hq3
          go_wp2_with fail
          go_ret
          exact ⟨rfl, (unhide HBA).trans ((unhide HS3).mono (unhide HBA).size)⟩
        | false =>
          refine Calls.mono ((unhide SC).ha2 _ (unhide HS2)) ?_
          rintro e x3 ⟨rfl, hq3⟩
          have HS3 : Hid (Below wA.heap.size wA x3) := (unhide HS2).trans (hq3.mono (unhide HS2).size)
          have hF3 := keepC (unhide HS3) cF
          have hFl3 := cell_lt hF3
          clear hq3
          go_wp2_with fail
          cases r2 with
          | true =>
            refine Calls.mono ((unhide SC).hr2 _ (unhide HS3)) ?_
            rintro e x4 ⟨rfl, hq4⟩
            have HS4 : Hid (Below wA.heap.size wA x4) := (unhide HS3).trans (hq4.mono (unhide HS3).size)
            clear hq4
            go_wp2_with fail
            go_ret
            exact ⟨rfl, (unhide HBA).trans ((unhide HS4).mono (unhide HBA).size)⟩
          | false =>
            refine Calls.mono ((unhide SC).hr2 _ (unhide HS3)) ?_
            rintro e x4 ⟨rfl, hq4⟩
            have HS4 : Hid (Below wA.heap.size wA x4) := (unhide HS3).trans (hq4.mono (unhide HS3).size)
            have hF4 := keepC (unhide HS4) cF
            have hFl4 := cell_lt hF4
            clear hq4
            go_wp2_with fail
            cases a3 with
            | true =>
              refine Calls.mono ((unhide SC).ha3 _ (unhide HS4)) ?_
              rintro e x5 ⟨rfl, hq5⟩
              have HS5 : Hid (Below wA.heap.size wA x5) := (unhide HS4).trans (hq5.mono (unhide HS4).size)
              clear hq5
              go_wp2_with fail
              go_ret
              exact ⟨rfl, (unhide HBA).trans ((unhide HS5).mono (unhide HBA).size)⟩
            | false =>
              refine Calls.mono ((unhide SC).ha3 _ (unhide HS4)) ?_
              rintro e x5 ⟨rfl, hq5⟩
              have HS5 : Hid (Below wA.heap.size wA x5) := (unhide HS4).trans (hq5.mono (unhide HS4).size)
              clear hq5
              go_wp2_with fail
              go_ret
              exact ⟨rfl, (unhide HBA).trans ((unhide HS5).mono (unhide HBA).size)⟩

def catchE (t : Tr) (s : Bool) : Option Int := match nmE s t.tx with
  | some e => some e
  | none => if hasB (namesT (kidT t 0) false) t.tx then some 9 else none
/-- A place in its block. -/
structure PlAt (b : Nat) (s i d : Bool) (w : World) : Prop where
  c0 : w.cell? ⟨b, 0, none⟩ = some (.bool s)
  c1 : w.cell? ⟨b, 1, none⟩ = some (.bool i)
  c2 : w.cell? ⟨b, 2, none⟩ = some (.bool d)
theorem PlAt.new (w : World) (s i d : Bool) : PlAt w.heap.size s i d (w.alloc (.cells #[.bool s, .bool i, .bool d] 112)) :=
  ⟨by rw [cell_of (heap_new _ _)]; rfl, by rw [cell_of (heap_new _ _)]; rfl, by rw [cell_of (heap_new _ _)]; rfl⟩
theorem PlAt.later {b : Nat} {s i d : Bool} {w X : World} (h : PlAt b s i d w) (hb : Below w.heap.size w X) : PlAt b s i d X := ⟨keepC hb h.c0, keepC hb h.c1, keepC hb h.c2⟩

theorem wrongCatch_any (t : Tr) (p : Nat) (s i b : Bool) (w : World) (h : NTr w t p) (hk : 1 ≤ t.kids.length) (hc : t.count ≤ 20000) : Calls Tryz.prog 206 #[nPtr p, plV s i b] w fun e w' => e = .returned (erV (catchE t s)) ∧ Below w.heap.size w w' := by
  have htc : t.count = 1 + Tr.counts t.kids := by cases t with | mk kd tx nn ks => exact count_mk _ _ _ _
  have hkl : t.kids.length ≤ 20000 := by have := counts_len t.kids; omega
  obtain ⟨wa, hwa⟩ : ∃ wa, wa = w.alloc (.cells #[.bool s, .bool i, .bool b] 112) := ⟨_, rfl⟩
  have hba : Below w.heap.size w wa := by rw [hwa]; exact (Below.refl _ _).alloc (Nat.le_refl _) _
  have hpa : PlAt w.heap.size s i b wa := by rw [hwa]; exact PlAt.new _ _ _ _
  obtain ⟨hpl, _, c1, u, c3, hr⟩ := (h.later hba).cells
  obtain ⟨g, cap, q, rfl, hg, hcq, hn⟩ := hr.cell 0 (by omega)
  rw [← kidT_eq t 0 (by omega)] at hn
  have hqc : (kidT t 0).count ≤ 20000 := by
    rw [kidT_eq t 0 (by omega)]
    have := counts_le t.kids 0 (by omega)
    omega
  have hbl := cell_lt hpa.c0
  have HPA := hide hpa
  have HNQ := hide hn
  have HBA := hide hba
  unfold catchE
  have HNM := hide (fun W => wrongName_any s i b t.tx W)
  have HNS : Hid (∀ W, Below wa.heap.size wa W → Calls Tryz.prog 35 #[nPtr q, .bool false] W fun e w' => (∃ u, e = .returned u ∧ SRow W.heap.size w' u (namesT (kidT t 0) false)) ∧ Below W.heap.size W w') := fun W hW => names_any (kidT t 0) q false W (hn.later hW) hqc
  have HNL : Hid ((namesT (kidT t 0) false).length ≤ 90000) := by
    have h0 : (kidT t 0).count = 1 + Tr.counts (kidT t 0).kids := by cases (kidT t 0) with | mk kd tx nn ks => exact count_mk _ _ _ _
    have h1 := counts_len (kidT t 0).kids
    have h2 := once_len ([] ++ (fnsT (kidT t 0)).map Tr.tx ++ (letsT (kidT t 0)).map Tr.tx)
    have h3 := fns_len (kidT t 0)
    have h4 := lets_len (kidT t 0)
    show (namesT (kidT t 0) false).length ≤ _
    unfold namesT
    simp only [Bool.false_eq_true, if_false]
    simp only [List.length_append, List.length_map, List.length_nil] at h2
    omega
  generalize namesT (kidT t 0) false = ns at HNS HNL
  generalize t.tx = tx at c1 HNM
  generalize t.kids.length = L at c3 hk hkl
  generalize nmE s tx = er at HNM
  obtain ⟨r, hrr⟩ : ∃ r, r = hasB ns tx := ⟨_, rfl⟩
  rw [← hrr]
  have HRR := hide hrr
  clear h hr hn hba hpa htc hc hqc hrr
  go_enter Tryz.func206, Tryz.ntmps206
  go_wp2_with fail
  rw [← hwa]
  have hS0 : Below wa.heap.size wa wa.drew := (Below.refl _ _).drew
  refine wp_region_held (S := fun X => Below wa.heap.size wa X) (by kernel_rfl) ?_
  change wpAnyH _ _ _ _ _ _ _ _ (World.drew _)
  refine wh 0 (nPtr p) hS0 ?_
  refine wh 1 (nPtr p) hS0 ?_
  refine wh 2 (.pointer (some ⟨p, 1, none⟩)) hS0 ?_
  refine wh 3 (.string tx) hS0 ?_ (hy := Or.inl ⟨by kernel_rfl, fun X hX => by have hh := keepC hX c1; go_simp⟩)
  refine wh 4 (plV s i b) hS0 ?_ (hy := Or.inl ⟨by kernel_rfl, fun X hX => by
    have hh := PlAt.later (unhide HPA) hX
    have h0 := hh.c0
    have h1 := hh.c1
    have h2 := hh.c2
    clear hh
    go_simp⟩)
  refine wq1 5 fun K hK => ?_
  go_simp
  refine Calls.mono ((unhide HNM) _) ?_
  rintro e w2 ⟨rfl, hb2⟩
  rw [← hwa] at hb2
  have hS2 : Below wa.heap.size wa w2 := hS0.trans (hb2.mono (Nat.le_refl _))
  refine hK.out _ _ hS2 (fun _ => ?_)
  clear hK K
  refine wh 6 (erV er) hS2 ?_
  refine wpAnyH_done (by kernel_rfl) ?_ _
  go_simp
  have HS2 := hide hS2
  clear hb2 hS2 hS0
  cases er with
  | some e =>
    unfold erV
    go_wp2_with fail
    go_ret
    exact ⟨rfl, (unhide HBA).trans ((unhide HS2).mono (unhide HBA).size)⟩
  | none =>
    unfold erV
    have d1 := keepC (unhide HS2) c1
    have d3 := keepC (unhide HS2) c3
    have dq := keepC (unhide HS2) hcq
    have hpl2 : p < w2.heap.size := cell_lt d1
    have hgl2 : g < w2.heap.size := cell_lt dq
    have hL0' : ¬ L = 0 := by omega
    go_wp2_with fail
    have hS0 : Below w2.heap.size w2 w2.drew := (Below.refl _ _).drew
    refine wp_region_held (S := fun X => Below w2.heap.size w2 X) (by kernel_rfl) ?_
    change wpAnyH _ _ _ _ _ _ _ _ (World.drew _)
    refine wh 0 (nPtr p) hS0 ?_
    refine wh 1 (nPtr p) hS0 ?_
    refine wh 2 (.pointer (some ⟨p, 3, none⟩)) hS0 ?_
    refine wh 3 (.slice (some ⟨g, 0, none⟩) L cap) hS0 ?_ (hy := Or.inl ⟨by kernel_rfl, fun X hX => by have hh := keepC hX d3; go_simp⟩)
    refine wh 4 (.pointer (some ⟨g, 0, none⟩)) hS0 ?_ (hy := Or.inl ⟨by kernel_rfl, fun X hX => by have hL0 := hL0'; go_simp⟩)
    refine wh 5 (nPtr q) hS0 ?_ (hy := Or.inl ⟨by kernel_rfl, fun X hX => by have hh := keepC hX dq; go_simp⟩)
    refine wh 7 (nPtr p) hS0 ?_
    refine wh 8 (nPtr p) hS0 ?_
    refine wh 9 (.pointer (some ⟨p, 1, none⟩)) hS0 ?_
    refine wh 10 (.string tx) hS0 ?_ (hy := Or.inl ⟨by kernel_rfl, fun X hX => by have hh := keepC hX d1; go_simp⟩)
    refine wq1 6 fun K hK => ?_
    go_simp
    refine Calls.mono ((unhide HNS) _ ((unhide HS2).trans (hS0.mono (unhide HS2).size))) ?_
    rintro e w3 ⟨⟨u3, rfl, hr3⟩, hb3⟩
    obtain ⟨a3, c3', rfl⟩ := srow_form hr3
    have hS3 : Below w2.heap.size w2 w3 := hS0.trans (hb3.mono (Nat.le_refl _))
    refine hK.out _ _ hS3 (fun _ => ?_)
    clear hK K
    have HC := hide (contains_any ns tx _ w3 hr3 (by have := unhide HNL; omega))
    rw [← unhide HRR] at HC
    clear hr3
    refine wq1 11 fun K hK => ?_
    go_simp
    refine Calls.mono HC.out ?_
    rintro e w4 ⟨rfl, rfl⟩
    refine hK.out _ _ hS3 (fun _ => ?_)
    clear hK K HC
    refine wpAnyH_done (by kernel_rfl) ?_ _
    go_simp
    have HS3 := hide ((unhide HS2).trans (hS3.mono (unhide HS2).size))
    clear hb3 hS3 hS0
    clear HRR
    cases r <;>
    · go_wp2_with fail
      go_ret
      exact ⟨rfl, (unhide HBA).trans ((unhide HS3).mono (unhide HBA).size)⟩
end Go.Proofs.YtodmgaikhbmlnaaGreatDoor
