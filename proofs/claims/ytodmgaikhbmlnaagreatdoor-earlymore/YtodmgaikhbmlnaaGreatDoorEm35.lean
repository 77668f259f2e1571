/-
  check: what is wrong first with a node, or within it.
-/
import Derived.Test.YtodmgaikhbmlnaaGreatDoorEm34
set_option maxRecDepth 100000
set_option maxHeartbeats 16000000
namespace Go.Proofs.YtodmgaikhbmlnaaGreatDoor
open Go.RowKit

def s2 (t : Tr) (s : Bool) : Bool := if isFunT t then (s || strictT t) || strictT (kidT t 1) else s || strictT t
def i2 (t : Tr) (i : Bool) : Bool := if isFunT t then true else i
mutual
def chk : Tr → Bool → Bool → Bool → Option Int
  | .mk kd tx n ks, s, i, b => match wrT (.mk kd tx n ks) (s2 (.mk kd tx n ks) s) (i2 (.mk kd tx n ks) i) b with
    | some e => some e
    | none => chks ks (s2 (.mk kd tx n ks) s) (i2 (.mk kd tx n ks) i) (isFunT (.mk kd tx n ks))
def chks : List Tr → Bool → Bool → Bool → Option Int
  | [], _, _, _ => none
  | t :: ts, s, i, b => match chk t s i b with
    | some e => some e
    | none => chks ts s i b
end
theorem chk_eq (t : Tr) (s i b : Bool) : chk t s i b = match wrT t (s2 t s) (i2 t i) b with
    | some e => some e
    | none => chks t.kids (s2 t s) (i2 t i) (isFunT t) := by
  cases t with
  | mk kd tx n ks => rw [chk]; rfl
theorem chks_none : ∀ (ts : List Tr) (s i b : Bool) (k : Nat) (hk : k < ts.length), chks (ts.take k) s i b = none → chk ts[k] s i b = none → chks (ts.take (k + 1)) s i b = none
  | [], _, _, _, k, hk => absurd hk (by simp)
  | t :: ts, s, i, b, 0, _ => fun _ h => by
    rw [List.take_succ_cons, List.take_zero, chks]
    rw [show chk t s i b = none from h]
    rw [chks]
  | t :: ts, s, i, b, k + 1, hk => fun h1 h2 => by
    rw [List.take_succ_cons, chks] at h1 ⊢
    cases h : chk t s i b with
    | some e => rw [h] at h1; cases h1
    | none =>
      rw [h] at h1
      exact chks_none ts s i b k (by simpa using hk) h1 h2
theorem chks_hit : ∀ (ts : List Tr) (s i b : Bool) (k : Nat) (hk : k < ts.length) (e : Int), chks (ts.take k) s i b = none → chk ts[k] s i b = some e → chks ts s i b = some e
  | [], _, _, _, k, hk, _ => absurd hk (by simp)
  | t :: ts, s, i, b, 0, _, e => fun _ h => by
    rw [chks, show chk t s i b = some e from h]
  | t :: ts, s, i, b, k + 1, hk, e => fun h1 h2 => by
    rw [List.take_succ_cons, chks] at h1
    rw [chks]
    cases h : chk t s i b with
    | some e => rw [h] at h1; cases h1
    | none =>
      rw [h] at h1
      exact chks_hit ts s i b k (by simpa using hk) e h1 h2

abbrev PlB (b : Nat) (s i d : Bool) (w : World) : Prop := w.heap[b]? = some (.cells #[.bool s, .bool i, .bool d] 112 (0, 0))
theorem PlB.at {b : Nat} {s i d : Bool} {w : World} (h : PlB b s i d w) : PlAt b s i d w := ⟨by rw [cell_of h]; rfl, by rw [cell_of h]; rfl, by rw [cell_of h]; rfl⟩

/-- What check does with a node, given what it does with smaller ones. -/
def ChkAt (m : Nat) : Prop := ∀ (t : Tr), t.count ≤ m → t.ill = 0 → t.count ≤ 20000 → ∀ (p : Nat) (s i b : Bool) (w : World), NTr w t p →
    Calls Tryz.prog 87 #[nPtr p, plV s i b] w fun e w' => e = .returned (erV (chk t s i b)) ∧ Below w.heap.size w w'

section
variable {m : Nat} (ih : ChkAt m) (t : Tr) (ht : t.count ≤ m + 1) (hill : t.ill = 0) (hc : t.count ≤ 20000) (p : Nat) (i b : Bool) (w : World) (h : NTr w t p)
include ih ht hill hc h

theorem chkTN (hfu : isFunT t = false) : Calls Tryz.prog 87 #[nPtr p, plV true i b] w fun e w' => e = .returned (erV (chk t true i b)) ∧ Below w.heap.size w w' := by
  have htc : t.count = 1 + Tr.counts t.kids := by cases t with | mk kd tx nn ks => exact count_mk _ _ _ _
  have hkl : t.kids.length ≤ 20000 := by have := counts_len t.kids; omega
  obtain ⟨hneed, hills⟩ := ill_of t hill
  have hs2 : s2 t true = true := by unfold s2; rw [hfu]; simp []
  have hi2 : i2 t i = i := by unfold i2; rw [hfu]; rfl
  have hce := chk_eq t true i b
  rw [hs2, hi2, hfu] at hce
  have hnb : ∀ W, Below w.heap.size w W → NTr W t p := fun W hW => h.later hW
  have HNB := hide hnb
  have HWR := hide (fun W (hW : Below w.heap.size w W) => wrong_any t p true i b W (hnb W hW) hc hneed)
  have HFU : Hid (∀ W, Below w.heap.size w W → Calls Tryz.prog 141 #[nPtr p] W fun e w' => e = .returned (.bool false) ∧ w' = W) := fun W hW => by
    have := isFunE_any t p W (hnb W hW)
    rw [hfu] at this
    exact this
  have HST := hide (fun W (hW : Below w.heap.size w W) => strictE_any t p W (hnb W hW))
  have HBK : Hid (isFunT t = true → ∀ W, Below w.heap.size w W → Calls Tryz.prog 142 #[nPtr p] W fun e w' => (∃ q, e = .returned (nPtr q) ∧ NTr W (kidT t 1) q) ∧ w' = W) := fun hf W hW => blockE_any t p W (hnb W hW) (by
    have : need t.kd = 2 := by
      unfold isFunT at hf
      unfold need
      rw [if_pos (by simpa using hf)]
    omega) (by omega)
  have HSQ := hide (fun (q : Nat) (W : World) (hq : NTr W (kidT t 1) q) => strictE_any (kidT t 1) q W hq)
  have HIH : Hid (∀ (k : Nat) (hk : k < t.kids.length) (q : Nat) (W : World), NTr W t.kids[k] q → Calls Tryz.prog 87 #[nPtr q, plV true i false] W fun e w' => e = .returned (erV (chk t.kids[k] true i false)) ∧ Below W.heap.size W w') := fun k hk q W hq => by
    have h1 := counts_le t.kids k hk
    exact ih t.kids[k] (by omega) (hills _ (List.getElem_mem _)) (by omega) q true i false W hq
  obtain ⟨er, her⟩ : ∃ er, er = wrT t true i b := ⟨_, rfl⟩
  obtain ⟨ce, hcs⟩ : ∃ ce, ce = chks t.kids true i false := ⟨_, rfl⟩
  rw [← her, ← hcs] at hce
  simp only [← her] at HWR
  rw [hce]
  have HCE := hide hcs
  have HBA := hide ((Below.refl w.heap.size w).alloc (Nat.le_refl _) (.cells #[.bool true, .bool i, .bool b] 112))
  clear ih ht hill hc h htc hneed hills hs2 hi2 hnb her hcs hce
  go_enter Tryz.func87, Tryz.ntmps87
  go_wp2_with fail
  refine Calls.mono (unhide HFU _ ((Below.refl w.heap.size w).alloc (Nat.le_refl _) _)) ?_
  rintro e x1 ⟨rfl, rfl⟩
  go_wp2_with fail
  obtain ⟨wB, hwB⟩ : ∃ wB, wB = w.alloc (.cells #[.bool true, .bool i, .bool b] 112) := ⟨_, rfl⟩
  have HBB : Hid (Below w.heap.size w wB) := by rw [hwB]; exact (Below.refl _ _).alloc (Nat.le_refl _) _
  have HPB : Hid (PlB w.heap.size true i b wB) := by rw [hwB]; exact heap_new _ _
  have HC := hide (unhide HWR wB (unhide HBB))
  rw [← hwB]
  refine Calls.mono HC.out ?_
  rintro e x2 ⟨rfl, hq2⟩
  have hpb2 : PlB w.heap.size true i b x2 := (hq2.block w.heap.size (lt_of_heap (unhide HPB))).trans (unhide HPB)
  have HPB2 := hide hpb2
  have HB2 := hide ((unhide HBB).trans (hq2.mono (unhide HBB).size))
  clear HC hq2 hwB HWR hpb2
  cases er with
  | some e =>
    unfold erV
    go_wp2_with fail
    go_ret
    exact ⟨rfl, unhide HB2⟩
  | none =>
    unfold erV
    have HC2 := hide (unhide HFU x2 (unhide HB2))
    have d2 := (unhide HPB2).at.c2
    have df := frozen_of (unhide HPB2) 2
    have dl := lt_of_heap (unhide HPB2)
    go_wp2_with fail
    refine Calls.mono HC2.out ?_
    rintro e x3 ⟨rfl, rfl⟩
    obtain ⟨x4, hx4⟩ : ∃ x4, x4 = x3.setCell ⟨w.heap.size, 2, none⟩ (.bool false) := ⟨_, rfl⟩
    have hpb4 : PlB w.heap.size true i false x4 := by rw [hx4, PlB, heap_set (unhide HPB2)]; rfl
    have hb4 : Below w.heap.size w x4 := by
      have h1 := unhide HB2
      rw [hx4]
      refine ⟨h1.os, h1.tape, h1.output, by simpa using h1.size, fun k hk => ?_⟩
      rw [Below.heap_setCell x3 ⟨w.heap.size, 2, none⟩ _ k (by show k ≠ w.heap.size; omega)]
      exact h1.block k hk
    have hn4 : NTr x4 t p := unhide HNB x4 hb4
    obtain ⟨hpl4, _, _, u4, c34, hr4⟩ := hn4.cells
    obtain ⟨ua, uc, rfl⟩ := hr4.form
    have HR4 := hide hr4
    have HB4 := hide hb4
    have HPB4 := hide hpb4
    have e34 : (x3.setCell ⟨w.heap.size, 2, none⟩ (.bool false)).cell? ⟨p, 3, none⟩ = some (.slice ua t.kids.length uc) := by rw [← hx4]; exact c34
    have hpl3 : p < x3.heap.size := by rw [hx4] at hpl4; simpa using hpl4
    clear HC2 hpb4 hb4 hn4 hr4 HPB2 c34
    go_wp2_with fail
    rw [← hx4]
    clear hx4 d2 df dl e34 hpl3
    go_loopw [41] (fun j wr => ∃ k : Nat, k ≤ t.kids.length ∧ j = .int .i64 k ∧ chks (t.kids.take k) true i false = none ∧ Below x4.heap.size x4 wr) (fun j _ => t.kids.length - (intOf j).toNat)
    case atStart => exact ⟨0, Nat.zero_le _, rfl, by rw [List.take_zero, chks], Below.refl _ _⟩
    case round =>
      obtain ⟨k, hk, rfl, hns, hb⟩ := hrel
      have HNS := hide hns
      have HB := hide hb
      clear hns hb
      by_cases hlt : k < t.kids.length
      · obtain ⟨g, cap, q, hv, hg, hcc, hn⟩ := ((unhide HR4).later (unhide HB)).cell k hlt
        simp only [Value.slice.injEq] at hv
        obtain ⟨rfl, _, rfl⟩ := hv
        have hki : (k : Int) < (t.kids.length : Int) := by omega
        have hpw : PlB w.heap.size true i false wr := ((unhide HB).block w.heap.size (lt_of_heap (unhide HPB4))).trans (unhide HPB4)
        have h0 := hpw.at.c0
        have h1 := hpw.at.c1
        have h2 := hpw.at.c2
        have hwl := lt_of_heap hpw
        have HC := hide (unhide HIH k hlt q wr hn)
        have HX1 := hide (fun e => chks_hit t.kids true i false k hlt e (unhide HNS))
        have HX2 := hide (chks_none t.kids true i false k hlt (unhide HNS))
        generalize chk t.kids[k] true i false = r at HC HX1 HX2
        clear hn hpw
        go_wp2_with fail
        refine Calls.mono HC.out ?_
        rintro e x5 ⟨rfl, hq5⟩
        have HB5 := hide ((unhide HB).trans (hq5.mono (unhide HB).size))
        clear HC hq5
        cases r with
        | some e =>
          have hcc : ce = some e := by rw [unhide HCE]; exact unhide HX1 e rfl
          subst hcc
          unfold erV
          go_wp2_with fail
          go_ret
          exact ⟨rfl, (unhide HB4).trans ((unhide HB5).mono (unhide HB4).size)⟩
        | none =>
          unfold erV
          go_wp2_with fail
          go_roundw
          case rel => exact ⟨k + 1, by omega, by go_num, unhide HX2 trivial, unhide HB5⟩
          case measure => simp [intOf]; omega
      · have hkk : k = t.kids.length := by omega
        subst hkk
        have hcn : ce = none := by
          have h1 := unhide HNS
          rw [List.take_length] at h1
          rw [unhide HCE]; exact h1
        subst hcn
        go_wp2_with fail
        go_ret
        exact ⟨rfl, (unhide HB4).trans ((unhide HB).mono (unhide HB4).size)⟩

theorem chkTF (hfu : isFunT t = true) : Calls Tryz.prog 87 #[nPtr p, plV true i b] w fun e w' => e = .returned (erV (chk t true i b)) ∧ Below w.heap.size w w' := by
  have htc : t.count = 1 + Tr.counts t.kids := by cases t with | mk kd tx nn ks => exact count_mk _ _ _ _
  have hkl : t.kids.length ≤ 20000 := by have := counts_len t.kids; omega
  obtain ⟨hneed, hills⟩ := ill_of t hill
  have hs2 : s2 t true = true := by unfold s2; rw [hfu]; simp []
  have hi2 : i2 t i = true := by unfold i2; rw [hfu]; rfl
  have hce := chk_eq t true i b
  rw [hs2, hi2, hfu] at hce
  have hnb : ∀ W, Below w.heap.size w W → NTr W t p := fun W hW => h.later hW
  have HNB := hide hnb
  have HWR := hide (fun W (hW : Below w.heap.size w W) => wrong_any t p true true b W (hnb W hW) hc hneed)
  have HFU : Hid (∀ W, Below w.heap.size w W → Calls Tryz.prog 141 #[nPtr p] W fun e w' => e = .returned (.bool true) ∧ w' = W) := fun W hW => by
    have := isFunE_any t p W (hnb W hW)
    rw [hfu] at this
    exact this
  have HST := hide (fun W (hW : Below w.heap.size w W) => strictE_any t p W (hnb W hW))
  have HBK : Hid (isFunT t = true → ∀ W, Below w.heap.size w W → Calls Tryz.prog 142 #[nPtr p] W fun e w' => (∃ q, e = .returned (nPtr q) ∧ NTr W (kidT t 1) q) ∧ w' = W) := fun hf W hW => blockE_any t p W (hnb W hW) (by
    have : need t.kd = 2 := by
      unfold isFunT at hf
      unfold need
      rw [if_pos (by simpa using hf)]
    omega) (by omega)
  have HSQ := hide (fun (q : Nat) (W : World) (hq : NTr W (kidT t 1) q) => strictE_any (kidT t 1) q W hq)
  have HIH : Hid (∀ (k : Nat) (hk : k < t.kids.length) (q : Nat) (W : World), NTr W t.kids[k] q → Calls Tryz.prog 87 #[nPtr q, plV true true true] W fun e w' => e = .returned (erV (chk t.kids[k] true true true)) ∧ Below W.heap.size W w') := fun k hk q W hq => by
    have h1 := counts_le t.kids k hk
    exact ih t.kids[k] (by omega) (hills _ (List.getElem_mem _)) (by omega) q true true true W hq
  obtain ⟨er, her⟩ : ∃ er, er = wrT t true true b := ⟨_, rfl⟩
  obtain ⟨ce, hcs⟩ : ∃ ce, ce = chks t.kids true true true := ⟨_, rfl⟩
  rw [← her, ← hcs] at hce
  simp only [← her] at HWR
  rw [hce]
  have HCE := hide hcs
  have HBA := hide ((Below.refl w.heap.size w).alloc (Nat.le_refl _) (.cells #[.bool true, .bool i, .bool b] 112))
  clear ih ht hill hc h htc hneed hills hs2 hi2 hnb her hcs hce
  go_enter Tryz.func87, Tryz.ntmps87
  go_wp2_with fail
  refine Calls.mono (unhide HFU _ ((Below.refl w.heap.size w).alloc (Nat.le_refl _) _)) ?_
  rintro e x1 ⟨rfl, rfl⟩
  go_wp2_with fail
  obtain ⟨wB, hwB⟩ : ∃ wB, wB = w.alloc (.cells #[.bool true, .bool true, .bool b] 112) := ⟨_, rfl⟩
  have HBB : Hid (Below w.heap.size w wB) := by rw [hwB]; exact (Below.refl _ _).alloc (Nat.le_refl _) _
  have HPB : Hid (PlB w.heap.size true true b wB) := by rw [hwB]; exact heap_new _ _
  have HC := hide (unhide HWR wB (unhide HBB))
  rw [← hwB]
  refine Calls.mono HC.out ?_
  rintro e x2 ⟨rfl, hq2⟩
  have hpb2 : PlB w.heap.size true true b x2 := (hq2.block w.heap.size (lt_of_heap (unhide HPB))).trans (unhide HPB)
  have HPB2 := hide hpb2
  have HB2 := hide ((unhide HBB).trans (hq2.mono (unhide HBB).size))
  clear HC hq2 hwB HWR hpb2
  cases er with
  | some e =>
    unfold erV
    go_wp2_with fail
    go_ret
    exact ⟨rfl, unhide HB2⟩
  | none =>
    unfold erV
    have HC2 := hide (unhide HFU x2 (unhide HB2))
    have d2 := (unhide HPB2).at.c2
    have df := frozen_of (unhide HPB2) 2
    have dl := lt_of_heap (unhide HPB2)
    go_wp2_with fail
    refine Calls.mono HC2.out ?_
    rintro e x3 ⟨rfl, rfl⟩
    obtain ⟨x4, hx4⟩ : ∃ x4, x4 = x3.setCell ⟨w.heap.size, 2, none⟩ (.bool true) := ⟨_, rfl⟩
    have hpb4 : PlB w.heap.size true true true x4 := by rw [hx4, PlB, heap_set (unhide HPB2)]; rfl
    have hb4 : Below w.heap.size w x4 := by
      have h1 := unhide HB2
      rw [hx4]
      refine ⟨h1.os, h1.tape, h1.output, by simpa using h1.size, fun k hk => ?_⟩
      rw [Below.heap_setCell x3 ⟨w.heap.size, 2, none⟩ _ k (by show k ≠ w.heap.size; omega)]
      exact h1.block k hk
    have hn4 : NTr x4 t p := unhide HNB x4 hb4
    obtain ⟨hpl4, _, _, u4, c34, hr4⟩ := hn4.cells
    obtain ⟨ua, uc, rfl⟩ := hr4.form
    have HR4 := hide hr4
    have HB4 := hide hb4
    have HPB4 := hide hpb4
    have e34 : (x3.setCell ⟨w.heap.size, 2, none⟩ (.bool true)).cell? ⟨p, 3, none⟩ = some (.slice ua t.kids.length uc) := by rw [← hx4]; exact c34
    have hpl3 : p < x3.heap.size := by rw [hx4] at hpl4; simpa using hpl4
    clear HC2 hpb4 hb4 hn4 hr4 HPB2 c34
    go_wp2_with fail
    rw [← hx4]
    clear hx4 d2 df dl e34 hpl3
    go_loopw [41] (fun j wr => ∃ k : Nat, k ≤ t.kids.length ∧ j = .int .i64 k ∧ chks (t.kids.take k) true true true = none ∧ Below x4.heap.size x4 wr) (fun j _ => t.kids.length - (intOf j).toNat)
    case atStart => exact ⟨0, Nat.zero_le _, rfl, by rw [List.take_zero, chks], Below.refl _ _⟩
    case round =>
      obtain ⟨k, hk, rfl, hns, hb⟩ := hrel
      have HNS := hide hns
      have HB := hide hb
      clear hns hb
      by_cases hlt : k < t.kids.length
      · obtain ⟨g, cap, q, hv, hg, hcc, hn⟩ := ((unhide HR4).later (unhide HB)).cell k hlt
        simp only [Value.slice.injEq] at hv
        obtain ⟨rfl, _, rfl⟩ := hv
        have hki : (k : Int) < (t.kids.length : Int) := by omega
        have hpw : PlB w.heap.size true true true wr := ((unhide HB).block w.heap.size (lt_of_heap (unhide HPB4))).trans (unhide HPB4)
        have h0 := hpw.at.c0
        have h1 := hpw.at.c1
        have h2 := hpw.at.c2
        have hwl := lt_of_heap hpw
        have HC := hide (unhide HIH k hlt q wr hn)
        have HX1 := hide (fun e => chks_hit t.kids true true true k hlt e (unhide HNS))
        have HX2 := hide (chks_none t.kids true true true k hlt (unhide HNS))
        generalize chk t.kids[k] true true true = r at HC HX1 HX2
        clear hn hpw
        go_wp2_with fail
        refine Calls.mono HC.out ?_
        rintro e x5 ⟨rfl, hq5⟩
        have HB5 := hide ((unhide HB).trans (hq5.mono (unhide HB).size))
        clear HC hq5
        cases r with
        | some e =>
          have hcc : ce = some e := by rw [unhide HCE]; exact unhide HX1 e rfl
          subst hcc
          unfold erV
          go_wp2_with fail
          go_ret
          exact ⟨rfl, (unhide HB4).trans ((unhide HB5).mono (unhide HB4).size)⟩
        | none =>
          unfold erV
          go_wp2_with fail
          go_roundw
          case rel => exact ⟨k + 1, by omega, by go_num, unhide HX2 trivial, unhide HB5⟩
          case measure => simp [intOf]; omega
      · have hkk : k = t.kids.length := by omega
        subst hkk
        have hcn : ce = none := by
          have h1 := unhide HNS
          rw [List.take_length] at h1
          rw [unhide HCE]; exact h1
        subst hcn
        go_wp2_with fail
        go_ret
        exact ⟨rfl, (unhide HB4).trans ((unhide HB).mono (unhide HB4).size)⟩

theorem chkFN (hfu : isFunT t = false) : Calls Tryz.prog 87 #[nPtr p, plV false i b] w fun e w' => e = .returned (erV (chk t false i b)) ∧ Below w.heap.size w w' := by
  have htc : t.count = 1 + Tr.counts t.kids := by cases t with | mk kd tx nn ks => exact count_mk _ _ _ _
  have hkl : t.kids.length ≤ 20000 := by have := counts_len t.kids; omega
  obtain ⟨hneed, hills⟩ := ill_of t hill
  have hs2 : s2 t false = (strictT t) := by unfold s2; rw [hfu]; simp []
  have hi2 : i2 t i = i := by unfold i2; rw [hfu]; rfl
  have hce := chk_eq t false i b
  rw [hs2, hi2, hfu] at hce
  have hnb : ∀ W, Below w.heap.size w W → NTr W t p := fun W hW => h.later hW
  have HNB := hide hnb
  have HWR := hide (fun W (hW : Below w.heap.size w W) => wrong_any t p (strictT t) i b W (hnb W hW) hc hneed)
  have HFU : Hid (∀ W, Below w.heap.size w W → Calls Tryz.prog 141 #[nPtr p] W fun e w' => e = .returned (.bool false) ∧ w' = W) := fun W hW => by
    have := isFunE_any t p W (hnb W hW)
    rw [hfu] at this
    exact this
  have HST := hide (fun W (hW : Below w.heap.size w W) => strictE_any t p W (hnb W hW))
  have HBK : Hid (isFunT t = true → ∀ W, Below w.heap.size w W → Calls Tryz.prog 142 #[nPtr p] W fun e w' => (∃ q, e = .returned (nPtr q) ∧ NTr W (kidT t 1) q) ∧ w' = W) := fun hf W hW => blockE_any t p W (hnb W hW) (by
    have : need t.kd = 2 := by
      unfold isFunT at hf
      unfold need
      rw [if_pos (by simpa using hf)]
    omega) (by omega)
  have HSQ := hide (fun (q : Nat) (W : World) (hq : NTr W (kidT t 1) q) => strictE_any (kidT t 1) q W hq)
  have HIH : Hid (∀ (k : Nat) (hk : k < t.kids.length) (q : Nat) (W : World), NTr W t.kids[k] q → Calls Tryz.prog 87 #[nPtr q, plV (strictT t) i false] W fun e w' => e = .returned (erV (chk t.kids[k] (strictT t) i false)) ∧ Below W.heap.size W w') := fun k hk q W hq => by
    have h1 := counts_le t.kids k hk
    exact ih t.kids[k] (by omega) (hills _ (List.getElem_mem _)) (by omega) q (strictT t) i false W hq
  obtain ⟨er, her⟩ : ∃ er, er = wrT t (strictT t) i b := ⟨_, rfl⟩
  obtain ⟨ce, hcs⟩ : ∃ ce, ce = chks t.kids (strictT t) i false := ⟨_, rfl⟩
  rw [← her, ← hcs] at hce
  simp only [← her] at HWR
  rw [hce]
  have HCE := hide hcs
  have HBA := hide ((Below.refl w.heap.size w).alloc (Nat.le_refl _) (.cells #[.bool false, .bool i, .bool b] 112))
  generalize strictT t = st at HWR HST HIH HCE
  clear ih ht hill hc h htc hneed hills hs2 hi2 hnb her hcs hce
  go_enter Tryz.func87, Tryz.ntmps87
  go_wp2_with fail
  refine Calls.mono (unhide HST _ ((Below.refl w.heap.size w).alloc (Nat.le_refl _) _)) ?_
  rintro e x0 ⟨rfl, rfl⟩
  go_wp2_with fail
  refine Calls.mono (unhide HFU _ ((Below.refl w.heap.size w).alloc (Nat.le_refl _) _)) ?_
  rintro e x1 ⟨rfl, rfl⟩
  go_wp2_with fail
  obtain ⟨wB, hwB⟩ : ∃ wB, wB = w.alloc (.cells #[.bool st, .bool i, .bool b] 112) := ⟨_, rfl⟩
  have HBB : Hid (Below w.heap.size w wB) := by rw [hwB]; exact (Below.refl _ _).alloc (Nat.le_refl _) _
  have HPB : Hid (PlB w.heap.size st i b wB) := by rw [hwB]; exact heap_new _ _
  have HC := hide (unhide HWR wB (unhide HBB))
  rw [← hwB]
  refine Calls.mono HC.out ?_
  rintro e x2 ⟨rfl, hq2⟩
  have hpb2 : PlB w.heap.size st i b x2 := (hq2.block w.heap.size (lt_of_heap (unhide HPB))).trans (unhide HPB)
  have HPB2 := hide hpb2
  have HB2 := hide ((unhide HBB).trans (hq2.mono (unhide HBB).size))
  clear HC hq2 hwB HWR hpb2
  cases er with
  | some e =>
    unfold erV
    go_wp2_with fail
    go_ret
    exact ⟨rfl, unhide HB2⟩
  | none =>
    unfold erV
    have HC2 := hide (unhide HFU x2 (unhide HB2))
    have d2 := (unhide HPB2).at.c2
    have df := frozen_of (unhide HPB2) 2
    have dl := lt_of_heap (unhide HPB2)
    go_wp2_with fail
    refine Calls.mono HC2.out ?_
    rintro e x3 ⟨rfl, rfl⟩
    obtain ⟨x4, hx4⟩ : ∃ x4, x4 = x3.setCell ⟨w.heap.size, 2, none⟩ (.bool false) := ⟨_, rfl⟩
    have hpb4 : PlB w.heap.size st i false x4 := by rw [hx4, PlB, heap_set (unhide HPB2)]; rfl
    have hb4 : Below w.heap.size w x4 := by
      have h1 := unhide HB2
      rw [hx4]
      refine ⟨h1.os, h1.tape, h1.output, by simpa using h1.size, fun k hk => ?_⟩
      rw [Below.heap_setCell x3 ⟨w.heap.size, 2, none⟩ _ k (by show k ≠ w.heap.size; omega)]
      exact h1.block k hk
    have hn4 : NTr x4 t p := unhide HNB x4 hb4
    obtain ⟨hpl4, _, _, u4, c34, hr4⟩ := hn4.cells
    obtain ⟨ua, uc, rfl⟩ := hr4.form
    have HR4 := hide hr4
    have HB4 := hide hb4
    have HPB4 := hide hpb4
    have e34 : (x3.setCell ⟨w.heap.size, 2, none⟩ (.bool false)).cell? ⟨p, 3, none⟩ = some (.slice ua t.kids.length uc) := by rw [← hx4]; exact c34
    have hpl3 : p < x3.heap.size := by rw [hx4] at hpl4; simpa using hpl4
    clear HC2 hpb4 hb4 hn4 hr4 HPB2 c34
    go_wp2_with fail
    rw [← hx4]
    clear hx4 d2 df dl e34 hpl3
    go_loopw [41] (fun j wr => ∃ k : Nat, k ≤ t.kids.length ∧ j = .int .i64 k ∧ chks (t.kids.take k) st i false = none ∧ Below x4.heap.size x4 wr) (fun j _ => t.kids.length - (intOf j).toNat)
    case atStart => exact ⟨0, Nat.zero_le _, rfl, by rw [List.take_zero, chks], Below.refl _ _⟩
    case round =>
      obtain ⟨k, hk, rfl, hns, hb⟩ := hrel
      have HNS := hide hns
      have HB := hide hb
      clear hns hb
      by_cases hlt : k < t.kids.length
      · obtain ⟨g, cap, q, hv, hg, hcc, hn⟩ := ((unhide HR4).later (unhide HB)).cell k hlt
        simp only [Value.slice.injEq] at hv
        obtain ⟨rfl, _, rfl⟩ := hv
        have hki : (k : Int) < (t.kids.length : Int) := by omega
        have hpw : PlB w.heap.size st i false wr := ((unhide HB).block w.heap.size (lt_of_heap (unhide HPB4))).trans (unhide HPB4)
        have h0 := hpw.at.c0
        have h1 := hpw.at.c1
        have h2 := hpw.at.c2
        have hwl := lt_of_heap hpw
        have HC := hide (unhide HIH k hlt q wr hn)
        have HX1 := hide (fun e => chks_hit t.kids st i false k hlt e (unhide HNS))
        have HX2 := hide (chks_none t.kids st i false k hlt (unhide HNS))
        generalize chk t.kids[k] st i false = r at HC HX1 HX2
        clear hn hpw
        go_wp2_with fail
        refine Calls.mono HC.out ?_
        rintro e x5 ⟨rfl, hq5⟩
        have HB5 := hide ((unhide HB).trans (hq5.mono (unhide HB).size))
        clear HC hq5
        cases r with
        | some e =>
          have hcc : ce = some e := by rw [unhide HCE]; exact unhide HX1 e rfl
          subst hcc
          unfold erV
          go_wp2_with fail
          go_ret
          exact ⟨rfl, (unhide HB4).trans ((unhide HB5).mono (unhide HB4).size)⟩
        | none =>
          unfold erV
          go_wp2_with fail
          go_roundw
          case rel => exact ⟨k + 1, by omega, by go_num, unhide HX2 trivial, unhide HB5⟩
          case measure => simp [intOf]; omega
      · have hkk : k = t.kids.length := by omega
        subst hkk
        have hcn : ce = none := by
          have h1 := unhide HNS
          rw [List.take_length] at h1
          rw [unhide HCE]; exact h1
        subst hcn
        go_wp2_with fail
        go_ret
        exact ⟨rfl, (unhide HB4).trans ((unhide HB).mono (unhide HB4).size)⟩

theorem chkFT (hfu : isFunT t = true) (hst : strictT t = true) : Calls Tryz.prog 87 #[nPtr p, plV false i b] w fun e w' => e = .returned (erV (chk t false i b)) ∧ Below w.heap.size w w' := by
  have htc : t.count = 1 + Tr.counts t.kids := by cases t with | mk kd tx nn ks => exact count_mk _ _ _ _
  have hkl : t.kids.length ≤ 20000 := by have := counts_len t.kids; omega
  obtain ⟨hneed, hills⟩ := ill_of t hill
  have hs2 : s2 t false = true := by unfold s2; rw [hfu]; simp [hst]
  have hi2 : i2 t i = true := by unfold i2; rw [hfu]; rfl
  have hce := chk_eq t false i b
  rw [hs2, hi2, hfu] at hce
  have hnb : ∀ W, Below w.heap.size w W → NTr W t p := fun W hW => h.later hW
  have HNB := hide hnb
  have HWR := hide (fun W (hW : Below w.heap.size w W) => wrong_any t p true true b W (hnb W hW) hc hneed)
  have HFU : Hid (∀ W, Below w.heap.size w W → Calls Tryz.prog 141 #[nPtr p] W fun e w' => e = .returned (.bool true) ∧ w' = W) := fun W hW => by
    have := isFunE_any t p W (hnb W hW)
    rw [hfu] at this
    exact this
  have HST := hide (fun W (hW : Below w.heap.size w W) => strictE_any t p W (hnb W hW))
  have HBK : Hid (isFunT t = true → ∀ W, Below w.heap.size w W → Calls Tryz.prog 142 #[nPtr p] W fun e w' => (∃ q, e = .returned (nPtr q) ∧ NTr W (kidT t 1) q) ∧ w' = W) := fun hf W hW => blockE_any t p W (hnb W hW) (by
    have : need t.kd = 2 := by
      unfold isFunT at hf
      unfold need
      rw [if_pos (by simpa using hf)]
    omega) (by omega)
  have HSQ := hide (fun (q : Nat) (W : World) (hq : NTr W (kidT t 1) q) => strictE_any (kidT t 1) q W hq)
  have HIH : Hid (∀ (k : Nat) (hk : k < t.kids.length) (q : Nat) (W : World), NTr W t.kids[k] q → Calls Tryz.prog 87 #[nPtr q, plV true true true] W fun e w' => e = .returned (erV (chk t.kids[k] true true true)) ∧ Below W.heap.size W w') := fun k hk q W hq => by
    have h1 := counts_le t.kids k hk
    exact ih t.kids[k] (by omega) (hills _ (List.getElem_mem _)) (by omega) q true true true W hq
  obtain ⟨er, her⟩ : ∃ er, er = wrT t true true b := ⟨_, rfl⟩
  obtain ⟨ce, hcs⟩ : ∃ ce, ce = chks t.kids true true true := ⟨_, rfl⟩
  rw [← her, ← hcs] at hce
  simp only [← her] at HWR
  rw [hce]
  have HCE := hide hcs
  have HBA := hide ((Below.refl w.heap.size w).alloc (Nat.le_refl _) (.cells #[.bool false, .bool i, .bool b] 112))
  simp only [hst] at HST
  clear ih ht hill hc h htc hneed hills hs2 hi2 hnb her hcs hce
  go_enter Tryz.func87, Tryz.ntmps87
  go_wp2_with fail
  refine Calls.mono (unhide HST _ ((Below.refl w.heap.size w).alloc (Nat.le_refl _) _)) ?_
  rintro e x0 ⟨rfl, rfl⟩
  go_wp2_with fail
  refine Calls.mono (unhide HFU _ ((Below.refl w.heap.size w).alloc (Nat.le_refl _) _)) ?_
  rintro e x1 ⟨rfl, rfl⟩
  go_wp2_with fail
  obtain ⟨wB, hwB⟩ : ∃ wB, wB = w.alloc (.cells #[.bool true, .bool true, .bool b] 112) := ⟨_, rfl⟩
  have HBB : Hid (Below w.heap.size w wB) := by rw [hwB]; exact (Below.refl _ _).alloc (Nat.le_refl _) _
  have HPB : Hid (PlB w.heap.size true true b wB) := by rw [hwB]; exact heap_new _ _
  have HC := hide (unhide HWR wB (unhide HBB))
  rw [← hwB]
  refine Calls.mono HC.out ?_
  rintro e x2 ⟨rfl, hq2⟩
  have hpb2 : PlB w.heap.size true true b x2 := (hq2.block w.heap.size (lt_of_heap (unhide HPB))).trans (unhide HPB)
  have HPB2 := hide hpb2
  have HB2 := hide ((unhide HBB).trans (hq2.mono (unhide HBB).size))
  clear HC hq2 hwB HWR hpb2
  cases er with
  | some e =>
    unfold erV
    go_wp2_with fail
    go_ret
    exact ⟨rfl, unhide HB2⟩
  | none =>
    unfold erV
    have HC2 := hide (unhide HFU x2 (unhide HB2))
    have d2 := (unhide HPB2).at.c2
    have df := frozen_of (unhide HPB2) 2
    have dl := lt_of_heap (unhide HPB2)
    go_wp2_with fail
    refine Calls.mono HC2.out ?_
    rintro e x3 ⟨rfl, rfl⟩
    obtain ⟨x4, hx4⟩ : ∃ x4, x4 = x3.setCell ⟨w.heap.size, 2, none⟩ (.bool true) := ⟨_, rfl⟩
    have hpb4 : PlB w.heap.size true true true x4 := by rw [hx4, PlB, heap_set (unhide HPB2)]; rfl
    have hb4 : Below w.heap.size w x4 := by
      have h1 := unhide HB2
      rw [hx4]
      refine ⟨h1.os, h1.tape, h1.output, by simpa using h1.size, fun k hk => ?_⟩
      rw [Below.heap_setCell x3 ⟨w.heap.size, 2, none⟩ _ k (by show k ≠ w.heap.size; omega)]
      exact h1.block k hk
    have hn4 : NTr x4 t p := unhide HNB x4 hb4
    obtain ⟨hpl4, _, _, u4, c34, hr4⟩ := hn4.cells
    obtain ⟨ua, uc, rfl⟩ := hr4.form
    have HR4 := hide hr4
    have HB4 := hide hb4
    have HPB4 := hide hpb4
    have e34 : (x3.setCell ⟨w.heap.size, 2, none⟩ (.bool true)).cell? ⟨p, 3, none⟩ = some (.slice ua t.kids.length uc) := by rw [← hx4]; exact c34
    have hpl3 : p < x3.heap.size := by rw [hx4] at hpl4; simpa using hpl4
    clear HC2 hpb4 hb4 hn4 hr4 HPB2 c34
    go_wp2_with fail
    rw [← hx4]
    clear hx4 d2 df dl e34 hpl3
    go_loopw [41] (fun j wr => ∃ k : Nat, k ≤ t.kids.length ∧ j = .int .i64 k ∧ chks (t.kids.take k) true true true = none ∧ Below x4.heap.size x4 wr) (fun j _ => t.kids.length - (intOf j).toNat)
    case atStart => exact ⟨0, Nat.zero_le _, rfl, by rw [List.take_zero, chks], Below.refl _ _⟩
    case round =>
      obtain ⟨k, hk, rfl, hns, hb⟩ := hrel
      have HNS := hide hns
      have HB := hide hb
      clear hns hb
      by_cases hlt : k < t.kids.length
      · obtain ⟨g, cap, q, hv, hg, hcc, hn⟩ := ((unhide HR4).later (unhide HB)).cell k hlt
        simp only [Value.slice.injEq] at hv
        obtain ⟨rfl, _, rfl⟩ := hv
        have hki : (k : Int) < (t.kids.length : Int) := by omega
        have hpw : PlB w.heap.size true true true wr := ((unhide HB).block w.heap.size (lt_of_heap (unhide HPB4))).trans (unhide HPB4)
        have h0 := hpw.at.c0
        have h1 := hpw.at.c1
        have h2 := hpw.at.c2
        have hwl := lt_of_heap hpw
        have HC := hide (unhide HIH k hlt q wr hn)
        have HX1 := hide (fun e => chks_hit t.kids true true true k hlt e (unhide HNS))
        have HX2 := hide (chks_none t.kids true true true k hlt (unhide HNS))
        generalize chk t.kids[k] true true true = r at HC HX1 HX2
        clear hn hpw
        go_wp2_with fail
        refine Calls.mono HC.out ?_
        rintro e x5 ⟨rfl, hq5⟩
        have HB5 := hide ((unhide HB).trans (hq5.mono (unhide HB).size))
        clear HC hq5
        cases r with
        | some e =>
          have hcc : ce = some e := by rw [unhide HCE]; exact unhide HX1 e rfl
          subst hcc
          unfold erV
          go_wp2_with fail
          go_ret
          exact ⟨rfl, (unhide HB4).trans ((unhide HB5).mono (unhide HB4).size)⟩
        | none =>
          unfold erV
          go_wp2_with fail
          go_roundw
          case rel => exact ⟨k + 1, by omega, by go_num, unhide HX2 trivial, unhide HB5⟩
          case measure => simp [intOf]; omega
      · have hkk : k = t.kids.length := by omega
        subst hkk
        have hcn : ce = none := by
          have h1 := unhide HNS
          rw [List.take_length] at h1
          rw [unhide HCE]; exact h1
        subst hcn
        go_wp2_with fail
        go_ret
        exact ⟨rfl, (unhide HB4).trans ((unhide HB).mono (unhide HB4).size)⟩

theorem chkFF (hfu : isFunT t = true) (hst : strictT t = false) : Calls Tryz.prog 87 #[nPtr p, plV false i b] w fun e w' => e = .returned (erV (chk t false i b)) ∧ Below w.heap.size w w' := by
  have htc : t.count = 1 + Tr.counts t.kids := by cases t with | mk kd tx nn ks => exact count_mk _ _ _ _
  have hkl : t.kids.length ≤ 20000 := by have := counts_len t.kids; omega
  obtain ⟨hneed, hills⟩ := ill_of t hill
  have hs2 : s2 t false = (strictT (kidT t 1)) := by unfold s2; rw [hfu]; simp [hst]
  have hi2 : i2 t i = true := by unfold i2; rw [hfu]; rfl
  have hce := chk_eq t false i b
  rw [hs2, hi2, hfu] at hce
  have hnb : ∀ W, Below w.heap.size w W → NTr W t p := fun W hW => h.later hW
  have HNB := hide hnb
  have HWR := hide (fun W (hW : Below w.heap.size w W) => wrong_any t p (strictT (kidT t 1)) true b W (hnb W hW) hc hneed)
  have HFU : Hid (∀ W, Below w.heap.size w W → Calls Tryz.prog 141 #[nPtr p] W fun e w' => e = .returned (.bool true) ∧ w' = W) := fun W hW => by
    have := isFunE_any t p W (hnb W hW)
    rw [hfu] at this
    exact this
  have HST := hide (fun W (hW : Below w.heap.size w W) => strictE_any t p W (hnb W hW))
  have HBK : Hid (isFunT t = true → ∀ W, Below w.heap.size w W → Calls Tryz.prog 142 #[nPtr p] W fun e w' => (∃ q, e = .returned (nPtr q) ∧ NTr W (kidT t 1) q) ∧ w' = W) := fun hf W hW => blockE_any t p W (hnb W hW) (by
    have : need t.kd = 2 := by
      unfold isFunT at hf
      unfold need
      rw [if_pos (by simpa using hf)]
    omega) (by omega)
  have HSQ := hide (fun (q : Nat) (W : World) (hq : NTr W (kidT t 1) q) => strictE_any (kidT t 1) q W hq)
  have HIH : Hid (∀ (k : Nat) (hk : k < t.kids.length) (q : Nat) (W : World), NTr W t.kids[k] q → Calls Tryz.prog 87 #[nPtr q, plV (strictT (kidT t 1)) true true] W fun e w' => e = .returned (erV (chk t.kids[k] (strictT (kidT t 1)) true true)) ∧ Below W.heap.size W w') := fun k hk q W hq => by
    have h1 := counts_le t.kids k hk
    exact ih t.kids[k] (by omega) (hills _ (List.getElem_mem _)) (by omega) q (strictT (kidT t 1)) true true W hq
  obtain ⟨er, her⟩ : ∃ er, er = wrT t (strictT (kidT t 1)) true b := ⟨_, rfl⟩
  obtain ⟨ce, hcs⟩ : ∃ ce, ce = chks t.kids (strictT (kidT t 1)) true true := ⟨_, rfl⟩
  rw [← her, ← hcs] at hce
  simp only [← her] at HWR
  rw [hce]
  have HCE := hide hcs
  have HBA := hide ((Below.refl w.heap.size w).alloc (Nat.le_refl _) (.cells #[.bool false, .bool i, .bool b] 112))
  simp only [hst] at HST
  generalize strictT (kidT t 1) = st at HWR HIH HCE HSQ
  clear ih ht hill hc h htc hneed hills hs2 hi2 hnb her hcs hce
  go_enter Tryz.func87, Tryz.ntmps87
  go_wp2_with fail
  refine Calls.mono (unhide HST _ ((Below.refl w.heap.size w).alloc (Nat.le_refl _) _)) ?_
  rintro e x0 ⟨rfl, rfl⟩
  go_wp2_with fail
  refine Calls.mono (unhide HFU _ ((Below.refl w.heap.size w).alloc (Nat.le_refl _) _)) ?_
  rintro e x1 ⟨rfl, rfl⟩
  go_wp2_with fail
  refine Calls.mono (unhide HBK hfu _ ((Below.refl w.heap.size w).alloc (Nat.le_refl _) _)) ?_
  rintro e x1 ⟨⟨q, rfl, hq⟩, rfl⟩
  have HC := hide (unhide HSQ q _ hq)
  clear hq
  go_wp2_with fail
  refine Calls.mono HC.out ?_
  rintro e x1 ⟨rfl, rfl⟩
  clear HC
  go_wp2_with fail
  obtain ⟨wB, hwB⟩ : ∃ wB, wB = w.alloc (.cells #[.bool st, .bool true, .bool b] 112) := ⟨_, rfl⟩
  have HBB : Hid (Below w.heap.size w wB) := by rw [hwB]; exact (Below.refl _ _).alloc (Nat.le_refl _) _
  have HPB : Hid (PlB w.heap.size st true b wB) := by rw [hwB]; exact heap_new _ _
  have HC := hide (unhide HWR wB (unhide HBB))
  rw [← hwB]
  refine Calls.mono HC.out ?_
  rintro e x2 ⟨rfl, hq2⟩
  have hpb2 : PlB w.heap.size st true b x2 := (hq2.block w.heap.size (lt_of_heap (unhide HPB))).trans (unhide HPB)
  have HPB2 := hide hpb2
  have HB2 := hide ((unhide HBB).trans (hq2.mono (unhide HBB).size))
  clear HC hq2 hwB HWR hpb2
  cases er with
  | some e =>
    unfold erV
    go_wp2_with fail
    go_ret
    exact ⟨rfl, unhide HB2⟩
  | none =>
    unfold erV
    have HC2 := hide (unhide HFU x2 (unhide HB2))
    have d2 := (unhide HPB2).at.c2
    have df := frozen_of (unhide HPB2) 2
    have dl := lt_of_heap (unhide HPB2)
    go_wp2_with fail
    refine Calls.mono HC2.out ?_
    rintro e x3 ⟨rfl, rfl⟩
    obtain ⟨x4, hx4⟩ : ∃ x4, x4 = x3.setCell ⟨w.heap.size, 2, none⟩ (.bool true) := ⟨_, rfl⟩
    have hpb4 : PlB w.heap.size st true true x4 := by rw [hx4, PlB, heap_set (unhide HPB2)]; rfl
    have hb4 : Below w.heap.size w x4 := by
      have h1 := unhide HB2
      rw [hx4]
      refine ⟨h1.os, h1.tape, h1.output, by simpa using h1.size, fun k hk => ?_⟩
      rw [Below.heap_setCell x3 ⟨w.heap.size, 2, none⟩ _ k (by show k ≠ w.heap.size; omega)]
      exact h1.block k hk
    have hn4 : NTr x4 t p := unhide HNB x4 hb4
    obtain ⟨hpl4, _, _, u4, c34, hr4⟩ := hn4.cells
    obtain ⟨ua, uc, rfl⟩ := hr4.form
    have HR4 := hide hr4
    have HB4 := hide hb4
    have HPB4 := hide hpb4
    have e34 : (x3.setCell ⟨w.heap.size, 2, none⟩ (.bool true)).cell? ⟨p, 3, none⟩ = some (.slice ua t.kids.length uc) := by rw [← hx4]; exact c34
    have hpl3 : p < x3.heap.size := by rw [hx4] at hpl4; simpa using hpl4
    clear HC2 hpb4 hb4 hn4 hr4 HPB2 c34
    go_wp2_with fail
    rw [← hx4]
    clear hx4 d2 df dl e34 hpl3
    go_loopw [41] (fun j wr => ∃ k : Nat, k ≤ t.kids.length ∧ j = .int .i64 k ∧ chks (t.kids.take k) st true true = none ∧ Below x4.heap.size x4 wr) (fun j _ => t.kids.length - (intOf j).toNat)
    case atStart => exact ⟨0, Nat.zero_le _, rfl, by rw [List.take_zero, chks], Below.refl _ _⟩
    case round =>
      obtain ⟨k, hk, rfl, hns, hb⟩ := hrel
      have HNS := hide hns
      have HB := hide hb
      clear hns hb
      by_cases hlt : k < t.kids.length
      · obtain ⟨g, cap, q, hv, hg, hcc, hn⟩ := ((unhide HR4).later (unhide HB)).cell k hlt
        simp only [Value.slice.injEq] at hv
        obtain ⟨rfl, _, rfl⟩ := hv
        have hki : (k : Int) < (t.kids.length : Int) := by omega
        have hpw : PlB w.heap.size st true true wr := ((unhide HB).block w.heap.size (lt_of_heap (unhide HPB4))).trans (unhide HPB4)
        have h0 := hpw.at.c0
        have h1 := hpw.at.c1
        have h2 := hpw.at.c2
        have hwl := lt_of_heap hpw
        have HC := hide (unhide HIH k hlt q wr hn)
        have HX1 := hide (fun e => chks_hit t.kids st true true k hlt e (unhide HNS))
        have HX2 := hide (chks_none t.kids st true true k hlt (unhide HNS))
        generalize chk t.kids[k] st true true = r at HC HX1 HX2
        clear hn hpw
        go_wp2_with fail
        refine Calls.mono HC.out ?_
        rintro e x5 ⟨rfl, hq5⟩
        have HB5 := hide ((unhide HB).trans (hq5.mono (unhide HB).size))
        clear HC hq5
        cases r with
        | some e =>
          have hcc : ce = some e := by rw [unhide HCE]; exact unhide HX1 e rfl
          subst hcc
          unfold erV
          go_wp2_with fail
          go_ret
          exact ⟨rfl, (unhide HB4).trans ((unhide HB5).mono (unhide HB4).size)⟩
        | none =>
          unfold erV
          go_wp2_with fail
          go_roundw
          case rel => exact ⟨k + 1, by omega, by go_num, unhide HX2 trivial, unhide HB5⟩
          case measure => simp [intOf]; omega
      · have hkk : k = t.kids.length := by omega
        subst hkk
        have hcn : ce = none := by
          have h1 := unhide HNS
          rw [List.take_length] at h1
          rw [unhide HCE]; exact h1
        subst hcn
        go_wp2_with fail
        go_ret
        exact ⟨rfl, (unhide HB4).trans ((unhide HB).mono (unhide HB4).size)⟩

end
end Go.Proofs.YtodmgaikhbmlnaaGreatDoor
