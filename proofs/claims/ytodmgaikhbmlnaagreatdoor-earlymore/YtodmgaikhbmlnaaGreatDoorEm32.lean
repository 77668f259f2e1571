/-
  wrongFunction.
-/
import Derived.Test.YtodmgaikhbmlnaaGreatDoorEm31
set_option maxRecDepth 100000
set_option maxHeartbeats 16000000
namespace Go.Proofs.YtodmgaikhbmlnaaGreatDoor
open Go.RowKit

/-- The first that there is. -/
def firstE (f : Nat → Option Int) : Nat → Option Int
  | 0 => none
  | n + 1 => match firstE f n with
    | some e => some e
    | none => f n
theorem firstE_hit {f : Nat → Option Int} {k : Nat} {e : Int} (h : firstE f k = none) (hf : f k = some e) : ∀ n, k < n → firstE f n = some e
  | 0, hn => absurd hn (by omega)
  | n + 1, hn => by
    rw [firstE]
    rcases Nat.lt_or_ge k n with h1 | h1
    · rw [firstE_hit h hf n h1]
    · have : k = n := by omega
      subst this
      rw [h]
      exact hf
theorem firstE_step {f : Nat → Option Int} {k : Nat} (h : firstE f k = none) (hf : f k = none) : firstE f (k + 1) = none := by rw [firstE, h]; exact hf
def parF (s : Bool) (ps : List Tr) (i : Nat) : Option Int := match nmE s (txAt ps i) with
  | some e => some e
  | none => if s && namedB (ps.take i) (txAt ps i) then some 9 else none
def parE (s : Bool) (ps : List Tr) : Option Int := firstE (parF s ps) ps.length
def letE (t : Tr) : Bool := (letsT (kidT t 1)).any fun k => namedB (kidT t 0).kids k.tx
def fnE (t : Tr) (s : Bool) : Option Int := match nmE s t.tx with
  | some e => some e
  | none => match parE s (kidT t 0).kids with
    | some e => some e
    | none => if letE t then some 9 else none
theorem nrow_some {B : Nat} {w : World} {v : Value} {ts : List Tr} (h : NRow B w v ts) (hn : 0 < ts.length) : ∃ g cap, v = .slice (some ⟨g, 0, none⟩) ts.length cap ∧ (ts.length : Int) ≤ (cap : Int) ∧ cap ≤ maxLen := by
  obtain ⟨ps, ho, hns⟩ := h
  have hpl := NAts.length _ _ hns
  rcases ho.2 with hn' | ⟨g, cap, cur, hv, _, _, hc, hm, _⟩
  · omega
  · exact ⟨g, cap, by rw [hv, hpl], by omega, hm⟩

/-- What wrongFunction stands in. -/
structure FnAt (t : Tr) (p bN bP : Nat) (s i b : Bool) (w : World) : Prop where
  nt : NTr w t p
  cN : w.cell? ⟨bN, 0, none⟩ = some (nPtr p)
  pl : PlAt bP s i b w
theorem FnAt.later {t : Tr} {p bN bP : Nat} {s i b : Bool} {w X : World} (h : FnAt t p bN bP s i b w) (hb : Below w.heap.size w X) : FnAt t p bN bP s i b X := ⟨h.nt.later hb, keepC hb h.cN, h.pl.later hb⟩

theorem wrongFunction_any (t : Tr) (p : Nat) (s i b : Bool) (w : World) (h : NTr w t p) (hk : 2 ≤ t.kids.length) (hc : t.count ≤ 20000) : Calls Tryz.prog 204 #[nPtr p, plV s i b] w fun e w' => e = .returned (erV (fnE t s)) ∧ Below w.heap.size w w' := by
  have htc : t.count = 1 + Tr.counts t.kids := by cases t with | mk kd tx nn ks => exact count_mk _ _ _ _
  have hkl : t.kids.length ≤ 20000 := by have := counts_len t.kids; omega
  have hkc : ∀ j, j < t.kids.length → (kidT t j).kids.length ≤ 20000 := fun j hj => by
    rw [kidT_eq t j hj]
    have h1 := counts_le t.kids j hj
    have h2 : (t.kids[j]).count = 1 + Tr.counts (t.kids[j]).kids := by cases t.kids[j] with | mk kd tx nn ks => exact count_mk _ _ _ _
    have h3 := counts_len (t.kids[j]).kids
    omega
  have hP0 := hkc 0 (by omega)
  have hP1 := hkc 1 (by omega)
  obtain ⟨wA, hwA⟩ : ∃ wA, wA = (w.alloc (.cells #[nPtr p] 22)).alloc (.cells #[.bool s, .bool i, .bool b] 112) := ⟨_, rfl⟩
  have hbA : Below w.heap.size w wA := by rw [hwA]; exact ((Below.refl _ _).alloc (Nat.le_refl _) _).alloc (by simp) _
  have hF0 : FnAt t p w.heap.size (w.heap.size + 1) s i b wA := by
    refine ⟨h.later hbA, ?_, ?_⟩
    · have h1 : wA.heap[w.heap.size]? = some (.cells #[nPtr p] 22 (0, 0)) := by rw [hwA, Below.heap_alloc _ _ _ (by simp), heap_new]
      rw [cell_of h1]; rfl
    · have h1 := PlAt.new (w.alloc (.cells #[nPtr p] 22)) s i b
      rw [hwA]
      simpa using h1
  have HF := hide hF0
  have HBA := hide hbA
  have HPR : Hid (∀ W, Below wA.heap.size wA W → Calls Tryz.prog 250 #[nPtr p] W fun e w' => (∃ u, e = .returned u ∧ NRow 0 W u (kidT t 0).kids) ∧ w' = W) := fun W hW => paramsE_any t p W (hF0.later hW).nt (by omega) (by omega)
  have HNM : Hid (∀ x W, Calls Tryz.prog 205 #[.string x, plV s i b] W fun e w' => e = .returned (erV (nmE s x)) ∧ Below W.heap.size W w') := fun x W => wrongName_any s i b x W
  have HBK : Hid (∀ W, Below wA.heap.size wA W → Calls Tryz.prog 142 #[nPtr p] W fun e w' => (∃ q, e = .returned (nPtr q) ∧ NTr W (kidT t 1) q) ∧ w' = W) := fun W hW => blockE_any t p W (hF0.later hW).nt hk (by omega)
  have HLT : Hid (∀ q W, NTr W (kidT t 1) q → Calls Tryz.prog 33 #[nPtr q] W fun e w' => (∃ u, e = .returned u ∧ NRow W.heap.size w' u (letsT (kidT t 1))) ∧ Below W.heap.size W w') := fun q W hq => lets_any _ q W hq (by omega)
  have HCF : Hid (∀ v W B, Below wA.heap.size wA W → NRow B W v (letsT (kidT t 1)) → Calls Tryz.prog 249 #[v, .func (.func 251) #[] #[.pointer (some ⟨w.heap.size, 0, none⟩)]] W fun e w' => e = .returned (.bool (letE t)) ∧ Below W.heap.size W w') := fun v W B hW hv =>
    containsF1 251 _ (fun k => namedB (kidT t 0).kids k.tx) enE251 _ v W hv (by have := lets_len (kidT t 1); omega) (fun k _ p' X hX hn => func1_any k t p' w.heap.size p X hn ((hF0.later hW).later hX).cN ((hF0.later hW).later hX).nt (by omega) (by omega) (by omega))
  obtain ⟨_, _, c1, _⟩ := hF0.nt.cells
  unfold fnE
  obtain ⟨pe, hpe⟩ : ∃ pe, pe = parE s (kidT t 0).kids := ⟨_, rfl⟩
  rw [← hpe]
  have HPE : Hid (∀ n e, n < (kidT t 0).kids.length → firstE (parF s (kidT t 0).kids) n = none → parF s (kidT t 0).kids n = some e → pe = some e) := fun n e hn h1 h2 => by rw [hpe]; exact firstE_hit h1 h2 _ hn
  have HPN : Hid (firstE (parF s (kidT t 0).kids) (kidT t 0).kids.length = none → pe = none) := fun h1 => by rw [hpe]; exact h1
  generalize letE t = le at HCF
  generalize letsT (kidT t 1) = lts at HLT HCF
  generalize (kidT t 0).kids = P at HPR HPE HPN hP0
  generalize t.tx = tx at c1
  have c0' := hF0.cN
  have hpl := hF0.pl
  clear h hk hc htc hkl hkc hP1 hbA hF0 hpe
  have HN0 := hide (HNM tx)
  generalize hE0 : nmE s tx = e0 at HN0
  clear hE0
  have HC0 := hide c0'
  have HC1 := hide c1
  have HPL := hide hpl
  clear c0' c1 hpl
  go_enter Tryz.func204, Tryz.ntmps204
  go_wp2_with fail
  rw [← hwA]
  have hS0 : Below wA.heap.size wA wA.drew := (Below.refl _ _).drew
  have hpl := cell_lt (unhide HC1)
  refine wp_region_held (S := fun X => Below wA.heap.size wA X) (by kernel_rfl) ?_
  change wpAnyH _ _ _ _ _ _ _ _ (World.drew _)
  refine wh 0 (nPtr p) hS0 ?_ (hy := Or.inl ⟨by kernel_rfl, fun X hX => by have hh := keepC hX (unhide HC0); go_simp⟩)
  refine wh 1 (nPtr p) hS0 ?_
  refine wh 2 (.pointer (some ⟨p, 1, none⟩)) hS0 ?_
  refine wh 3 (.string tx) hS0 ?_ (hy := Or.inl ⟨by kernel_rfl, fun X hX => by have hh := keepC hX (unhide HC1); go_simp⟩)
  refine wh 4 (plV s i b) hS0 ?_ (hy := Or.inl ⟨by kernel_rfl, fun X hX => by
    have hh := PlAt.later (unhide HPL) hX
    have h0 := hh.c0
    have h1 := hh.c1
    have h2 := hh.c2
    clear hh
    go_simp⟩)
  refine wq1 5 fun K hK => ?_
  go_simp
  refine Calls.mono ((unhide HN0) _) ?_
  rintro e w2 ⟨rfl, hb2⟩
  rw [← hwA] at hb2
  have hS2 : Below wA.heap.size wA w2 := hS0.trans (hb2.mono (Nat.le_refl _))
  refine hK.out _ _ hS2 (fun _ => ?_)
  clear hK K
  refine wh 6 (erV e0) hS2 ?_
  refine wpAnyH_done (by kernel_rfl) ?_ _
  go_simp
  have HS2 := hide hS2
  clear hb2 hS2 hS0 HN0
  cases e0 with
  | some e =>
    unfold erV
    go_wp2_with fail
    go_ret
    exact ⟨rfl, (unhide HBA).trans ((unhide HS2).mono (unhide HBA).size)⟩
  | none =>
    unfold erV
    have d0 := keepC (unhide HS2) (unhide HC0)
    have hd0 := cell_lt d0
    have HC := hide (unhide HPR w2 (unhide HS2))
    go_wp2_with fail
    refine Calls.mono HC.out ?_
    rintro e w3 ⟨⟨u, rfl, hr⟩, rfl⟩
    obtain ⟨va, vc, rfl⟩ := hr.form
    have HR := hide hr
    clear HC hr d0 hd0
    go_wp2_with fail
    go_loopw [22] (fun j wr => ∃ k : Nat, k ≤ P.length ∧ j = .int .i64 k ∧ firstE (parF s P) k = none ∧ Below w3.heap.size w3 wr) (fun j _ => P.length - (intOf j).toNat)
    case atStart => exact ⟨0, Nat.zero_le _, rfl, rfl, Below.refl _ _⟩
    case round =>
      obtain ⟨k, hk, rfl, hns, hb⟩ := hrel
      have HNS := hide hns
      have HB := hide hb
      clear hns hb
      have HBW := hide ((unhide HS2).trans ((unhide HB).mono (unhide HS2).size))
      by_cases hlt : k < P.length
      · obtain ⟨g, cap, q, hv, hg, hc, hn⟩ := ((unhide HR).later (unhide HB)).cell k hlt
        simp only [Value.slice.injEq] at hv
        obtain ⟨rfl, _, rfl⟩ := hv
        have hki : (k : Int) < (P.length : Int) := by omega
        obtain ⟨hql, _, cx, _⟩ := hn.cells
        rw [← txAt_eq P k hlt] at cx
        have HPK : Hid (parF s P k = (match nmE s (txAt P k) with | some e => some e | none => if s && namedB (P.take k) (txAt P k) then some 9 else none)) := rfl
        generalize txAt P k = x at cx HPK
        have HNX := hide (unhide HNM x)
        generalize nmE s x = ex at HNX HPK
        have HPW := hide (PlAt.later (unhide HPL) (unhide HBW))
        have HCX := hide cx
        clear hn
        go_wp2_with fail
        have hS0 : Below wr.heap.size wr wr.drew := (Below.refl _ _).drew
        refine wp_region_held (S := fun X => Below wr.heap.size wr X) (by kernel_rfl) ?_
        change wpAnyH _ _ _ _ _ _ _ _ (World.drew _)
        refine wh 0 (nPtr q) hS0 ?_
        refine wh 1 (nPtr q) hS0 ?_
        refine wh 2 (.pointer (some ⟨q, 1, none⟩)) hS0 ?_
        refine wh 3 (.string x) hS0 ?_ (hy := Or.inl ⟨by kernel_rfl, fun X hX => by have hh := keepC hX (unhide HCX); go_simp⟩)
        refine wh 4 (plV s i b) hS0 ?_ (hy := Or.inl ⟨by kernel_rfl, fun X hX => by
    have hh := PlAt.later (unhide HPW) hX
    have h0 := hh.c0
    have h1 := hh.c1
    have h2 := hh.c2
    clear hh
    go_simp⟩)
        refine wq1 5 fun K hK => ?_
        go_simp
        refine Calls.mono ((unhide HNX) _) ?_
        rintro e w4 ⟨rfl, hb4⟩
        have hS4 : Below wr.heap.size wr w4 := hS0.trans (hb4.mono (Nat.le_refl _))
        refine hK.out _ _ hS4 (fun _ => ?_)
        clear hK K
        refine wh 6 (erV ex) hS4 ?_
        refine wpAnyH_done (by kernel_rfl) ?_ _
        go_simp
        have HS4 := hide ((unhide HB).trans (hS4.mono (unhide HB).size))
        have HW4 := hide ((unhide HBW).trans (hS4.mono (unhide HBW).size))
        have HCX4 := hide (keepC hS4 (unhide HCX))
        clear hb4 hS4 hS0 HNX cx hql hc hg
        cases ex with
        | some e =>
          have hpp : pe = some e := unhide HPE k e hlt (unhide HNS) (unhide HPK)
          subst hpp
          unfold erV
          go_wp2_with fail
          go_ret
          exact ⟨rfl, (unhide HBA).trans ((unhide HW4).mono (unhide HBA).size)⟩
        | none =>
          unfold erV
          have HPW4 := hide (PlAt.later (unhide HPL) (unhide HW4))
          have hd5 := cell_lt (unhide HPW4).c0
          have hS0 : Below w4.heap.size w4 w4.drew := (Below.refl _ _).drew
          cases s with
          | false =>
            have HPK2 : Hid (parF false P k = none) := unhide HPK
            go_wp2_with fail
            refine wp_region_held (S := fun X => Below w4.heap.size w4 X) (by kernel_rfl) ?_
            change wpAnyH _ _ _ _ _ _ _ _ (World.drew _)
            refine wh 0 (.pointer (some ⟨w.heap.size + 1, 0, none⟩)) hS0 ?_
            refine wh 1 (.bool false) hS0 ?_ (hy := Or.inl ⟨by kernel_rfl, fun X hX => by have hh := keepC hX (unhide HPW4).c0; go_simp⟩)
            refine wh 2 (.bool false) hS0 ?_
            refine wh 3 undef hS0 ?_ (hy := Or.inr ⟨by kernel_rfl, rfl⟩)
            refine wh 5 undef hS0 ?_ (hy := Or.inr ⟨by kernel_rfl, rfl⟩)
            refine wh 7 undef hS0 ?_ (hy := Or.inr ⟨by kernel_rfl, rfl⟩)
            refine wh 8 undef hS0 ?_ (hy := Or.inr ⟨by kernel_rfl, rfl⟩)
            refine wh 9 undef hS0 ?_ (hy := Or.inr ⟨by kernel_rfl, rfl⟩)
            refine wh 10 undef hS0 ?_ (hy := Or.inr ⟨by kernel_rfl, rfl⟩)
            refine wq1 4 fun K hK => ?_
            go_simp
            refine hK.out _ _ hS0 (fun _ => ?_)
            clear hK K
            refine wh 6 undef hS0 ?_ (hy := Or.inr ⟨by kernel_rfl, rfl⟩)
            refine wq1 11 fun K hK => ?_
            go_simp
            refine hK.out _ _ hS0 (fun _ => ?_)
            clear hK K
            refine wh 12 (.bool false) hS0 ?_
            refine wpAnyH_done (by kernel_rfl) ?_ _
            go_simp
            clear hS0
            go_wp2_with fail
            go_roundw
            case rel => exact ⟨k + 1, by omega, by go_num, firstE_step (unhide HNS) (unhide HPK2), (unhide HS4).drew⟩
            case measure => simp [intOf]; omega
          | true =>
            have HPR4 := hide (unhide HPR w4.drew (unhide HW4).drew)
            have HCN4 := hide (keepC (unhide HW4) (unhide HC0))
            have hcn4 := cell_lt (unhide HCN4)
            have hq4 := cell_lt (unhide HCX4)
            obtain ⟨r, hr⟩ : ∃ r, r = namedB (P.take k) x := ⟨_, rfl⟩
            have HPK2 : Hid (parF true P k = if r then some 9 else none) := by rw [hr]; exact unhide HPK
            have HRK := hide hr
            clear hr
            go_wp2_with fail
            refine wp_region_held (S := fun X => Below w4.heap.size w4 X) (by kernel_rfl) ?_
            change wpAnyH _ _ _ _ _ _ _ _ (World.drew _)
            refine wh 0 (.pointer (some ⟨w.heap.size + 1, 0, none⟩)) hS0 ?_
            refine wh 1 (.bool true) hS0 ?_ (hy := Or.inl ⟨by kernel_rfl, fun X hX => by have hh := keepC hX (unhide HPW4).c0; go_simp⟩)
            refine wh 2 (.bool true) hS0 ?_
            refine wh 3 (nPtr p) hS0 ?_ (hy := Or.inl ⟨by kernel_rfl, fun X hX => by have hh := keepC hX (unhide HCN4); go_simp⟩)
            refine wh 5 (.int .i64 k) hS0 ?_
            refine wh 7 (nPtr q) hS0 ?_
            refine wh 8 (nPtr q) hS0 ?_
            refine wh 9 (.pointer (some ⟨q, 1, none⟩)) hS0 ?_
            refine wh 10 (.string x) hS0 ?_ (hy := Or.inl ⟨by kernel_rfl, fun X hX => by have hh := keepC hX (unhide HCX4); go_simp⟩)
            refine wq1 4 fun K hK => ?_
            go_simp
            refine Calls.mono HPR4.out ?_
            rintro e w5 ⟨⟨u5, rfl, hr5⟩, rfl⟩
            obtain ⟨g5, c5, rfl, hcap, hcm⟩ := nrow_some hr5 (by omega)
            refine hK.out _ _ hS0 (fun _ => ?_)
            clear hK K HPR4
            have HC5 := hide (named_any (P.take k) _ x w4.drew (hr5.take k (by omega)) (by rw [List.length_take]; omega))
            rw [← unhide HRK] at HC5
            have hk5 : (k : Int) ≤ (c5 : Int) := by omega
            clear hr5 HRK
            refine wh 6 (.slice (some ⟨g5, 0, none⟩) k c5) hS0 ?_
            refine wq1 11 fun K hK => ?_
            go_simp
            refine Calls.mono HC5.out ?_
            rintro e w6 ⟨rfl, hb6⟩
            have hS6 : Below w4.heap.size w4 w6 := hS0.trans (hb6.mono (Nat.le_refl _))
            refine hK.out _ _ hS6 (fun _ => ?_)
            clear hK K HC5
            refine wh 12 (.bool r) hS6 ?_
            refine wpAnyH_done (by kernel_rfl) ?_ _
            go_simp
            have HS6 := hide ((unhide HS4).trans (hS6.mono (unhide HS4).size))
            have HW6 := hide ((unhide HW4).trans (hS6.mono (unhide HW4).size))
            clear hS0 hS6 hb6
            cases r with
            | true =>
              have hpp : pe = some 9 := unhide HPE k 9 hlt (unhide HNS) (unhide HPK2)
              subst hpp
              go_wp2_with fail
              go_ret
              exact ⟨rfl, (unhide HBA).trans ((unhide HW6).mono (unhide HBA).size)⟩
            | false =>
              go_wp2_with fail
              go_roundw
              case rel => exact ⟨k + 1, by omega, by go_num, firstE_step (unhide HNS) (unhide HPK2), unhide HS6⟩
              case measure => simp [intOf]; omega
      · have hkk : k = P.length := by omega
        subst hkk
        have hpn : pe = none := unhide HPN (unhide HNS)
        subst hpn
        have d0 := keepC (unhide HBW) (unhide HC0)
        have hd0 := cell_lt d0
        have HC := hide (unhide HBK wr (unhide HBW))
        go_wp2_with fail
        refine Calls.mono HC.out ?_
        rintro e w4 ⟨⟨q, rfl, hq⟩, rfl⟩
        have HC2 := hide (unhide HLT q w4 hq)
        clear HC hq
        go_wp2_with fail
        refine Calls.mono HC2.out ?_
        rintro e w5 ⟨⟨u5, rfl, hr5⟩, hb5⟩
        obtain ⟨la, lc, rfl⟩ := hr5.form
        have HB5 := hide ((unhide HBW).trans (hb5.mono (unhide HBW).size))
        have HC3 := hide (unhide HCF _ w5 _ (unhide HB5) hr5)
        clear HC2 hr5 hb5
        cases le <;>
        · go_wp2_with fail
          refine Calls.mono HC3.out ?_
          rintro e w6 ⟨rfl, hb6⟩
          have HB6 := hide ((unhide HB5).trans (hb6.mono (unhide HB5).size))
          clear HC3 hb6
          go_wp2_with fail
          go_ret
          exact ⟨rfl, (unhide HBA).trans ((unhide HB6).mono (unhide HBA).size)⟩
end Go.Proofs.YtodmgaikhbmlnaaGreatDoor
