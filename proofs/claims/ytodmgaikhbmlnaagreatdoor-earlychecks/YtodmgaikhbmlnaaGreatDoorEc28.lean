/-
  wrongFunction.
-/
import Derived.Test.YtodmgaikhbmlnaaGreatDoorEc27
import Derived.Laws.EntriesVeiled
set_option maxRecDepth 100000
set_option maxHeartbeats 16000000
namespace Go.Proofs.YtodmgaikhbmlnaaGreatDoor
open Go.RowKit
def firstE (f : Nat → Option Int) : Nat → Option Int
 | 0 => none
 | n + 1 => match firstE f n with
  | some e => some e
  | none => f n
theorem firstE_hit {f : Nat → Option Int} {k : Nat} {e : Int} (h : firstE f k = none) (hf : f k = some e) : ∀ n, k < n → firstE f n = some e
 | 0, hn => absurd hn (by omega)
 | n + 1, hn => by
  rw [firstE]
  rcases Nat.lt_or_ge k n with h1 | h1
  ·
   rw [firstE_hit h hf n h1]
  ·
   have : k = n := by omega
   subst this; rw [h]; exact hf
theorem firstE_step {f : Nat → Option Int} {k : Nat} (h : firstE f k = none) (hf : f k = none) : firstE f (k + 1) = none := by rw [firstE, h]; exact hf
def parF (s : Bool) (ps : List Tr) (i : Nat) : Option Int := match nmE s (txAt ps i) with
 | some e => some e
 | none => if s && namedB (ps.take i) (txAt ps i) then some 9 else none
def parE (s : Bool) (ps : List Tr) : Option Int := firstE (parF s ps) ps.length
def letE (t : Tr) : Bool := (letsT (kidT t 1)).any fun k => namedB (kidT t 0).kids k.tx
def fnE (t : Tr) (s : Bool) : Option Int := match nmE s t.tx with
 | some e => some e
 | none => match parE s (kidT t 0).kids with
  | some e => some e
  | none => if letE t then some 9 else none
theorem nrow_some {B : Nat} {w : World} {v : Value} {ts : List Tr} (h : NRow B w v ts) (hn : 0 < ts.length) : ∃ g cap, v = .slice (some ⟨g, 0, none⟩) ts.length cap ∧ (ts.length : Int) ≤ (cap : Int) ∧ cap ≤ maxLen := by
 obtain ⟨ps, ho, hns⟩ := h
 have hpl := NAts.length _ _ hns
 rcases ho.2 with hn' | ⟨g, cap, cur, hv, _, _, hc, hm, _⟩
 ·
  omega
 ·
  exact ⟨g, cap, by rw [hv, hpl], by omega, hm⟩
structure FnAt (t : Tr) (p bN bP : Nat) (s i b : Bool) (w : World) : Prop where
 nt : NTr w t p
 cN : w.cell? ⟨bN, 0, none⟩ = some (nPtr p)
 pl : PlAt bP s i b w
theorem FnAt.later {t : Tr} {p bN bP : Nat} {s i b : Bool} {w X : World} (h : FnAt t p bN bP s i b w) (hb : Below w.heap.size w X) : FnAt t p bN bP s i b X := ⟨h.nt.later hb, keepC hb h.cN, h.pl.later hb⟩
theorem wrongFunction_any (t : Tr) (p : Nat) (s i b : Bool) (w : World) (h : NTr w t p) (hk : 2 ≤ t.kids.length) (hc : t.count ≤ 20000) : Calls Tryz.prog 204 #[nPtr p, plV s i b] w fun e w' => e = .returned (erV (fnE t s)) ∧ Below w.heap.size w w' := by
 have htc : t.count = 1 + Tr.counts t.kids := by cases t with | mk kd tx nn ks => exact count_mk _ _ _ _
 have hkl : t.kids.length ≤ 20000 := by have := counts_len t.kids; omega
 have hkc : ∀ j, j < t.kids.length → (kidT t j).kids.length ≤ 20000 := fun j hj => by
  rw [kidT_eq t j hj]; have h1 := counts_le t.kids j hj; have h2 : (t.kids[j]).count = 1 + Tr.counts (t.kids[j]).kids := by cases t.kids[j] with | mk kd tx nn ks => exact count_mk _ _ _ _
  have h3 := counts_len (t.kids[j]).kids; omega
 have hP0 := hkc 0 (by omega)
 have hP1 := hkc 1 (by omega)
 obtain ⟨wA, hwA⟩ : ∃ wA, wA = (w.alloc (.cells #[nPtr p] 22)).alloc (.cells #[.bool s, .bool i, .bool b] 112) := ⟨_, rfl⟩
 have hbA : Below w.heap.size w wA := by rw [hwA]; exact ((Below.refl _ _).alloc (Nat.le_refl _) _).alloc (by simp) _
 have hF0 : FnAt t p w.heap.size (w.heap.size + 1) s i b wA := by
  refine ⟨h.later hbA, ?_, ?_⟩
  ·
   have h1 : wA.heap[w.heap.size]? = some (.cells #[nPtr p] 22 (0, 0)) := by rw [hwA, Below.heap_alloc _ _ _ (by simp), heap_new]
   rw [cell_of h1]; rfl
  ·
   have h1 := PlAt.new (w.alloc (.cells #[nPtr p] 22)) s i b; rw [hwA]; simpa using h1
 have HF := hide hF0
 have HBA := hide hbA
 have HPR : Hid (∀ W, Below wA.heap.size wA W → Calls Tryz.prog 250 #[nPtr p] W fun e w' => (∃ u, e = .returned u ∧ NRow 0 W u (kidT t 0).kids) ∧ w' = W) := fun W hW => paramsE_any t p W (hF0.later hW).nt (by omega) (by omega)
 have HNM : Hid (∀ x W, Calls Tryz.prog 205 #[.string x, plV s i b] W fun e w' => e = .returned (erV (nmE s x)) ∧ Below W.heap.size W w') := fun x W => wrongName_any s i b x W
 have HBK : Hid (∀ W, Below wA.heap.size wA W → Calls Tryz.prog 142 #[nPtr p] W fun e w' => (∃ q, e = .returned (nPtr q) ∧ NTr W (kidT t 1) q) ∧ w' = W) := fun W hW => blockE_any t p W (hF0.later hW).nt hk (by omega)
 have HLT : Hid (∀ q W, NTr W (kidT t 1) q → Calls Tryz.prog 33 #[nPtr q] W fun e w' => (∃ u, e = .returned u ∧ NRow W.heap.size w' u (letsT (kidT t 1))) ∧ Below W.heap.size W w') := fun q W hq => lets_any _ q W hq (by omega)
 have HCF : Hid (∀ v W B, Below wA.heap.size wA W → NRow B W v (letsT (kidT t 1)) → Calls Tryz.prog 249 #[v, .func (.func 251) #[] #[.pointer (some ⟨w.heap.size, 0, none⟩)]] W fun e w' => e = .returned (.bool (letE t)) ∧ Below W.heap.size W w') := fun v W B hW hv =>
  containsF1 251 _ (fun k => namedB (kidT t 0).kids k.tx) enE251 _ v W hv (by have := lets_len (kidT t 1); omega) (fun k _ p' X hX hn => func1_any k t p' w.heap.size p X hn ((hF0.later hW).later hX).cN ((hF0.later hW).later hX).nt (by omega) (by omega) (by omega))
 obtain ⟨_, _, c1, _⟩ := hF0.nt.cells
 unfold fnE
 obtain ⟨pe, hpe⟩ : ∃ pe, pe = parE s (kidT t 0).kids := ⟨_, rfl⟩
 rw [← hpe]
 have HPE : Hid (∀ n e, n < (kidT t 0).kids.length → firstE (parF s (kidT t 0).kids) n = none → parF s (kidT t 0).kids n = some e → pe = some e) := fun n e hn h1 h2 => by rw [hpe]; exact firstE_hit h1 h2 _ hn
 have HPN : Hid (firstE (parF s (kidT t 0).kids) (kidT t 0).kids.length = none → pe = none) := fun h1 => by rw [hpe]; exact h1
 generalize letE t = le at HCF
 generalize letsT (kidT t 1) = lts at HLT HCF
 generalize (kidT t 0).kids = P at HPR HPE HPN hP0
 generalize t.tx = tx at c1
 have c0' := hF0.cN
 have hpl := hF0.pl
 clear h hk hc htc hkl hkc hP1 hbA hF0 hpe
 have HN0 := hide (HNM tx)
 generalize hE0 : nmE s tx = e0 at HN0
 clear hE0
 have HC0 := hide c0'
 have HC1 := hide c1
 have HPL := hide hpl
 clear c0' c1 hpl
 go_enter Tryz.func204, Tryz.ntmps204
 go_wp2_with fail
 rw [← hwA]
 have hS0 : Below wA.heap.size wA wA.drew := (Below.refl _ _).drew
 have hpl := cell_lt HC1.out
 refine wp_region_held (S := fun X => Below wA.heap.size wA X) (by kernel_rfl) ?_
 change wpAnyH _ _ _ _ _ _ _ _ (World.drew _)
 refine wh 0 (nPtr p) hS0 ?_ (hy := Or.inl ⟨by kernel_rfl, fun X hX => by have hh := keepC hX HC0.out; go_simp⟩)
 refine wh 1 (nPtr p) hS0 ?_
 refine wh 2 (.pointer (some ⟨p, 1, none⟩)) hS0 ?_
 refine wh 3 (.string tx) hS0 ?_ (hy := Or.inl ⟨by kernel_rfl, fun X hX => by have hh := keepC hX HC1.out; go_simp⟩)
 refine wh 4 (plV s i b) hS0 ?_ (hy := Or.inl ⟨by kernel_rfl, fun X hX => by
  have hh := PlAt.later HPL.out hX; have h0 := hh.c0; have h1 := hh.c1; have h2 := hh.c2; clear hh; go_simp⟩)
 refine wq1 5 fun K hK => ?_
 go_simp
 refine cm (HN0.out _) ?_
 rintro e w2 ⟨rfl, hb2⟩
 rw [← hwA] at hb2
 have hS2 : Below wA.heap.size wA w2 := hS0.trans (hb2.mono (Nat.le_refl _))
 refine hK.out _ _ hS2 (fun _ => ?_)
 clear hK K
 refine wh 6 (erV e0) hS2 ?_
 refine wpAnyH_done (by kernel_rfl) ?_ _
 go_simp
 have HS2 := hide hS2
 clear hb2 hS2 hS0 HN0
 cases e0 with
 | some e =>
  unfold erV; exact zbct
 | none =>
  unfold erV; have d0 := keepC HS2.out HC0.out; have hd0 := cell_lt d0; have HC := hide (unhide HPR w2 HS2.out); go_wp2_with fail; refine cm HC.out ?_; rintro e w3 ⟨⟨u, rfl, hr⟩, rfl⟩; obtain ⟨va, vc, rfl⟩ := hr.form
  have HR := hide hr; clear HC hr d0 hd0; go_wp2_with fail
  go_loopw [22] (fun j wr => ∃ k : Nat, k ≤ P.length ∧ j = .int .i64 k ∧ firstE (parF s P) k = none ∧ Below w3.heap.size w3 wr) (fun j _ => P.length - (intOf j).toNat)
  case atStart => exact ⟨0, Nat.zero_le _, rfl, rfl, Below.refl _ _⟩
  case round =>
   obtain ⟨k, hk, rfl, hns, hb⟩ := hrel; have HNS := hide hns; have HB := hide hb; clear hns hb; have HBW := hide (HS2.out.trans (HB.out.mono HS2.out.size))
   by_cases hlt : k < P.length
   ·
    obtain ⟨g, cap, q, hv, hg, hc, hn⟩ := (HR.out.later HB.out).cell k hlt; simp only [Value.slice.injEq] at hv; obtain ⟨rfl, _, rfl⟩ := hv; have hki : (k : Int) < (P.length : Int) := by omega
    obtain ⟨hql, _, cx, _⟩ := hn.cells; rw [← txAt_eq P k hlt] at cx
    have HPK : Hid (parF s P k = (match nmE s (txAt P k) with | some e => some e | none => if s && namedB (P.take k) (txAt P k) then some 9 else none)) := rfl
    generalize txAt P k = x at cx HPK
    have HNX := hide (unhide HNM x)
    generalize nmE s x = ex at HNX HPK
    have HPW := hide (PlAt.later HPL.out HBW.out); have HCX := hide cx; clear hn; go_wp2_with fail; have hS0 : Below wr.heap.size wr wr.drew := (Below.refl _ _).drew
    refine wp_region_held (S := fun X => Below wr.heap.size wr X) (by kernel_rfl) ?_; change wpAnyH _ _ _ _ _ _ _ _ (World.drew _); refine wh 0 (nPtr q) hS0 ?_; refine wh 1 (nPtr q) hS0 ?_
    refine wh 2 (.pointer (some ⟨q, 1, none⟩)) hS0 ?_; refine wh 3 (.string x) hS0 ?_ (hy := Or.inl ⟨by kernel_rfl, fun X hX => by have hh := keepC hX HCX.out; go_simp⟩)
    refine wh 4 (plV s i b) hS0 ?_ (hy := Or.inl ⟨by kernel_rfl, fun X hX => by
  have hh := PlAt.later HPW.out hX; have h0 := hh.c0; have h1 := hh.c1; have h2 := hh.c2; clear hh; go_simp⟩)
    refine wq1 5 fun K hK => ?_; go_simp; refine cm (HNX.out _) ?_; rintro e w4 ⟨rfl, hb4⟩; have hS4 : Below wr.heap.size wr w4 := hS0.trans (hb4.mono (Nat.le_refl _)); refine hK.out _ _ hS4 (fun _ => ?_); clear hK K
    refine wh 6 (erV ex) hS4 ?_; refine wpAnyH_done (by kernel_rfl) ?_ _; go_simp; have HS4 := hide (HB.out.trans (hS4.mono HB.out.size)); have HW4 := hide (HBW.out.trans (hS4.mono HBW.out.size))
    have HCX4 := hide (keepC hS4 HCX.out); clear hb4 hS4 hS0 HNX cx hql hc hg
    cases ex with
    | some e =>
     have hpp : pe = some e := unhide HPE k e hlt HNS.out HPK.out; subst hpp; unfold erV; go_wp2_with fail; go_ret; exact ⟨rfl, HBA.out.trans (HW4.out.mono HBA.out.size)⟩
    | none =>
     unfold erV; have HPW4 := hide (PlAt.later HPL.out HW4.out); have hd5 := cell_lt HPW4.out.c0; have hS0 : Below w4.heap.size w4 w4.drew := (Below.refl _ _).drew
     cases s with
     | false =>
      have HPK2 : Hid (parF false P k = none) := unhide HPK; go_wp2_with fail; refine wp_region_held (S := fun X => Below w4.heap.size w4 X) (by kernel_rfl) ?_; change wpAnyH _ _ _ _ _ _ _ _ (World.drew _)
      refine wh 0 (.pointer (some ⟨w.heap.size + 1, 0, none⟩)) hS0 ?_; refine wh 1 (.bool false) hS0 ?_ (hy := Or.inl ⟨by kernel_rfl, fun X hX => by have hh := keepC hX HPW4.out.c0; go_simp⟩)
      refine wh 2 (.bool false) hS0 ?_; refine wh 3 undef hS0 ?_ (hy := Or.inr ⟨by kernel_rfl, rfl⟩); refine wh 5 undef hS0 ?_ (hy := Or.inr ⟨by kernel_rfl, rfl⟩)
      refine wh 7 undef hS0 ?_ (hy := Or.inr ⟨by kernel_rfl, rfl⟩); refine wh 8 undef hS0 ?_ (hy := Or.inr ⟨by kernel_rfl, rfl⟩); refine wh 9 undef hS0 ?_ (hy := Or.inr ⟨by kernel_rfl, rfl⟩)
      refine wh 10 undef hS0 ?_ (hy := Or.inr ⟨by kernel_rfl, rfl⟩); refine wq1 4 fun K hK => ?_; go_simp; refine hK.out _ _ hS0 (fun _ => ?_); clear hK K; refine wh 6 undef hS0 ?_ (hy := Or.inr ⟨by kernel_rfl, rfl⟩)
      refine wq1 11 fun K hK => ?_; go_simp; refine hK.out _ _ hS0 (fun _ => ?_); clear hK K; refine wh 12 (.bool false) hS0 ?_; refine wpAnyH_done (by kernel_rfl) ?_ _; go_simp; clear hS0; go_wp2_with fail
      go_roundw
      case rel => exact ⟨k + 1, by omega, by go_num, firstE_step HNS.out HPK2.out, HS4.out.drew⟩
      case measure => simp [intOf]; omega
     | true =>
      have HPR4 := hide (unhide HPR w4.drew HW4.out.drew); have HCN4 := hide (keepC HW4.out HC0.out); have hcn4 := cell_lt HCN4.out; have hq4 := cell_lt HCX4.out; obtain ⟨r, hr⟩ : ∃ r, r = namedB (P.take k) x := ⟨_, rfl⟩
      have HPK2 : Hid (parF true P k = if r then some 9 else none) := by rw [hr]; exact unhide HPK
      have HRK := hide hr; clear hr; go_wp2_with fail; refine wp_region_held (S := fun X => Below w4.heap.size w4 X) (by kernel_rfl) ?_; change wpAnyH _ _ _ _ _ _ _ _ (World.drew _)
      refine wh 0 (.pointer (some ⟨w.heap.size + 1, 0, none⟩)) hS0 ?_; refine wh 1 (.bool true) hS0 ?_ (hy := Or.inl ⟨by kernel_rfl, fun X hX => by have hh := keepC hX HPW4.out.c0; go_simp⟩)
      refine wh 2 (.bool true) hS0 ?_; refine wh 3 (nPtr p) hS0 ?_ (hy := Or.inl ⟨by kernel_rfl, fun X hX => by have hh := keepC hX HCN4.out; go_simp⟩)
      refine wh 5 (.int .i64 k) hS0 ?_; refine wh 7 (nPtr q) hS0 ?_; refine wh 8 (nPtr q) hS0 ?_; refine wh 9 (.pointer (some ⟨q, 1, none⟩)) hS0 ?_
      refine wh 10 (.string x) hS0 ?_ (hy := Or.inl ⟨by kernel_rfl, fun X hX => by have hh := keepC hX HCX4.out; go_simp⟩)
      refine wq1 4 fun K hK => ?_; go_simp; refine cm HPR4.out ?_; rintro e w5 ⟨⟨u5, rfl, hr5⟩, rfl⟩; obtain ⟨g5, c5, rfl, hcap, hcm⟩ := nrow_some hr5 (by omega); refine hK.out _ _ hS0 (fun _ => ?_); clear hK K HPR4
      have HC5 := hide (named_any (P.take k) _ x w4.drew (hr5.take k (by omega)) (by rw [List.length_take]; omega))
      rw [← HRK.out] at HC5; have hk5 : (k : Int) ≤ (c5 : Int) := by omega
      clear hr5 HRK; refine wh 6 (.slice (some ⟨g5, 0, none⟩) k c5) hS0 ?_; refine wq1 11 fun K hK => ?_; go_simp; refine cm HC5.out ?_; rintro e w6 ⟨rfl, hb6⟩
      have hS6 : Below w4.heap.size w4 w6 := hS0.trans (hb6.mono (Nat.le_refl _)); refine hK.out _ _ hS6 (fun _ => ?_); clear hK K HC5; refine wh 12 (.bool r) hS6 ?_; refine wpAnyH_done (by kernel_rfl) ?_ _; go_simp
      have HS6 := hide (HS4.out.trans (hS6.mono HS4.out.size)); have HW6 := hide (HW4.out.trans (hS6.mono HW4.out.size)); clear hS0 hS6 hb6
      cases r with
      | true =>
       have hpp : pe = some 9 := unhide HPE k 9 hlt HNS.out HPK2.out; subst hpp; go_wp2_with fail; go_ret; exact ⟨rfl, HBA.out.trans (HW6.out.mono HBA.out.size)⟩
      | false =>
       go_wp2_with fail
       go_roundw
       case rel => exact ⟨k + 1, by omega, by go_num, firstE_step HNS.out HPK2.out, HS6.out⟩
       case measure => simp [intOf]; omega
   ·
    have hkk : k = P.length := by omega
    subst hkk; have hpn : pe = none := unhide HPN HNS.out; subst hpn; have d0 := keepC HBW.out HC0.out; have hd0 := cell_lt d0; have HC := hide (unhide HBK wr HBW.out); go_wp2_with fail; refine cm HC.out ?_
    rintro e w4 ⟨⟨q, rfl, hq⟩, rfl⟩; have HC2 := hide (unhide HLT q w4 hq); clear HC hq; go_wp2_with fail; refine cm HC2.out ?_; rintro e w5 ⟨⟨u5, rfl, hr5⟩, hb5⟩; obtain ⟨la, lc, rfl⟩ := hr5.form
    have HB5 := hide (HBW.out.trans (hb5.mono HBW.out.size)); have HC3 := hide (unhide HCF _ w5 _ HB5.out hr5); clear HC2 hr5 hb5
    cases le <;>
    ·
     go_wp2_with fail; refine cm HC3.out ?_; rintro e w6 ⟨rfl, hb6⟩; have HB6 := hide (HB5.out.trans (hb6.mono HB5.out.size)); clear HC3 hb6; go_wp2_with fail; go_ret; exact ⟨rfl, HBA.out.trans (HB6.out.mono HBA.out.size)⟩
end Go.Proofs.YtodmgaikhbmlnaaGreatDoor
namespace Go.Proofs.YtodmgaikhbmlnaaGreatDoor
inductive Shp (Nm : ByteArray → Prop) : Nat → Tr → Prop
 | name {s} (h : Nm s) : Shp Nm 0 (.mk 23 s 0 [])
 | str (s : ByteArray) : Shp Nm 0 (.mk 18 s 0 [])
 | num (n : Int) : Shp Nm 0 (.mk 17 noText n [])
 | lit {kd} (hk : kd = 19 ∨ kd = 20 ∨ kd = 21 ∨ kd = 22) : Shp Nm 0 (.mk kd noText 0 [])
 | memb {s t} (h : Nm s) (ht : Shp Nm 0 t) : Shp Nm 0 (.mk 36 s 0 [t])
 | call {t ts} (ht : Shp Nm 0 t) (hs : ∀ u ∈ ts, Shp Nm 0 u) (hl : ts.length ≤ 8) : Shp Nm 0 (.mk 35 noText 0 (t :: ts))
 | one {kd t} (hk : kd = 32 ∨ kd = 33 ∨ kd = 34) (ht : Shp Nm 0 t) : Shp Nm 0 (.mk kd noText 0 [t])
 | two {kd a b} (hk : 25 ≤ kd ∧ kd ≤ 31) (ha : Shp Nm 0 a) (hb : Shp Nm 0 b) : Shp Nm 0 (.mk kd noText 0 [a, b])
 | asg {a b} (hk : a.kd = 23 ∨ a.kd = 36) (ha : Shp Nm 0 a) (hb : Shp Nm 0 b) : Shp Nm 0 (.mk 24 noText 0 [a, b])
 | obj {ps} (hs : ∀ u ∈ ps, Shp Nm 2 u) (hl : ps.length ≤ 8) : Shp Nm 0 (.mk 38 noText 0 ps)
 | lam {s p b} (h : s = noText ∨ Nm s) (hp : Shp Nm 5 p) (hb : Shp Nm 4 b) : Shp Nm 0 (.mk 37 s 0 [p, b])
 | prop {s v} (h : Nm s) (hv : Shp Nm 0 v) : Shp Nm 2 (.mk 39 s 0 [v])
 | par {s} (h : Nm s) : Shp Nm 6 (.mk 23 s 0 [])
 | pars {ps} (hs : ∀ u ∈ ps, Shp Nm 6 u) (hl : ps.length ≤ 8) : Shp Nm 5 (.mk 40 noText 0 ps)
 | blk {ts} (hs : ∀ u ∈ ts, Shp Nm 1 u) : Shp Nm 3 (.mk 6 noText 0 ts)
 | body {tx ts} (ht : tx = noText ∨ tx = tStrict) (hs : ∀ u ∈ ts, Shp Nm 1 u) : Shp Nm 4 (.mk 6 tx 0 ts)
 | decl {kd s v} (hk : kd = 2 ∨ kd = 3 ∨ kd = 4) (h : Nm s) (hv : ∀ u ∈ v, Shp Nm 0 u) (hl : v.length ≤ 1) (hc : kd = 4 → v.length = 1) : Shp Nm 1 (.mk kd s 0 v)
 | func {s p b} (h : Nm s) (hp : Shp Nm 5 p) (hb : Shp Nm 4 b) : Shp Nm 1 (.mk 5 s 0 [p, b])
 | sblk {t} (h : Shp Nm 3 t) : Shp Nm 1 t
 | sif {v s} (hv : Shp Nm 0 v) (hs : Shp Nm 1 s) : Shp Nm 1 (.mk 7 noText 0 [v, s])
 | sife {v s e} (hv : Shp Nm 0 v) (hs : Shp Nm 1 s) (he : Shp Nm 1 e) : Shp Nm 1 (.mk 7 noText 0 [v, s, e])
 | loop {kd v s} (hk : kd = 8 ∨ kd = 9) (hv : Shp Nm 0 v) (hs : Shp Nm 1 s) : Shp Nm 1 (.mk kd noText 0 [v, s])
 | give {kd v} (hk : kd = 10 ∨ kd = 11) (hv : ∀ u ∈ v, Shp Nm 0 u) (hl : v.length ≤ 1) (hc : kd = 11 → v.length = 1) : Shp Nm 1 (.mk kd noText 0 v)
 | atm {b c f} (hb : Shp Nm 3 b) (hc : ∀ u ∈ c, Shp Nm 7 u) (hf : ∀ u ∈ f, Shp Nm 8 u) (hl : c.length ≤ 1 ∧ f.length ≤ 1 ∧ 0 < c.length + f.length) : Shp Nm 1 (.mk 12 noText 0 (b :: (c ++ f)))
 | cat {s b} (h : Nm s) (hb : Shp Nm 3 b) : Shp Nm 7 (.mk 13 s 0 [b])
 | fin {b} (hb : Shp Nm 3 b) : Shp Nm 8 (.mk 14 noText 0 [b])
 | empty : Shp Nm 1 (.mk 16 noText 0 [])
 | expr {v} (hv : Shp Nm 0 v) : Shp Nm 1 (.mk 15 noText 0 [v])
 | prog {tx ts} (ht : tx = noText ∨ tx = tStrict) (hs : ∀ u ∈ ts, Shp Nm 1 u) : Shp Nm 9 (.mk 1 tx 0 ts)
theorem codeT_mk (kd : Int) (n : Int) (ts : List Tr) : ∃ tx, (tx = noText ∨ tx = tStrict) ∧ codeT (.mk kd noText n ts) = .mk kd tx n ts := by
 unfold codeT
 split
 ·
  rename_i h; cases h; split
  ·
   exact ⟨_, Or.inr rfl, rfl⟩
  ·
   exact ⟨_, Or.inl rfl, rfl⟩
 ·
  exact ⟨_, Or.inl rfl, rfl⟩
theorem Shp.toBody {Nm : ByteArray → Prop} {t : Tr} (h : Shp Nm 3 t) : Shp Nm 4 (codeT t) := by
 cases h with
 | blk hs => obtain ⟨tx, h1, h2⟩ := codeT_mk 6 0 _; rw [h2]; exact .body h1 hs
theorem sgP_mem {k : Int} {x : ByteArray} {s : Sg} (h : sgP k x = some s) : s ∈ sgs ∧ s.parts = k := by
 unfold sgP at h
 have h1 := Option.filter_eq_some_iff.1 h
 exact ⟨List.mem_of_find?_eq_some h1.1, by simpa using h1.2⟩
def keyOk (q : Nat) (k : Int) : Bool := match q with
 | 0 => k == 2 || k == 3 || k == 4
 | 4 => k == 7
 | 5 => k == 8 || k == 9
 | 6 => k == 10 || k == 11
 | _ => true
section
variable {l : List Tk}
def NmL (l : List Tk) (s : ByteArray) : Prop := ∃ i, (tkA l i).kd = 1 ∧ (tkA l i).tx = s
theorem name_nm {i j : Nat} {s : ByteArray} (h : nameP l i = .ok s j) : NmL l s := by
 unfold nameP at h
 split at h
 ·
  rename_i h1; cases h; exact ⟨i, h1, rfl⟩
 ·
  cases h
theorem key_hd {q i : Nat} (h : look2 stKeys (fx l i) = some q) : keyOk q (hdKind (tkA l i).tx) = true := by
 unfold look2 at h
 cases hf : stKeys.find? (fun e => decide (fx l i = e.1)) with
 | none => rw [hf] at h; cases h
 | some e =>
  rw [hf] at h; have h1 := List.mem_of_find?_eq_some hf; have h2 : fx l i = e.1 := by simpa using List.find?_some hf
  have h3 : ∀ e ∈ stKeys, keyOk e.2 (hdKind e.1) = true ∧ e.1 ≠ noText := by decide +kernel
  have h4 : (tkA l i).tx = e.1 := by
   unfold fx at h2
   split at h2
   ·
    exact h2
   ·
    exact absurd h2.symm (h3 e h1).2
  cases h; rw [h4]; exact (h3 e h1).1
abbrev Kh (l : List Tk) (c : Nat) (r : PR Tr) : Prop := ∀ t j, r = .ok t j → Shp (NmL l) c t
theorem deep_kh {c : Nat} {f : Nat → Nat → PR Tr} {d i : Nat} (h : Kh l c (f (d + 1) i)) : Kh l c (deepP l f d i) := by
 unfold deepP
 split
 ·
  intro t j e; cases e
 ·
  exact h
theorem mem_app {P : Tr → Prop} {acc : List Tr} {u : Tr} (ha : ∀ x ∈ acc, P x) (hu : P u) : ∀ x ∈ acc ++ [u], P x := by
 intro x hx
 rcases List.mem_append.1 hx with h | h
 ·
  exact ha x h
 ·
  rw [List.mem_singleton.1 h]; exact hu
theorem listLoop_kh {c : Nat} {shut : ByteArray} {begins : Nat → Bool} {part : Nat → PR Tr} (hb : ∀ i t j, part i = .ok t j → begins i = true) (hp : ∀ i, Kh l c (part i)) : ∀ k acc i t j, (∀ x ∈ acc, Shp (NmL l) c x) → acc.length ≤ 8 → listLoop l shut begins part k acc i = .ok t j → (∀ x ∈ t, Shp (NmL l) c x) ∧ t.length ≤ 8 := by
 intro k
 induction k with
 | zero => intro acc i t j _ _ h; cases h
 | succ k ih =>
  intro acc i t j ha hl h; unfold listLoop at h
  split at h
  ·
   cases h
  ·
   rename_i hn
   obtain ⟨u, i1, h1, h⟩ := binds h; have hu := mem_app ha (hp i u i1 h1); have hl2 : (acc ++ [u]).length ≤ 8 := by
    have : acc.length ≠ 8 := fun e => hn ⟨e, hb _ _ _ h1⟩; simp; omega
   split at h
   ·
    cases h; exact ⟨hu, hl2⟩
   ·
    obtain ⟨_, i2, h2, h⟩ := binds h; exact ih _ _ _ _ hu hl2 h
theorem list_kh {c : Nat} {opn shut : ByteArray} {begins : Nat → Bool} {part : Nat → PR Tr} (hb : ∀ i t j, part i = .ok t j → begins i = true) (hp : ∀ i, Kh l c (part i)) {k i j : Nat} {t : List Tr} (h : listP l opn shut begins part k i = .ok t j) : (∀ x ∈ t, Shp (NmL l) c x) ∧ t.length ≤ 8 := by
 unfold listP at h
 obtain ⟨_, i1, h1, h⟩ := binds h
 split at h
 ·
  cases h; exact ⟨fun _ h => (by cases h), by simp⟩
 ·
  exact listLoop_kh hb hp _ _ _ _ _ (fun _ h => by cases h) (by simp) h
theorem isName_name {i j : Nat} {s : ByteArray} (h : nameP l i = .ok s j) : isName l i = true := by
 unfold nameP at h
 split at h
 ·
  rename_i h1; unfold isName; rw [h1]; rfl
 ·
  cases h
structure FKh (l : List Tk) (F : Fns) : Prop where
 st : ∀ d i, Kh l 1 (F.st d i)
 vl : ∀ d i, Kh l 0 (F.vl d i)
 pr : ∀ b d i, Kh l 0 (F.pr b d i)
 sg : ∀ d i, Kh l 0 (F.sg d i)
 bg : ∀ d i t j, F.vl d i = .ok t j → isVal l i = true
 bp : ∀ b d i t j, F.pr b d i = .ok t j → isVal l i = true
 bs : ∀ d i t j, F.sg d i = .ok t j → isVal l i = true
variable {F : Fns} (hF : FKh l F)
include hF
theorem blockLoop_kh {d : Nat} : ∀ k acc i t j, (∀ x ∈ acc, Shp (NmL l) 1 x) → blockLoop l F d k acc i = .ok t j → ∀ x ∈ t, Shp (NmL l) 1 x := by
 intro k
 induction k with
 | zero => intro acc i t j _ h; cases h
 | succ k ih =>
  intro acc i t j ha h; unfold blockLoop at h; exact zbgf
theorem block_kh {d i : Nat} : Kh l 3 (blockP l F d i) := by
 intro t j h
 unfold blockP at h
 obtain ⟨_, i1, h1, h⟩ := binds h
 obtain ⟨ts, i2, h2, h⟩ := binds h
 cases h
 exact .blk (blockLoop_kh hF _ _ _ _ _ (fun _ h => by cases h) h2)
omit hF in
theorem params_kh {i : Nat} : Kh l 5 (paramsP l F i) := by
 intro t j h
 unfold paramsP at h
 obtain ⟨ts, i1, h1, h⟩ := binds h
 cases h
 have := list_kh (c := 6) (fun i t j h => by unfold paramP at h; obtain ⟨_, _, h1, _⟩ := binds h; exact isName_name h1) (fun i t j h => by unfold paramP at h; obtain ⟨_, _, h1, h⟩ := binds h; cases h; exact .par (name_nm h1)) h1
 exact .pars this.1 this.2
theorem inPar_kh (d i : Nat) : Kh l 0 (inParP l F d i) := by
 intro t j h
 unfold inParP at h
 obtain ⟨_, i1, h1, h⟩ := binds h
 obtain ⟨u, i2, h2, h⟩ := binds h
 obtain ⟨_, i3, h3, h⟩ := binds h
 cases h
 exact deep_kh (hF.vl _ _) _ _ h2
theorem object_kh (d i : Nat) : Kh l 0 (objectP l F d i) := by
 intro t j h
 unfold objectP at h
 obtain ⟨ts, i1, h1, h⟩ := binds h
 cases h
 have := list_kh (c := 2) (fun i t j h => by unfold propP at h; obtain ⟨_, _, h1, _⟩ := binds h; exact isName_name h1) (fun i t j h => by
  unfold propP at h; obtain ⟨_, _, h1, h⟩ := binds h; obtain ⟨_, _, _, h⟩ := binds h; obtain ⟨_, _, h3, h⟩ := binds h; cases h; exact .prop (name_nm h1) (deep_kh (hF.vl _ _) _ _ h3)) h1
 exact .obj this.1 this.2
theorem tail_kh {kd : Int} {s : ByteArray} {d i j : Nat} {t : Tr} (h : funcTail l F kd s d i = .ok t j) : ∃ p b, t = .mk kd s 0 [p, b] ∧ Shp (NmL l) 5 p ∧ Shp (NmL l) 4 b := by
 unfold funcTail at h
 obtain ⟨ps, i1, h1, h⟩ := binds h
 obtain ⟨b, i2, h2, h⟩ := binds h
 cases h
 exact ⟨_, _, rfl, params_kh _ _ h1, (block_kh hF _ _ h2).toBody⟩
theorem lambda_kh (d i : Nat) : Kh l 0 (lambdaP l F d i) := by
 intro t j h
 unfold lambdaP at h
 obtain ⟨_, i1, h1, h⟩ := binds h
 split at h
 ·
  obtain ⟨s, i2, h2, h⟩ := binds h; obtain ⟨p, b, rfl, hp, hb⟩ := tail_kh hF h; exact .lam (Or.inr (name_nm h2)) hp hb
 ·
  obtain ⟨p, b, rfl, hp, hb⟩ := tail_kh hF h; exact .lam (Or.inl rfl) hp hb
theorem alone_kh (d i : Nat) : Kh l 0 (aloneP l F d i) := by
 unfold aloneP
 split
 ·
  exact inPar_kh hF d i
 ·
  exact object_kh hF d i
 ·
  exact lambda_kh hF d i
 ·
  split
  ·
   rename_i hsg; intro t j h; cases h
   have h2 : ∀ s ∈ sgs, s.parts = 0 → s.kd = 19 ∨ s.kd = 20 ∨ s.kd = 21 ∨ s.kd = 22 := by decide +kernel
   exact .lit (h2 _ (sgP_mem hsg).1 (sgP_mem hsg).2)
  ·
   split
   ·
    rename_i h1; intro t j h; cases h; exact .name ⟨i, h1, rfl⟩
   ·
    split
    ·
     intro t j h; cases h; exact .str _
    ·
     split
     ·
      intro t j h; cases h; exact .num _
     ·
      intro t j h; cases h
omit hF in
theorem alone_bg {d i j : Nat} {t : Tr} (h : aloneP l F d i = .ok t j) : isVal l i = true := by
 unfold isVal
 unfold aloneP at h
 cases hk : look2 vlKeys (fx l i) with
 | some q => simp
 | none =>
  rw [hk] at h; simp only at h
  cases hs : sgP 0 (fx l i) with
  | some s =>
   have h1 := sgP_mem hs; have h3 : ((sgOf (fx l i)).filter (fun e => decide (e.parts < 2))).isSome = true := by
    unfold sgP at hs; have h2 := Option.filter_eq_some_iff.1 hs; rw [h2.1]; simp [Option.filter, h1.2]
   rw [h3]; simp
  | none =>
   rw [hs] at h; simp only at h
   split at h
   ·
    rename_i h1; simp [h1]
   ·
    split at h
    ·
     rename_i h1; simp [h1]
    ·
     split at h
     ·
      rename_i h1; simp [h1]
     ·
      cases h
theorem askedLoop_kh {d : Nat} : ∀ k u i t j, Shp (NmL l) 0 u → askedLoop l F d k u i = .ok t j → Shp (NmL l) 0 t := by
 intro k
 induction k with
 | zero => intro u i t j _ h; cases h
 | succ k ih =>
  intro u i t j hu h; unfold askedLoop at h
  split at h
  ·
   obtain ⟨s, i1, h1, h⟩ := binds h; exact ih _ _ _ _ (.memb (name_nm h1) hu) h
  ·
   split at h
   ·
    obtain ⟨ts, i1, h1, h⟩ := binds h; have := list_kh (c := 0) (fun i t j h => by
     unfold deepP at h
     split at h
     ·
      cases h
     ·
      exact hF.bg _ _ _ _ h) (fun i => deep_kh (hF.vl _ _)) h1
    exact ih _ _ _ _ (.call hu this.1 this.2) h
   ·
    cases h; exact hu
theorem single_kh (d i : Nat) : Kh l 0 (singleP l F d i) := by
 unfold singleP
 split
 ·
  rename_i hsg
  intro t j h; obtain ⟨u, i1, h1, h⟩ := binds h; cases h; have h2 : ∀ s ∈ sgs, s.parts = 1 → s.kd = 32 ∨ s.kd = 33 ∨ s.kd = 34 := by decide +kernel
  exact .one (h2 _ (sgP_mem hsg).1 (sgP_mem hsg).2) (deep_kh (hF.sg _ _) u _ h1)
 ·
  intro t j h; unfold askedP at h; obtain ⟨u, i1, h1, h⟩ := binds h; exact askedLoop_kh hF _ _ _ _ _ (alone_kh hF d i u i1 h1) h
omit hF in
theorem single_bg (d i : Nat) (t : Tr) (j : Nat) (h : singleP l F d i = .ok t j) : isVal l i = true := by
 unfold singleP at h
 cases hs : sgP 1 (fx l i) with
 | some s =>
  have h1 := sgP_mem hs; have h3 : ((sgOf (fx l i)).filter (fun e => decide (e.parts < 2))).isSome = true := by
   unfold sgP at hs; have h2 := Option.filter_eq_some_iff.1 hs; rw [h2.1]; simp [Option.filter, h1.2]
  unfold isVal; rw [h3]; simp
 | none =>
  rw [hs] at h; simp only at h; unfold askedP at h; obtain ⟨u, i1, h1, _⟩ := binds h; exact alone_bg h1
theorem pairLoop_kh {b : Int} {d : Nat} : ∀ k u i t j, Shp (NmL l) 0 u → pairLoop l F b d k u i = .ok t j → Shp (NmL l) 0 t := by
 intro k
 induction k with
 | zero => intro u i t j _ h; cases h
 | succ k ih =>
  intro u i t j hu h; unfold pairLoop at h
  split at h
  ·
   cases h; exact hu
  ·
   rename_i hsg
   split at h
   ·
    cases h; exact hu
   ·
    obtain ⟨v, i1, h1, h⟩ := binds h; have h2 : ∀ s ∈ sgs, s.parts = 2 → 25 ≤ s.kd ∧ s.kd ≤ 31 := by decide +kernel
    exact ih _ _ _ _ (.two (h2 _ (sgP_mem hsg).1 (sgP_mem hsg).2) hu (hF.pr _ _ _ v i1 h1)) h
theorem pair_kh (b : Int) (d i : Nat) : Kh l 0 (pairP l F b d i) := by
 intro t j h
 unfold pairP at h
 obtain ⟨u, i1, h1, h⟩ := binds h
 exact pairLoop_kh hF _ _ _ _ _ (hF.sg _ _ u i1 h1) h
theorem value_kh (d i : Nat) : Kh l 0 (valueP l F d i) := by
 intro t j h
 unfold valueP at h
 obtain ⟨u, i1, h1, h⟩ := binds h
 have e1 := hF.pr _ _ _ u i1 h1
 split at h
 ·
  split at h
  ·
   rename_i hk
   obtain ⟨v, i2, h2, h⟩ := binds h; cases h; exact .asg hk e1 (deep_kh (hF.vl _ _) v _ h2)
  ·
   cases h
 ·
  cases h; exact e1
theorem part_kh (d q i : Nat) (hq : keyOk q (hdKind (tkA l i).tx) = true) : Kh l 1 (partP l F d q i) := by
 intro t j h
 unfold partP at h
 split at h
 ·
  have hk : hdKind (tkA l i).tx = 2 ∨ hdKind (tkA l i).tx = 3 ∨ hdKind (tkA l i).tx = 4 := by simpa [keyOk, or_assoc] using hq
  unfold declP at h; obtain ⟨s, i1, h1, h⟩ := binds h
  split at h
  ·
   cases h
  ·
   rename_i hn
   split at h
   ·
    obtain ⟨v, i2, h2, h⟩ := binds h; obtain ⟨_, i3, h3, h⟩ := binds h; cases h; have e2 := deep_kh (hF.vl _ _) v _ h2
    exact .decl hk (name_nm h1) (fun u hu => by rw [List.mem_singleton.1 hu]; exact e2) (by simp) (by simp)
   ·
    rename_i hx
    obtain ⟨_, i3, h3, h⟩ := binds h; cases h; exact .decl hk (name_nm h1) (fun u hu => by cases hu) (by simp) (fun e => absurd ⟨e, hx⟩ hn)
 ·
  unfold funcP at h; obtain ⟨_, i1, h1, h⟩ := binds h; obtain ⟨s, i2, h2, h⟩ := binds h; obtain ⟨p, b, rfl, hp, hb⟩ := tail_kh hF h; exact .func (name_nm h2) hp hb
 ·
  exact .sblk (block_kh hF _ _ h)
 ·
  obtain ⟨_, i3, h3, h⟩ := binds h; cases h; exact .empty
 ·
  have hk : hdKind (tkA l i).tx = 7 := by simpa [keyOk] using hq
  unfold choiceP at h; rw [hk] at h; obtain ⟨v, i1, h1, h⟩ := binds h; obtain ⟨s, i2, h2, h⟩ := binds h; have e1 := inPar_kh hF d _ v i1 h1; have e2 := deep_kh (hF.st _ _) s _ h2
  split at h
  ·
   obtain ⟨s2, i3, h3, h⟩ := binds h; cases h; exact .sife e1 e2 (deep_kh (hF.st _ _) s2 _ h3)
  ·
   cases h; exact .sif e1 e2
 ·
  have hk : hdKind (tkA l i).tx = 8 ∨ hdKind (tkA l i).tx = 9 := by simpa [keyOk] using hq
  unfold behindP at h; obtain ⟨v, i1, h1, h⟩ := binds h; obtain ⟨s, i2, h2, h⟩ := binds h; cases h; exact .loop hk (inPar_kh hF d _ v i1 h1) (deep_kh (hF.st _ _) s _ h2)
 ·
  have hk : hdKind (tkA l i).tx = 10 ∨ hdKind (tkA l i).tx = 11 := by simpa [keyOk] using hq
  unfold givingP at h
  split at h
  ·
   obtain ⟨v, i1, h1, h⟩ := binds h; obtain ⟨_, i2, h2, h⟩ := binds h; cases h; have e1 := deep_kh (hF.vl _ _) v _ h1; exact .give hk (fun u hu => by rw [List.mem_singleton.1 hu]; exact e1) (by simp) (by simp)
  ·
   rename_i hn
   obtain ⟨_, i2, h2, h⟩ := binds h; cases h; exact .give hk (fun u hu => by cases hu) (by simp) (fun e => absurd (Or.inl e) hn)
 ·
  unfold attemptP at h; obtain ⟨_, i0, h0, h⟩ := binds h; obtain ⟨b, i1, h1, h⟩ := binds h; obtain ⟨c, i2, h2, h⟩ := binds h; obtain ⟨f, i3, h3, h⟩ := binds h; have e2 : (∀ u ∈ c, Shp (NmL l) 7 u) ∧ c.length ≤ 1 := by
   unfold catchP at h2
   split at h2
   ·
    obtain ⟨_, k1, g1, h2⟩ := binds h2; obtain ⟨_, k2, g2, h2⟩ := binds h2; obtain ⟨_, k3, g3, h2⟩ := binds h2; obtain ⟨bb, k4, g4, h2⟩ := binds h2; cases h2
    exact ⟨fun u hu => by rw [List.mem_singleton.1 hu]; exact .cat (name_nm g2) (block_kh hF _ _ g4), by simp⟩
   ·
    cases h2; exact ⟨fun u hu => (by cases hu), by simp⟩
  have e3 : (∀ u ∈ f, Shp (NmL l) 8 u) ∧ f.length ≤ 1 := by
   unfold finallyP at h3
   split at h3
   ·
    obtain ⟨bb, k4, g4, h3⟩ := binds h3; cases h3; exact ⟨fun u hu => by rw [List.mem_singleton.1 hu]; exact .fin (block_kh hF _ _ g4), by simp⟩
   ·
    cases h3; exact ⟨fun u hu => (by cases hu), by simp⟩
  split at h
  ·
   cases h
  ·
   rename_i hn
   cases h; exact .atm (block_kh hF _ _ h1) e2.1 e3.1 ⟨e2.2, e3.2, by omega⟩
theorem statement_kh (d i : Nat) : Kh l 1 (statementP l F d i) := by
 unfold statementP
 split
 ·
  rename_i hq; exact part_kh hF d _ i (key_hd hq)
 ·
  intro t j h; unfold exprP at h; obtain ⟨v, i1, h1, h⟩ := binds h; obtain ⟨_, i2, h2, h⟩ := binds h; cases h; exact .expr (deep_kh (hF.vl _ _) v _ h1)
omit hF in
theorem fns_kh : ∀ k, FKh l (fns l k) := by
 intro k
 induction k with
 | zero => exact ⟨fun _ _ _ _ h => by (cases h), fun _ _ _ _ h => by (cases h), fun _ _ _ _ _ h => by (cases h), fun _ _ _ _ h => by (cases h), fun _ _ _ _ h => by (cases h), fun _ _ _ _ _ h => by (cases h), fun _ _ _ _ h => by (cases h)⟩
 | succ k ih => exact ⟨statement_kh ih, value_kh ih, pair_kh ih, single_kh ih, fun d i t j h => by
   change valueP l (fns l k) d i = _ at h; unfold valueP at h; obtain ⟨u, i1, h1, _⟩ := binds h; exact ih.bp _ _ _ _ _ h1, fun b d i t j h => by
   change pairP l (fns l k) b d i = _ at h; unfold pairP at h; obtain ⟨u, i1, h1, _⟩ := binds h; exact ih.bs _ _ _ _ h1, single_bg⟩
theorem progLoop_kh : ∀ k acc i t j, (∀ x ∈ acc, Shp (NmL l) 1 x) → progLoop l F k acc i = .ok t j → ∀ x ∈ t, Shp (NmL l) 1 x := by
 intro k
 induction k with
 | zero => intro acc i t j _ h; cases h
 | succ k ih =>
  intro acc i t j ha h; unfold progLoop at h; exact zbgf
theorem prog_kh : Kh l 9 (progP l F) := by
 intro t j h
 unfold progP at h
 obtain ⟨ts, i1, h1, h⟩ := binds h
 cases h
 obtain ⟨tx, h2, h3⟩ := codeT_mk 1 0 ts
 rw [h3]
 exact .prog h2 (progLoop_kh hF _ _ _ _ _ (fun _ h => by cases h) h1)
end
theorem parse_sh {ws signs : List ByteArray} {s : ByteArray} {t : Tr} (h : parseS ws signs s = .ok t) : ∃ l, toksR ws signs s (pastN gapB s 0) [] = .ok l ∧ Shp (NmL l) 9 t := by
 unfold parseS at h
 split at h
 ·
  cases h
 ·
  split at h
  ·
   cases h
  ·
   rename_i l hl
   refine ⟨l, hl, ?_⟩
   cases hp : progP l (fns l KK) with
   | out => rw [hp] at h; cases h
   | bad er p => rw [hp] at h; cases h
   | ok t2 j =>
    rw [hp] at h; simp only at h
    split at h
    ·
     cases h
    ·
     cases h; exact prog_kh (fns_kh _) _ _ hp
end Go.Proofs.YtodmgaikhbmlnaaGreatDoor
namespace Go.Proofs.YtodmgaikhbmlnaaGreatDoor
open Go.RowKit
def eI : Option Int → Value
 | none => .int .i64 0
 | some e => .int .i64 e
theorem eaEn88 : ∀ args W, (callFunc 88 args).run Tryz.prog W = .ok (.enter 88 args) W := fun _ _ => by kernel_rfl
theorem eaEn89 : ∀ args W, (callFunc 89 args).run Tryz.prog W = .ok (.enter 89 args) W := fun _ _ => by kernel_rfl
theorem eaEn90 : ∀ args W, (callFunc 90 args).run Tryz.prog W = .ok (.enter 90 args) W := fun _ _ => by kernel_rfl
abbrev spV : Value := .func (.func 88) #[] #[]
abbrev alV (bW : Nat) : Value := .func (.func 89) #[] #[.pointer (some ⟨bW, 0, none⟩)]
abbrev waV (bS bA : Nat) : Value := .func (.func 90) #[] #[.pointer (some ⟨bS, 0, none⟩), .pointer (some ⟨bA, 0, none⟩)]
structure EaSt (bS bW bA : Nat) (w : World) : Prop where
 hS : w.cell? ⟨bS, 0, none⟩ = some spV
 hW : w.cell? ⟨bW, 0, none⟩ = some (waV bS bA)
 hA : w.cell? ⟨bA, 0, none⟩ = some (alV bW)
theorem EaSt.later {bS bW bA : Nat} {w X : World} (h : EaSt bS bW bA w) (hb : Below w.heap.size w X) : EaSt bS bW bA X := ⟨keepC hb h.hS, keepC hb h.hW, keepC hb h.hA⟩
theorem special_any (s : Bool) (x : ByteArray) (w : World) : Calls Tryz.prog 88 #[.string x, .bool s] w fun e w' => e = .returned (.bool (s && isSp x)) ∧ w' = w := by
 unfold isSp
 cases s with
 | false =>
  exact zbet
 | true =>
  by_cases h1 : x = tEval
  ·
   have e1 := tl_eqL (b := tEval) rfl h1; rw [decide_eq_true h1]; clear h1; exact zbet
  ·
   have e1 := tl_neL (b := tEval) rfl h1; rw [decide_eq_false h1]; clear h1
   by_cases h2 : x = tArgs
   ·
    have e2 := tl_eqL (b := tArgs) rfl h2; rw [decide_eq_true h2]; clear h2; exact zbet
   ·
    have e2 := tl_neL (b := tArgs) rfl h2; rw [decide_eq_false h2]; clear h2; exact zbet
theorem sbody_any (t : Tr) (p : Nat) (w : World) (h : NTr w t p) : Calls Tryz.prog 91 #[nPtr p] w fun e w' => e = .returned (.bool (decide (t.tx = tStrict))) ∧ w' = w := by
 obtain ⟨hpl, _, c1, _⟩ := h.cells
 clear h
 by_cases h1 : t.tx = tStrict
 ·
  have e1 := tl_eqL (b := tStrict) rfl h1; rw [decide_eq_true h1]; clear h1
  generalize t.tx = x at c1 e1
  go_enter Tryz.func91, Tryz.ntmps91; go_wp2_with fail; go_ret; exact ⟨rfl, rfl⟩
 ·
  have e1 := tl_neL (b := tStrict) rfl h1; rw [decide_eq_false h1]; clear h1
  generalize t.tx = x at c1 e1
  go_enter Tryz.func91, Tryz.ntmps91; go_wp2_with fail; go_ret; exact ⟨rfl, rfl⟩
def allR (f : Tr → Option Int) : List Tr → Option Int
 | [] => none
 | k :: ks => match f k with
  | some e => some e
  | none => allR f ks
theorem allR_step {f : Tr → Option Int} : ∀ {ts : List Tr} {k : Nat} (hk : k < ts.length), allR f (ts.take k) = none → f ts[k] = none → allR f (ts.take (k + 1)) = none
 | [], k, hk => absurd hk (by simp)
 | t :: ts, 0, _ => fun _ h => by
  rw [List.take_succ_cons, List.take_zero, allR]; rw [show f t = none from h]; rfl
 | t :: ts, k + 1, hk => fun h1 h2 => by
  rw [List.take_succ_cons, allR] at h1 ⊢
  cases hf : f t with
  | some e => rw [hf] at h1; cases h1
  | none => rw [hf] at h1; exact allR_step (by simpa using hk) h1 h2
theorem allR_hit {f : Tr → Option Int} {e : Int} : ∀ {ts : List Tr} {k : Nat} (hk : k < ts.length), allR f (ts.take k) = none → f ts[k] = some e → allR f ts = some e
 | [], k, hk => absurd hk (by simp)
 | t :: ts, 0, _ => fun _ h => by
  rw [allR]; rw [show f t = some e from h]
 | t :: ts, k + 1, hk => fun h1 h2 => by
  rw [List.take_succ_cons, allR] at h1; rw [allR]
  cases hf : f t with
  | some e => rw [hf] at h1; cases h1
  | none => rw [hf] at h1; exact allR_hit (by simpa using hk) h1 h2
def WalkC (bS bW bA : Nat) (ts : List Tr) (s i : Bool) (f : Tr → Option Int) : Prop := ∀ k ∈ ts, ∀ (q : Nat) (W : World), NTr W k q → EaSt bS bW bA W → Calls Tryz.prog 90 #[nPtr q, .bool s, .bool i, .pointer (some ⟨bS, 0, none⟩), .pointer (some ⟨bA, 0, none⟩)] W fun e w' => e = .returned (eI (f k)) ∧ Below W.heap.size W w'
theorem eall_any {bS bW bA B : Nat} (ts : List Tr) (s i : Bool) (f : Tr → Option Int) (hf : ∀ k e, f k = some e → 0 < e) (v : Value) (w : World) (hr : NRow B w v ts) (hS : EaSt bS bW bA w) (hl : ts.length ≤ 1500) (hW : WalkC bS bW bA ts s i f) :
  Calls Tryz.prog 89 #[v, .bool s, .bool i, .pointer (some ⟨bW, 0, none⟩)] w fun e w' => e = .returned (eI (allR f ts)) ∧ Below w.heap.size w w' := by
 obtain ⟨va, vc, rfl⟩ := hr.form
 have HR := hide hr
 have HS := hide hS
 have HW := hide hW
 have HF := hide hf
 have hen := eaEn90
 obtain ⟨R, hR⟩ : ∃ R, R = allR f ts := ⟨_, rfl⟩
 rw [← hR]
 have HRR := hide hR
 clear hr hS hW hf hR
 go_enter Tryz.func89, Tryz.ntmps89
 go_wp2_with fail
 go_loopw [13] (fun j wr => ∃ k : Nat, k ≤ ts.length ∧ j = .int .i64 k ∧ allR f (ts.take k) = none ∧ Below w.heap.size w wr) (fun j _ => ts.length - (intOf j).toNat)
 case atStart => exact ⟨0, Nat.zero_le _, rfl, rfl, Below.refl _ _⟩
 case round =>
  obtain ⟨k, hk, rfl, hno, hb⟩ := hrel; have HNO := hide hno; have HB := hide hb; clear hno
  by_cases hlt : k < ts.length
  ·
   obtain ⟨g, cap, q, hv, hg, hck, hn⟩ := (HR.out.later hb).cell k hlt; simp only [Value.slice.injEq] at hv; obtain ⟨rfl, _, rfl⟩ := hv; have hki : (k : Int) < (ts.length : Int) := by omega
   have hs2 := HS.out.later hb; have cW := hs2.hW; have hlW := cell_lt cW; have HC := hide (unhide HW ts[k] (List.getElem_mem _) q wr hn hs2); clear hn hb hs2
   cases hfk : f ts[k] with
   | none =>
    rw [hfk] at HC; have HN2 := hide (allR_step hlt HNO.out hfk); clear hfk; go_wp2_with fail; refine cm HC.out ?_; rintro e w6 ⟨rfl, hb6⟩; have HB6 := hide (HB.out.trans (hb6.mono HB.out.size)); unfold eI; clear HC hb6
    go_wp2_with fail
    go_roundw
    case rel => exact ⟨k + 1, by omega, by go_num, HN2.out, HB6.out⟩
    case measure => simp [intOf]; omega
   | some e0 =>
    rw [hfk] at HC; have hRe : R = some e0 := HRR.out.trans (allR_hit hlt HNO.out hfk); have hpos := unhide HF _ _ hfk; have hne : (e0 != 0) = true := by simp; omega
    subst hRe; clear hfk; go_wp2_with fail; refine cm HC.out ?_; rintro e w6 ⟨rfl, hb6⟩; have HB6 := hide (HB.out.trans (hb6.mono HB.out.size)); unfold eI; clear HC hb6; go_wp2_with fail; go_ret; exact ⟨rfl, HB6.out⟩
  ·
   have hkk : k = ts.length := by omega
   subst hkk; have hRe : R = none := by
    have h := unhide HNO; rw [List.take_length] at h; exact HRR.out.trans h
   subst hRe; go_wp2_with fail; go_ret; exact ⟨rfl, HB.out⟩
end Go.Proofs.YtodmgaikhbmlnaaGreatDoor
