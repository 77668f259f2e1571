/-
  A program's nodes have the parts that their kinds need.
-/
import Derived.Test.YtodmgaikhbmlnaaGreatDoorEc28
namespace Go.Proofs.YtodmgaikhbmlnaaGreatDoor
def need (kd : Int) : Nat := if kd = 5 ∨ kd = 37 then 2 else if kd = 13 ∨ kd = 24 ∨ kd = 34 ∨ kd = 35 then 1 else 0
def ar (kd : Int) (n : Nat) : Nat := if need kd ≤ n then 0 else 1
mutual
def Tr.ill : Tr → Nat
 | .mk kd _ _ ks => ar kd ks.length + Tr.ills ks
def Tr.ills : List Tr → Nat
 | [] => 0
 | t :: ts => t.ill + Tr.ills ts
end
theorem ill_mk (kd : Int) (tx : ByteArray) (n : Int) (ks : List Tr) : (Tr.mk kd tx n ks).ill = ar kd ks.length + Tr.ills ks := by rw [Tr.ill]
theorem need_two (kd : Int) : need kd ≤ 2 := by
 unfold need
 split
 ·
  omega
 ·
  split <;> omega
theorem ar_two (kd : Int) (n : Nat) (h : 2 ≤ n) : ar kd n = 0 := by
 unfold ar
 rw [if_pos (Nat.le_trans (need_two kd) h)]
theorem ills_nil : Tr.ills [] = 0 := by rw [Tr.ills]
theorem ills_cons (t : Tr) (ts : List Tr) : Tr.ills (t :: ts) = t.ill + Tr.ills ts := by rw [Tr.ills]
theorem ills_all : ∀ (ks : List Tr), Tr.ills ks = 0 → ∀ k ∈ ks, k.ill = 0
 | [], _ => fun k hk => absurd hk (by simp)
 | t :: ts, h => fun k hk => by
  rw [ills_cons] at h
  rcases List.mem_cons.1 hk with rfl | hk
  ·
   omega
  ·
   exact ills_all ts (by omega) k hk
theorem ill_of (t : Tr) (h : t.ill = 0) : need t.kd ≤ t.kids.length ∧ ∀ k ∈ t.kids, k.ill = 0 := by
 cases t with
 | mk kd tx n ks =>
  rw [ill_mk] at h; refine ⟨?_, ills_all ks (by omega)⟩; have h1 : ar kd ks.length = 0 := by omega
  unfold ar at h1
  split at h1
  ·
   assumption
  ·
   omega
theorem ills_zero : ∀ ts : List Tr, (∀ u ∈ ts, u.ill = 0) → Tr.ills ts = 0
 | [], _ => ills_nil
 | t :: ts, h => by rw [ills_cons, h t (List.mem_cons_self ..), ills_zero ts (fun u hu => h u (List.mem_cons_of_mem _ hu))]
theorem Shp.ill {Nm : ByteArray → Prop} {c : Nat} {t : Tr} (h : Shp Nm c t) : t.ill = 0 := by
 induction h with
 | sblk _ ih => exact ih
 | call _ _ _ ih ihs => rw [ill_mk, ills_cons, ih, ills_zero _ ihs]; rfl
 | decl hk _ _ _ _ ihs => rw [ill_mk, ills_zero _ ihs]; rcases hk with rfl | rfl | rfl <;> simp [ar, need]
 | give hk _ _ _ ihs => rw [ill_mk, ills_zero _ ihs]; rcases hk with rfl | rfl <;> simp [ar, need]
 | atm _ _ _ _ ih ihc ihf =>
  rw [ill_mk, ills_cons, ih, ills_zero _ (fun u hu => (List.mem_append.1 hu).elim (ihc u) (ihf u))]; simp [ar, need]
 | obj _ _ ihs => rw [ill_mk, ills_zero _ ihs]; simp [ar, need]
 | pars _ _ ihs => rw [ill_mk, ills_zero _ ihs]; simp [ar, need]
 | blk _ ihs => rw [ill_mk, ills_zero _ ihs]; simp [ar, need]
 | body _ _ ihs => rw [ill_mk, ills_zero _ ihs]; simp [ar, need]
 | prog _ _ ihs => rw [ill_mk, ills_zero _ ihs]; simp [ar, need]
 | lit hk => rw [ill_mk, ills_nil]; rcases hk with rfl | rfl | rfl | rfl <;> simp [ar, need]
 | one hk _ ih => rw [ill_mk, ills_cons, ills_nil, ih]; rcases hk with rfl | rfl | rfl <;> simp [ar, need]
 | two hk _ _ ih ih2 => rw [ill_mk, ills_cons, ills_cons, ills_nil, ih, ih2, ar_two _ _ (by simp)]
 | loop hk _ _ ih ih2 => rw [ill_mk, ills_cons, ills_cons, ills_nil, ih, ih2]; rcases hk with rfl | rfl <;> simp [ar, need]
 | _ => simp [ill_mk, ills_cons, ills_nil, ar, need, *]
theorem parse_ill {ws gs : List ByteArray} {s : ByteArray} {t : Tr} (h : parseS ws gs s = .ok t) : t.ill = 0 := by
 obtain ⟨_, _, h⟩ := parse_sh h
 exact h.ill
end Go.Proofs.YtodmgaikhbmlnaaGreatDoor
set_option maxRecDepth 100000
set_option maxHeartbeats 16000000
namespace Go.Proofs.YtodmgaikhbmlnaaGreatDoor
open Go.RowKit
def wrT (t : Tr) (s i b : Bool) : Option Int :=
 if t.kd = 1 then scE t true
 else if t.kd = 6 then scE t b
 else if t.kd = 5 ∨ t.kd = 37 then fnE t s
 else if t.kd = 2 ∨ t.kd = 3 ∨ t.kd = 4 then nmE s t.tx
 else if t.kd = 13 then catchE t s
 else if t.kd = 7 ∨ t.kd = 8 ∨ t.kd = 9 then brE t s
 else if t.kd = 10 then (if i then none else some 6)
 else if t.kd = 24 then (if (kidT t 0).kd = 23 then nmE s (kidT t 0).tx else none)
 else if t.kd = 34 then (if s && (kidT t 0).kd == 23 then some 1 else none)
 else none
section
variable (t : Tr) (p : Nat) (s i b : Bool) (w : World) (h : NTr w t p) (hc : t.count ≤ 20000)
include h hc
open zrqq in
theorem wrg1 (hkd : t.kd = 1) : Calls Tryz.prog 143 #[nPtr p, plV s i b] w fun e w' => e = .returned (erV (scE t true)) ∧ Below w.heap.size w w' := by
 exact zrr
open zrqr in
theorem wrg6 (hkd : t.kd = 6) : Calls Tryz.prog 143 #[nPtr p, plV s i b] w fun e w' => e = .returned (erV (scE t b)) ∧ Below w.heap.size w w' := by
 exact zrr
theorem wrg5 (hkd : t.kd = 5) (hk : 2 ≤ t.kids.length) : Calls Tryz.prog 143 #[nPtr p, plV s i b] w fun e w' => e = .returned (erV (fnE t s)) ∧ Below w.heap.size w w' := by
 exact zcai
theorem wrg37 (hkd : t.kd = 37) (hk : 2 ≤ t.kids.length) : Calls Tryz.prog 143 #[nPtr p, plV s i b] w fun e w' => e = .returned (erV (fnE t s)) ∧ Below w.heap.size w w' := by
 exact zcai
open zrqs in
theorem wrg13 (hkd : t.kd = 13) (hk : 1 ≤ t.kids.length) : Calls Tryz.prog 143 #[nPtr p, plV s i b] w fun e w' => e = .returned (erV (catchE t s)) ∧ Below w.heap.size w w' := by
 exact zrr
theorem wrg7 (hkd : t.kd = 7) : Calls Tryz.prog 143 #[nPtr p, plV s i b] w fun e w' => e = .returned (erV (brE t s)) ∧ Below w.heap.size w w' := by
 exact zcac
theorem wrg8 (hkd : t.kd = 8) : Calls Tryz.prog 143 #[nPtr p, plV s i b] w fun e w' => e = .returned (erV (brE t s)) ∧ Below w.heap.size w w' := by
 exact zcac
theorem wrg9 (hkd : t.kd = 9) : Calls Tryz.prog 143 #[nPtr p, plV s i b] w fun e w' => e = .returned (erV (brE t s)) ∧ Below w.heap.size w w' := by
 exact zcac
theorem wrg2 (hkd : t.kd = 2) : Calls Tryz.prog 143 #[nPtr p, plV s i b] w fun e w' => e = .returned (erV (nmE s t.tx)) ∧ Below w.heap.size w w' := by
 exact zbah
theorem wrg3 (hkd : t.kd = 3) : Calls Tryz.prog 143 #[nPtr p, plV s i b] w fun e w' => e = .returned (erV (nmE s t.tx)) ∧ Below w.heap.size w w' := by
 exact zbah
theorem wrg4 (hkd : t.kd = 4) : Calls Tryz.prog 143 #[nPtr p, plV s i b] w fun e w' => e = .returned (erV (nmE s t.tx)) ∧ Below w.heap.size w w' := by
 exact zbah
open zrqt in
theorem wrg10 (hkd : t.kd = 10) : Calls Tryz.prog 143 #[nPtr p, plV s i b] w fun e w' => e = .returned (erV (if i then none else some 6)) ∧ Below w.heap.size w w' := by
 exact zrr
open zrqu in
theorem wrg24 (hkd : t.kd = 24) (hk : 1 ≤ t.kids.length) : Calls Tryz.prog 143 #[nPtr p, plV s i b] w fun e w' => e = .returned (erV (if (kidT t 0).kd = 23 then nmE s (kidT t 0).tx else none)) ∧ Below w.heap.size w w' := by
 exact zrr
open zrqv in
theorem wrg34 (hkd : t.kd = 34) (hk : 1 ≤ t.kids.length) : Calls Tryz.prog 143 #[nPtr p, plV s i b] w fun e w' => e = .returned (erV (if s && (kidT t 0).kd == 23 then some 1 else none)) ∧ Below w.heap.size w w' := by
 exact zrr
omit hc in
theorem wrE (hno : t.kd ≠ 1 ∧ t.kd ≠ 6 ∧ t.kd ≠ 5 ∧ t.kd ≠ 37 ∧ t.kd ≠ 2 ∧ t.kd ≠ 3 ∧ t.kd ≠ 4 ∧ t.kd ≠ 13 ∧ t.kd ≠ 7 ∧ t.kd ≠ 8 ∧ t.kd ≠ 9 ∧ t.kd ≠ 10 ∧ t.kd ≠ 24 ∧ t.kd ≠ 34) : Calls Tryz.prog 143 #[nPtr p, plV s i b] w fun e w' => e = .returned (erV none) ∧ Below w.heap.size w w' := by
 obtain ⟨hpl, c0, _, _⟩ := h.cells
 have HBA := hide ((Below.refl w.heap.size w).alloc (Nat.le_refl _) (.cells #[.bool s, .bool i, .bool b] 112))
 clear h
 generalize t.kd = kd at c0 hno
 obtain ⟨n1, n6, n5, n37, n2, n3, n4, n13, n7, n8, n9, n10, n24, n34⟩ := hno
 have m1 : (kd == 1) = false := by simpa using n1
 have m6 : (kd == 6) = false := by simpa using n6
 have m5 : (kd == 5) = false := by simpa using n5
 have m37 : (kd == 37) = false := by simpa using n37
 have m2 : (kd == 2) = false := by simpa using n2
 have m3 : (kd == 3) = false := by simpa using n3
 have m4 : (kd == 4) = false := by simpa using n4
 have m13 : (kd == 13) = false := by simpa using n13
 have m7 : (kd == 7) = false := by simpa using n7
 have m8 : (kd == 8) = false := by simpa using n8
 have m9 : (kd == 9) = false := by simpa using n9
 have m10 : (kd == 10) = false := by simpa using n10
 have m24 : (kd == 24) = false := by simpa using n24
 have m34 : (kd == 34) = false := by simpa using n34
 clear n1 n6 n5 n37 n2 n3 n4 n13 n7 n8 n9 n10 n24 n34
 exact zbdu
theorem wrong_any (hill : need t.kd ≤ t.kids.length) : Calls Tryz.prog 143 #[nPtr p, plV s i b] w fun e w' => e = .returned (erV (wrT t s i b)) ∧ Below w.heap.size w w' := by
 unfold wrT
 by_cases k1 : t.kd = 1
 ·
  rw [if_pos k1]; exact wrg1 t p s i b w h hc k1
 rw [if_neg k1]
 by_cases k6 : t.kd = 6
 ·
  rw [if_pos k6]; exact wrg6 t p s i b w h hc k6
 rw [if_neg k6]
 by_cases k5 : t.kd = 5 ∨ t.kd = 37
 ·
  rw [if_pos k5]; have hn : need t.kd = 2 := by unfold need; rw [if_pos k5]
  rcases k5 with k | k
  ·
   exact wrg5 t p s i b w h hc k (by omega)
  ·
   exact wrg37 t p s i b w h hc k (by omega)
 rw [if_neg k5]
 by_cases k2 : t.kd = 2 ∨ t.kd = 3 ∨ t.kd = 4
 ·
  rw [if_pos k2]
  rcases k2 with k | k | k
  ·
   exact wrg2 t p s i b w h hc k
  ·
   exact wrg3 t p s i b w h hc k
  ·
   exact wrg4 t p s i b w h hc k
 rw [if_neg k2]
 have hn : ∀ c : Int, (c = 13 ∨ c = 24 ∨ c = 34) → t.kd = c → 1 ≤ t.kids.length := fun c hc' e => by
  have : need t.kd = 1 := by
   rw [e]
   rcases hc' with rfl | rfl | rfl <;> decide
  omega
 by_cases k13 : t.kd = 13
 ·
  rw [if_pos k13]; exact wrg13 t p s i b w h hc k13 (hn _ (by simp) k13)
 rw [if_neg k13]
 by_cases k7 : t.kd = 7 ∨ t.kd = 8 ∨ t.kd = 9
 ·
  rw [if_pos k7]
  rcases k7 with k | k | k
  ·
   exact wrg7 t p s i b w h hc k
  ·
   exact wrg8 t p s i b w h hc k
  ·
   exact wrg9 t p s i b w h hc k
 rw [if_neg k7]
 by_cases k10 : t.kd = 10
 ·
  rw [if_pos k10]; exact wrg10 t p s i b w h hc k10
 rw [if_neg k10]
 by_cases k24 : t.kd = 24
 ·
  rw [if_pos k24]; exact wrg24 t p s i b w h hc k24 (hn _ (by simp) k24)
 rw [if_neg k24]
 by_cases k34 : t.kd = 34
 ·
  rw [if_pos k34]; exact wrg34 t p s i b w h hc k34 (hn _ (by simp) k34)
 rw [if_neg k34]
 exact wrE t p s i b w h ⟨k1, k6, fun e => k5 (Or.inl e), fun e => k5 (Or.inr e), fun e => k2 (Or.inl e), fun e => k2 (Or.inr (Or.inl e)), fun e => k2 (Or.inr (Or.inr e)), k13, fun e => k7 (Or.inl e), fun e => k7 (Or.inr (Or.inl e)), fun e => k7 (Or.inr (Or.inr e)), k10, k24, k34⟩
end
def s2 (t : Tr) (s : Bool) : Bool := if isFunT t then (s || strictT t) || strictT (kidT t 1) else s || strictT t
def i2 (t : Tr) (i : Bool) : Bool := if isFunT t then true else i
mutual
def chk : Tr → Bool → Bool → Bool → Option Int
 | .mk kd tx n ks, s, i, b => match wrT (.mk kd tx n ks) (s2 (.mk kd tx n ks) s) (i2 (.mk kd tx n ks) i) b with
  | some e => some e
  | none => chks ks (s2 (.mk kd tx n ks) s) (i2 (.mk kd tx n ks) i) (isFunT (.mk kd tx n ks))
def chks : List Tr → Bool → Bool → Bool → Option Int
 | [], _, _, _ => none
 | t :: ts, s, i, b => match chk t s i b with
  | some e => some e
  | none => chks ts s i b
end
theorem chk_eq (t : Tr) (s i b : Bool) : chk t s i b = match wrT t (s2 t s) (i2 t i) b with
  | some e => some e
  | none => chks t.kids (s2 t s) (i2 t i) (isFunT t) := by
 cases t with
 | mk kd tx n ks => rw [chk]; rfl
theorem chks_none : ∀ (ts : List Tr) (s i b : Bool) (k : Nat) (hk : k < ts.length), chks (ts.take k) s i b = none → chk ts[k] s i b = none → chks (ts.take (k + 1)) s i b = none
 | [], _, _, _, k, hk => absurd hk (by simp)
 | t :: ts, s, i, b, 0, _ => fun _ h => by
  rw [List.take_succ_cons, List.take_zero, chks]; rw [show chk t s i b = none from h]; rw [chks]
 | t :: ts, s, i, b, k + 1, hk => fun h1 h2 => by
  rw [List.take_succ_cons, chks] at h1 ⊢
  cases h : chk t s i b with
  | some e => rw [h] at h1; cases h1
  | none =>
   rw [h] at h1; exact chks_none ts s i b k (by simpa using hk) h1 h2
theorem chks_hit : ∀ (ts : List Tr) (s i b : Bool) (k : Nat) (hk : k < ts.length) (e : Int), chks (ts.take k) s i b = none → chk ts[k] s i b = some e → chks ts s i b = some e
 | [], _, _, _, k, hk, _ => absurd hk (by simp)
 | t :: ts, s, i, b, 0, _, e => fun _ h => by
  rw [chks, show chk t s i b = some e from h]
 | t :: ts, s, i, b, k + 1, hk, e => fun h1 h2 => by
  rw [List.take_succ_cons, chks] at h1; rw [chks]
  cases h : chk t s i b with
  | some e => rw [h] at h1; cases h1
  | none =>
   rw [h] at h1; exact chks_hit ts s i b k (by simpa using hk) e h1 h2
abbrev PlB (b : Nat) (s i d : Bool) (w : World) : Prop := w.heap[b]? = some (.cells #[.bool s, .bool i, .bool d] 112 (0, 0))
theorem PlB.at {b : Nat} {s i d : Bool} {w : World} (h : PlB b s i d w) : PlAt b s i d w := ⟨by rw [cell_of h]; rfl, by rw [cell_of h]; rfl, by rw [cell_of h]; rfl⟩
def ChkAt (m : Nat) : Prop := ∀ (t : Tr), t.count ≤ m → t.ill = 0 → t.count ≤ 20000 → ∀ (p : Nat) (s i b : Bool) (w : World), NTr w t p →
  Calls Tryz.prog 87 #[nPtr p, plV s i b] w fun e w' => e = .returned (erV (chk t s i b)) ∧ Below w.heap.size w w'
section
variable {m : Nat} (ih : ChkAt m) (t : Tr) (ht : t.count ≤ m + 1) (hill : t.ill = 0) (hc : t.count ≤ 20000) (p : Nat) (i b : Bool) (w : World) (h : NTr w t p)
include ih ht hill hc h
open zrqw in
theorem chkTN (hfu : isFunT t = false) : Calls Tryz.prog 87 #[nPtr p, plV true i b] w fun e w' => e = .returned (erV (chk t true i b)) ∧ Below w.heap.size w w' := by
 exact zrby
open zrqx in
theorem chkTF (hfu : isFunT t = true) : Calls Tryz.prog 87 #[nPtr p, plV true i b] w fun e w' => e = .returned (erV (chk t true i b)) ∧ Below w.heap.size w w' := by
 exact zrby
open zrqy in
theorem chkFN (hfu : isFunT t = false) : Calls Tryz.prog 87 #[nPtr p, plV false i b] w fun e w' => e = .returned (erV (chk t false i b)) ∧ Below w.heap.size w w' := by
 exact zrby
open zrqz in
theorem chkFT (hfu : isFunT t = true) (hst : strictT t = true) : Calls Tryz.prog 87 #[nPtr p, plV false i b] w fun e w' => e = .returned (erV (chk t false i b)) ∧ Below w.heap.size w w' := by
 exact zrby
open zrqba in
theorem chkFF (hfu : isFunT t = true) (hst : strictT t = false) : Calls Tryz.prog 87 #[nPtr p, plV false i b] w fun e w' => e = .returned (erV (chk t false i b)) ∧ Below w.heap.size w w' := by
 exact zrby
end
section
variable {Nm : ByteArray → Prop} {c : Nat} {t : Tr} (h : Shp Nm c t)
include Nm c t h
theorem Shp.need2 : (t.kd = 7 ∨ t.kd = 8 ∨ t.kd = 9 → 2 ≤ t.kids.length) ∧ (t.kd = 13 ∨ t.kd = 24 ∨ t.kd = 34 → 1 ≤ t.kids.length) ∧ (isFunT t = true → t.kids.length = 2 ∧ Shp Nm 5 (kidT t 0) ∧ Shp Nm 4 (kidT t 1)) := by
 induction h with
 | sblk _ ih => exact ih
 | lit hk => rcases hk with rfl | rfl | rfl | rfl <;> simp [Tr.kd, isFunT]
 | one hk => rcases hk with rfl | rfl | rfl <;> simp [Tr.kd, Tr.kids, isFunT]
 | @two kd a b hk => refine ⟨fun _ => by simp [Tr.kids], fun _ => by simp [Tr.kids], fun e => ?_⟩; simp [isFunT, Tr.kd] at e; omega
 | decl hk => rcases hk with rfl | rfl | rfl <;> simp [Tr.kd, isFunT]
 | loop hk => rcases hk with rfl | rfl <;> simp [Tr.kd, Tr.kids, isFunT]
 | give hk => rcases hk with rfl | rfl <;> simp [Tr.kd, isFunT]
 | lam _ hp hb => exact ⟨by simp [Tr.kd], by simp [Tr.kd], fun _ => ⟨rfl, hp, hb⟩⟩
 | func _ hp hb => exact ⟨by simp [Tr.kd], by simp [Tr.kd], fun _ => ⟨rfl, hp, hb⟩⟩
 | _ => simp [Tr.kd, Tr.kids, isFunT]
theorem Shp.kids : ∀ k ∈ t.kids, ∃ c, Shp Nm c k := by
 induction h with
 | sblk _ ih => exact ih
 | call ht hs => intro k hk; rcases List.mem_cons.1 hk with rfl | hk <;> first | exact ⟨_, ht⟩ | exact ⟨_, hs k hk⟩
 | atm hb hc hf => intro k hk; rcases List.mem_cons.1 hk with rfl | hk; exact ⟨_, hb⟩; rcases List.mem_append.1 hk with hk | hk <;> first | exact ⟨_, hc k hk⟩ | exact ⟨_, hf k hk⟩
 | obj hs => exact fun k hk => ⟨_, hs k hk⟩
 | pars hs => exact fun k hk => ⟨_, hs k hk⟩
 | blk hs => exact fun k hk => ⟨_, hs k hk⟩
 | body _ hs => exact fun k hk => ⟨_, hs k hk⟩
 | decl _ _ hs => exact fun k hk => ⟨_, hs k hk⟩
 | give _ hs => exact fun k hk => ⟨_, hs k hk⟩
 | prog _ hs => exact fun k hk => ⟨_, hs k hk⟩
 | memb _ h => intro k hk; rw [List.mem_singleton.1 hk]; exact ⟨_, h⟩
 | one _ h => intro k hk; rw [List.mem_singleton.1 hk]; exact ⟨_, h⟩
 | prop _ h => intro k hk; rw [List.mem_singleton.1 hk]; exact ⟨_, h⟩
 | cat _ h => intro k hk; rw [List.mem_singleton.1 hk]; exact ⟨_, h⟩
 | fin h => intro k hk; rw [List.mem_singleton.1 hk]; exact ⟨_, h⟩
 | expr h => intro k hk; rw [List.mem_singleton.1 hk]; exact ⟨_, h⟩
 | two _ h g => intro k hk; simp [Tr.kids] at hk; rcases hk with rfl | rfl <;> first | exact ⟨_, h⟩ | exact ⟨_, g⟩
 | asg _ h g => intro k hk; simp [Tr.kids] at hk; rcases hk with rfl | rfl <;> first | exact ⟨_, h⟩ | exact ⟨_, g⟩
 | lam _ h g => intro k hk; simp [Tr.kids] at hk; rcases hk with rfl | rfl <;> first | exact ⟨_, h⟩ | exact ⟨_, g⟩
 | func _ h g => intro k hk; simp [Tr.kids] at hk; rcases hk with rfl | rfl <;> first | exact ⟨_, h⟩ | exact ⟨_, g⟩
 | sif h g => intro k hk; simp [Tr.kids] at hk; rcases hk with rfl | rfl <;> first | exact ⟨_, h⟩ | exact ⟨_, g⟩
 | loop _ h g => intro k hk; simp [Tr.kids] at hk; rcases hk with rfl | rfl <;> first | exact ⟨_, h⟩ | exact ⟨_, g⟩
 | sife h g f => intro k hk; simp [Tr.kids] at hk; rcases hk with rfl | rfl | rfl <;> first | exact ⟨_, h⟩ | exact ⟨_, g⟩ | exact ⟨_, f⟩
 | _ => intro k hk; cases hk
end
def oE (b : Bool) (e : Int) : Option Int := if b then some e else none
def rwrT (t : Tr) (s i : Bool) : Option Int :=
 if isFunT t = true then (match fnE t s with
  | some e => some e
  | none => oE (rtw (kidT t 1) true) 9)
 else if t.kd = 6 then oE (rtw t false) 9
 else if t.kd = 2 ∨ t.kd = 3 ∨ t.kd = 4 then nmE s t.tx
 else if t.kd = 13 then catchE t s
 else if t.kd = 7 ∨ t.kd = 8 ∨ t.kd = 9 then oE ((s && t.kd == 9) || (t.kids.drop 1).any declK) 1
 else if t.kd = 10 then (if i then none else some 6)
 else if t.kd = 24 then (if (kidT t 0).kd = 23 then nmE s (kidT t 0).tx else none)
 else if t.kd = 34 then (if s && (kidT t 0).kd == 23 then some 1 else none)
 else none
def sR (t : Tr) (s : Bool) : Bool := if isFunT t then s || decide ((kidT t 1).tx = tStrict) else s
def partsE (t : Tr) : List Tr := if isFunT t then (kidT t 1).kids else t.kids
def rck : Nat → Tr → Bool → Bool → Option Int
 | 0, _, _, _ => none
 | d + 1, t, s, i => match rwrT t (sR t s) i with
  | some e => some e
  | none => allR (fun k => rck d k (sR t s) (i2 t i)) (partsE t)
theorem nmE_pos {s : Bool} {x : ByteArray} {e : Int} (h : nmE s x = some e) : 0 < e := by
 unfold nmE at h
 split at h <;> cases h
 decide
theorem oE_pos {b : Bool} {a e : Int} (ha : 0 < a) (h : oE b a = some e) : 0 < e := by
 unfold oE at h
 split at h <;> cases h
 exact ha
theorem firstE_pos {f : Nat → Option Int} (hf : ∀ k e, f k = some e → 0 < e) {e : Int} : ∀ n, firstE f n = some e → 0 < e
 | 0, h => by cases h
 | n + 1, h => by
  rw [firstE] at h
  cases hn : firstE f n with
  | some x => rw [hn] at h; cases h; exact firstE_pos hf n hn
  | none => rw [hn] at h; exact hf n e h
theorem fnE_pos {t : Tr} {s : Bool} {e : Int} (h : fnE t s = some e) : 0 < e := by
 unfold fnE at h
 cases h1 : nmE s t.tx with
 | some x => rw [h1] at h; cases h; exact nmE_pos h1
 | none =>
  rw [h1] at h; simp only at h
  cases h2 : parE s (kidT t 0).kids with
  | some x =>
   rw [h2] at h; cases h; refine firstE_pos (fun k e h => ?_) _ h2; unfold parF at h
   cases h3 : nmE s (txAt (kidT t 0).kids k) with
   | some y => rw [h3] at h; cases h; exact nmE_pos h3
   | none => rw [h3] at h; exact oE_pos (a := 9) (by decide) h
  | none => rw [h2] at h; exact oE_pos (a := 9) (by decide) h
theorem rwrT_pos {t : Tr} {s i : Bool} {e : Int} (h : rwrT t s i = some e) : 0 < e := by
 unfold rwrT at h
 split at h
 ·
  cases h1 : fnE t s with
  | some x => rw [h1] at h; cases h; exact fnE_pos h1
  | none => rw [h1] at h; exact oE_pos (by decide) h
 ·
  repeat' split at h
  all_goals first
   | exact oE_pos (by decide) h
   | exact nmE_pos h
   | (cases h; done)
   | (cases h; decide)
   | skip
  unfold catchE at h
  cases h1 : nmE s t.tx with
  | some x => rw [h1] at h; cases h; exact nmE_pos h1
  | none => rw [h1] at h; exact oE_pos (a := 9) (by decide) h
theorem allR_pos {f : Tr → Option Int} (hf : ∀ k e, f k = some e → 0 < e) {e : Int} : ∀ ts, allR f ts = some e → 0 < e
 | [], h => by cases h
 | t :: ts, h => by
  rw [allR] at h
  cases h1 : f t with
  | some x => rw [h1] at h; cases h; exact hf t _ h1
  | none => rw [h1] at h; exact allR_pos hf ts h
theorem rck_pos : ∀ (d : Nat) (t : Tr) (s i : Bool) (e : Int), rck d t s i = some e → 0 < e
 | 0, _, _, _, _, h => by cases h
 | d + 1, t, s, i, e, h => by
  rw [rck] at h
  cases h1 : rwrT t (sR t s) i with
  | some x => rw [h1] at h; cases h; exact rwrT_pos h1
  | none => rw [h1] at h; exact allR_pos (fun k e h => rck_pos d k _ _ e h) _ h
def EwAt (Nm : ByteArray → Prop) (bS bW bA d : Nat) : Prop := ∀ (t : Tr) (c : Nat), Shp Nm c t → t.count ≤ d → t.count ≤ 1500 → ∀ (p : Nat) (s i : Bool) (w : World), NTr w t p → EaSt bS bW bA w →
  Calls Tryz.prog 90 #[nPtr p, .bool s, .bool i, .pointer (some ⟨bS, 0, none⟩), .pointer (some ⟨bA, 0, none⟩)] w fun e w' => e = .returned (eI (rck d t s i)) ∧ Below w.heap.size w w'
theorem goon {Nm : ByteArray → Prop} {bS bW bA d : Nat} (ih : EwAt Nm bS bW bA d) (t : Tr) {c : Nat} (hsh : Shp Nm c t) (ht : t.count ≤ d + 1) (hc : t.count ≤ 1500) {B : Nat} {v : Value} {w : World} (hrow : NRow B w v t.kids) (hS : EaSt bS bW bA w) (s i : Bool) (W : World) (hb : Below w.heap.size w W) :
  Calls Tryz.prog 89 #[v, .bool s, .bool i, .pointer (some ⟨bW, 0, none⟩)] W fun e w' => e = .returned (eI (allR (fun k => rck d k s i) t.kids)) ∧ Below W.heap.size W w' := by
 have htc : t.count = 1 + Tr.counts t.kids := by cases t with | mk kd tx nn ks => exact count_mk _ _ _ _
 refine eall_any t.kids s i _ (fun k e h => rck_pos d k s i e h) v W (hrow.later hb) (hS.later hb) (by have := counts_len t.kids; omega) (fun k hk q X hn hX => ?_)
 obtain ⟨c2, hk2⟩ := hsh.kids k hk
 obtain ⟨j, hj, rfl⟩ := List.mem_iff_getElem.1 hk
 have := counts_le t.kids j hj
 exact ih _ c2 hk2 (by omega) (by omega) q s i X hn hX
end Go.Proofs.YtodmgaikhbmlnaaGreatDoor
