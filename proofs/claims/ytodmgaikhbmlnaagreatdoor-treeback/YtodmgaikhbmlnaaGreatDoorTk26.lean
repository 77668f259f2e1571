/-
  Values come back: the reader at the tokens of a value as it is written.
-/
import Derived.Test.YtodmgaikhbmlnaaGreatDoorTk25
set_option maxRecDepth 100000
set_option maxHeartbeats 16000000
namespace Go.Proofs.YtodmgaikhbmlnaaGreatDoor
open Go.RowKit

theorem sg_two {kd : Int} (h : 25 ≤ kd ∧ kd ≤ 31) : ∃ g : Sg, sgK kd = some g ∧ g.kd = kd ∧ g.parts = 2 ∧ sgP 2 g.tx = some g ∧ 2 ≤ g.str ∧ g.str ≤ 7 ∧ strK kd = g.str ∧ g.tx ≠ tDot ∧ g.tx ≠ tOpen := by
  have : kd = 25 ∨ kd = 26 ∨ kd = 27 ∨ kd = 28 ∨ kd = 29 ∨ kd = 30 ∨ kd = 31 := by omega
  rcases this with rfl | rfl | rfl | rfl | rfl | rfl | rfl
  · exact ⟨⟨tOr, 25, 2, 2⟩, by kernel_rfl, rfl, rfl, by kernel_rfl, by decide, by decide, by kernel_rfl, by decide, by decide⟩
  · exact ⟨⟨tAnd, 26, 2, 3⟩, by kernel_rfl, rfl, rfl, by kernel_rfl, by decide, by decide, by kernel_rfl, by decide, by decide⟩
  · exact ⟨⟨tSame, 27, 2, 4⟩, by kernel_rfl, rfl, rfl, by kernel_rfl, by decide, by decide, by kernel_rfl, by decide, by decide⟩
  · exact ⟨⟨tLess, 28, 2, 5⟩, by kernel_rfl, rfl, rfl, by kernel_rfl, by decide, by decide, by kernel_rfl, by decide, by decide⟩
  · exact ⟨⟨tAdd, 29, 2, 6⟩, by kernel_rfl, rfl, rfl, by kernel_rfl, by decide, by decide, by kernel_rfl, by decide, by decide⟩
  · exact ⟨⟨tSub, 30, 2, 6⟩, by kernel_rfl, rfl, rfl, by kernel_rfl, by decide, by decide, by kernel_rfl, by decide, by decide⟩
  · exact ⟨⟨tMul, 31, 2, 7⟩, by kernel_rfl, rfl, rfl, by kernel_rfl, by decide, by decide, by kernel_rfl, by decide, by decide⟩
theorem sg_one {kd : Int} (h : kd = 32 ∨ kd = 33 ∨ kd = 34) : ∃ g : Sg, sgK kd = some g ∧ g.kd = kd ∧ g.parts = 1 ∧ sgP 1 g.tx = some g ∧ g.str = 8 ∧ strK kd = 8 ∧ (g.tx = tNot ∨ g.tx = tTypeof ∨ g.tx = tDelete) := by
  rcases h with rfl | rfl | rfl
  · exact ⟨⟨tNot, 32, 1, 8⟩, by kernel_rfl, rfl, rfl, by kernel_rfl, rfl, by kernel_rfl, Or.inl rfl⟩
  · exact ⟨⟨tTypeof, 33, 1, 8⟩, by kernel_rfl, rfl, rfl, by kernel_rfl, rfl, by kernel_rfl, Or.inr (Or.inl rfl)⟩
  · exact ⟨⟨tDelete, 34, 1, 8⟩, by kernel_rfl, rfl, rfl, by kernel_rfl, rfl, by kernel_rfl, Or.inr (Or.inr rfl)⟩
theorem sg_lit {kd : Int} (h : kd = 19 ∨ kd = 20 ∨ kd = 21 ∨ kd = 22) : ∃ g : Sg, sgK kd = some g ∧ g.kd = kd ∧ g.parts = 0 ∧ sgP 0 g.tx = some g ∧ strK kd = 10 ∧ (g.tx = tTrue ∨ g.tx = tFalse ∨ g.tx = tNull ∨ g.tx = tUndef) := by
  rcases h with rfl | rfl | rfl | rfl
  · exact ⟨⟨tTrue, 19, 0, 10⟩, by kernel_rfl, rfl, rfl, by kernel_rfl, by kernel_rfl, Or.inl rfl⟩
  · exact ⟨⟨tFalse, 20, 0, 10⟩, by kernel_rfl, rfl, rfl, by kernel_rfl, by kernel_rfl, Or.inr (Or.inl rfl)⟩
  · exact ⟨⟨tNull, 21, 0, 10⟩, by kernel_rfl, rfl, rfl, by kernel_rfl, by kernel_rfl, Or.inr (Or.inr (Or.inl rfl))⟩
  · exact ⟨⟨tUndef, 22, 0, 10⟩, by kernel_rfl, rfl, rfl, by kernel_rfl, by kernel_rfl, Or.inr (Or.inr (Or.inr rfl))⟩
/-- The tokens of each kind of value. -/
theorem toks_name (s : ByteArray) : (Tr.mk 23 s 0 []).toks = [nmT s] := by rw [toks_mk, toksL_nil]; rfl
theorem toks_str (s : ByteArray) : (Tr.mk 18 s 0 []).toks = [(4, s, 0)] := by rw [toks_mk, toksL_nil]; rfl
theorem toks_num (n : Int) : (Tr.mk 17 noText n []).toks = [(3, noText, n)] := by rw [toks_mk, toksL_nil]; rfl
theorem toks_memb (s : ByteArray) (t : Tr) : (Tr.mk 36 s 0 [t]).toks = t.at 9 ++ [sgT tDot, nmT s] := by rw [toks_mk, toksL_map]; rfl
theorem toks_call (t : Tr) (ts : List Tr) : (Tr.mk 35 noText 0 (t :: ts)).toks = t.at 9 ++ sgT tOpen :: (commaT (ts.map fun u => u.at 1) ++ [sgT tShut]) := by
  rw [toks_mk, toksL_map]
  show wrapT _ 9 ++ sgT tOpen :: (commaT ((((t :: ts).map fun t => (t.kd, t.toks)).drop 1).map fun c => wrapT c 1) ++ [sgT tShut]) = _
  rw [List.map_cons, List.drop_one, List.tail_cons, List.map_map]; rfl
theorem toks_asg (a b : Tr) : (Tr.mk 24 noText 0 [a, b]).toks = a.at 9 ++ sgT tEq :: b.at 1 := by rw [toks_mk, toksL_map]; rfl
theorem toks_obj (ps : List Tr) : (Tr.mk 38 noText 0 ps).toks = sgT tLBrace :: (commaT (ps.map Tr.toks) ++ [sgT tRBrace]) := by
  rw [toks_mk, toksL_map]
  show sgT tLBrace :: (commaT ((ps.map fun t => (t.kd, t.toks)).map (·.2)) ++ [sgT tRBrace]) = _
  rw [List.map_map]; rfl
theorem toks_lam (s : ByteArray) (p b : Tr) : (Tr.mk 37 s 0 [p, b]).toks = wdT tFunction :: ((if s = noText then [] else [nmT s]) ++ p.toks ++ b.toks) := by rw [toks_mk, toksL_map]; rfl
theorem toks_prop (s : ByteArray) (v : Tr) : (Tr.mk 39 s 0 [v]).toks = nmT s :: sgT tColon :: v.at 1 := by rw [toks_mk, toksL_map]; rfl
theorem toks_pars (ps : List Tr) : (Tr.mk 40 noText 0 ps).toks = sgT tOpen :: (commaT (ps.map Tr.toks) ++ [sgT tShut]) := by
  rw [toks_mk, toksL_map]
  show sgT tOpen :: (commaT ((ps.map fun t => (t.kd, t.toks)).map (·.2)) ++ [sgT tShut]) = _
  rw [List.map_map]; rfl
theorem toks_two {kd : Int} {g : Sg} (hg : sgK kd = some g) (hp : g.parts = 2) (a b : Tr) : (Tr.mk kd noText 0 [a, b]).toks = a.at g.str ++ siT g.tx :: b.at (g.str + 1) := by
  rw [toks_mk, toksL_map]
  unfold coreB
  rw [hg]
  simp only
  rw [if_pos hp]; rfl
theorem toks_one {kd : Int} {g : Sg} (hg : sgK kd = some g) (hp : g.parts = 1) (a : Tr) : (Tr.mk kd noText 0 [a]).toks = siT g.tx :: a.at g.str := by
  rw [toks_mk, toksL_map]
  unfold coreB
  rw [hg]
  simp only
  rw [if_neg (by omega), if_pos hp]; rfl
theorem toks_lit {kd : Int} {g : Sg} (hg : sgK kd = some g) (hp : g.parts = 0) : (Tr.mk kd noText 0 []).toks = [siT g.tx] := by
  rw [toks_mk, toksL_map]
  unfold coreB
  rw [hg]
  simp only
  rw [if_neg (by omega), if_neg (by omega)]
theorem at_plain {t : Tr} {least : Int} (h : least ≤ strK t.kd) : t.at least = t.toks := by unfold Tr.at wrapT; rw [if_neg (by simp only; omega)]
theorem at_par {t : Tr} {least : Int} (h : strK t.kd < least) : t.at least = sgT tOpen :: (t.toks ++ [sgT tShut]) := by unfold Tr.at wrapT; rw [if_pos h]
theorem strK_one (kd : Int) : 1 ≤ strK kd := by
  unfold strK
  split
  · decide
  · split
    · decide
    · cases h : sgK kd with
      | none => decide
      | some g =>
        have h1 := List.mem_of_find?_eq_some h
        have h2 : ∀ g ∈ sgs, 1 ≤ g.str := by decide +kernel
        exact h2 g h1
theorem str_val {Nm : ByteArray → Prop} {t : Tr} (h : Shp Nm 0 t) : t.kd = 24 ∨ (25 ≤ t.kd ∧ t.kd ≤ 31) ∨ (t.kd = 32 ∨ t.kd = 33 ∨ t.kd = 34) ∨ 9 ≤ strK t.kd := by
  cases h with
  | asg => exact Or.inl rfl
  | two hk => exact Or.inr (Or.inl hk)
  | one hk => exact Or.inr (Or.inr (Or.inl hk))
  | lit hk => obtain ⟨g, _, _, _, _, h, _⟩ := sg_lit hk; exact Or.inr (Or.inr (Or.inr (by have e : strK (Tr.mk _ noText 0 []).kd = 10 := h; omega)))
  | name => exact Or.inr (Or.inr (Or.inr (show 9 ≤ strK 23 by decide +kernel)))
  | str => exact Or.inr (Or.inr (Or.inr (show 9 ≤ strK 18 by decide +kernel)))
  | num => exact Or.inr (Or.inr (Or.inr (show 9 ≤ strK 17 by decide +kernel)))
  | memb => exact Or.inr (Or.inr (Or.inr (show 9 ≤ strK 36 by decide +kernel)))
  | call => exact Or.inr (Or.inr (Or.inr (show 9 ≤ strK 35 by decide +kernel)))
  | obj => exact Or.inr (Or.inr (Or.inr (show 9 ≤ strK 38 by decide +kernel)))
  | lam => exact Or.inr (Or.inr (Or.inr (show 9 ≤ strK 37 by decide +kernel)))

/-- What a value may begin with. -/
def headOk (x : ByteArray) : Prop := x = noText ∨ x = tOpen ∨ x = tLBrace ∨ x = tFunction ∨ x = tTrue ∨ x = tFalse ∨ x = tNull ∨ x = tUndef
def headAny (x : ByteArray) : Prop := headOk x ∨ x = tNot ∨ x = tTypeof ∨ x = tDelete
theorem headAny_ne {x : ByteArray} (h : headAny x) : x ≠ tShut ∧ x ≠ tRBrace ∧ x ≠ tSemi := by
  rcases h with (h | h | h | h | h | h | h | h) | h | h | h <;> rw [h] <;> refine ⟨?_, ?_, ?_⟩ <;> decide
theorem headOk_none {x : ByteArray} (h : headOk x) : sgP 1 x = none := by
  rcases h with h | h | h | h | h | h | h | h <;> rw [h] <;> kernel_rfl
section
variable {l : List Tk} {Nm : ByteArray → Prop}
theorem head_at {t : Tr} (ih : ∀ i, At l i t.toks → headAny (fx l i) ∧ (9 ≤ strK t.kd → headOk (fx l i))) {least : Int} {i : Nat} (h : At l i (t.at least)) : headAny (fx l i) ∧ (9 ≤ least → headOk (fx l i)) := by
  by_cases hs : strK t.kd < least
  · rw [at_par hs] at h
    have : fx l i = tOpen := h.1.fx5
    exact ⟨Or.inl (Or.inr (Or.inl this)), fun _ => Or.inr (Or.inl this)⟩
  · rw [at_plain (by omega)] at h
    exact ⟨(ih i h).1, fun h9 => (ih i h).2 (by omega)⟩
theorem head_val {t : Tr} {c : Nat} (hsh : Shp Nm c t) (hc : c = 0) : ∀ i, At l i t.toks → headAny (fx l i) ∧ (9 ≤ strK t.kd → headOk (fx l i)) := by
  have ok : ∀ {x : ByteArray} {p : Prop}, headOk x → headAny x ∧ (p → headOk x) := fun h => ⟨Or.inl h, fun _ => h⟩
  have h0 : headOk noText := Or.inl rfl
  induction hsh with
  | name _ => intro i h; rw [toks_name] at h; rw [h.1.fx0 (Or.inl rfl)]; exact ok h0
  | str _ => intro i h; rw [toks_str] at h; rw [h.1.fx0 (Or.inr (Or.inr rfl))]; exact ok h0
  | num _ => intro i h; rw [toks_num] at h; rw [h.1.fx0 (Or.inr (Or.inl rfl))]; exact ok h0
  | lit hk =>
    intro i h
    obtain ⟨g, hg, _, hp, _, _, hx⟩ := sg_lit hk
    rw [toks_lit hg hp] at h
    rw [h.1.fxS]
    refine ok ?_
    rcases hx with e | e | e | e <;> rw [e] <;> simp [headOk]
  | memb _ ht ih =>
    intro i h
    rw [toks_memb] at h
    exact ⟨(head_at (ih rfl) h.app.1).1, fun _ => (head_at (ih rfl) h.app.1).2 (Int.le_refl _)⟩
  | call ht _ _ ih _ =>
    intro i h
    rw [toks_call] at h
    exact ⟨(head_at (ih rfl) h.app.1).1, fun _ => (head_at (ih rfl) h.app.1).2 (Int.le_refl _)⟩
  | asg _ _ _ iha _ =>
    intro i h
    rw [toks_asg] at h
    exact ⟨(head_at (iha rfl) h.app.1).1, fun _ => (head_at (iha rfl) h.app.1).2 (Int.le_refl _)⟩
  | @two kd a b hk _ _ iha _ =>
    intro i h
    obtain ⟨g, hg, _, hp, _, _, h7, hs, _⟩ := sg_two hk
    rw [toks_two hg hp] at h
    refine ⟨(head_at (iha rfl) h.app.1).1, fun h9 => ?_⟩
    have h10 : 9 ≤ strK kd := h9
    omega
  | @one kd a hk _ _ =>
    intro i h
    obtain ⟨g, hg, _, hp, _, _, hs, hx⟩ := sg_one hk
    rw [toks_one hg hp] at h
    rw [h.1.fxS]
    refine ⟨Or.inr hx, fun h9 => ?_⟩
    have h10 : 9 ≤ strK kd := h9
    omega
  | obj _ _ _ => intro i h; rw [toks_obj] at h; rw [h.1.fx5]; exact ok (Or.inr (Or.inr (Or.inl rfl)))
  | lam _ _ _ _ _ => intro i h; rw [toks_lam] at h; rw [h.1.fx2]; exact ok (Or.inr (Or.inr (Or.inr (Or.inl rfl))))
  | _ => cases hc
end

/-- Does a statement end in an if without an else? -/
def endsIf : Nat → Tr → Bool
  | 0, _ => false
  | k + 1, .mk kd _ _ ks => if kd = 7 then (match ks with | [_, _] => true | [_, _, e] => endsIf k e | _ => false) else if kd = 8 ∨ kd = 9 then (match ks with | [_, s] => endsIf k s | _ => false) else false
/-- What a node's parts keep to, beyond its shape: no else that would be another if's; a function's block is marked as its first statement tells. -/
def locOk (kd : Int) (ks : List Tr) : Prop := (kd = 7 → ∀ v s e, ks = [v, s, e] → endsIf s.count s = false) ∧ (kd = 5 ∨ kd = 37 → ∀ p b, ks = [p, b] → b = codeT (.mk 6 noText 0 b.kids))
mutual
def Tr.nd : Tr → Prop
  | .mk kd _ _ ks => locOk kd ks ∧ Tr.nds ks
def Tr.nds : List Tr → Prop
  | [] => True
  | t :: ts => t.nd ∧ Tr.nds ts
end
theorem nd_mk (kd : Int) (tx : ByteArray) (n : Int) (ks : List Tr) : (Tr.mk kd tx n ks).nd = (locOk kd ks ∧ Tr.nds ks) := by rw [Tr.nd]
theorem nds_mem : ∀ {ts : List Tr}, Tr.nds ts → ∀ t ∈ ts, t.nd
  | [], _, t, h => by cases h
  | a :: ts, h, t, ht => by
    rw [Tr.nds] at h
    rcases List.mem_cons.1 ht with rfl | ht
    · exact h.1
    · exact nds_mem h.2 t ht
theorem nd_kids {kd : Int} {tx : ByteArray} {n : Int} {ks : List Tr} (h : (Tr.mk kd tx n ks).nd) : ∀ t ∈ ks, t.nd := by
  rw [nd_mk] at h
  exact nds_mem h.2

structure FB (l : List Tk) (Nm : ByteArray → Prop) (F : Fns) : Prop where
  st : ∀ t d i, Shp Nm 1 t → t.nd → At l i t.toks → (endsIf t.count t = true → fx l (i + t.toks.length) ≠ tElse) → fx l (i + t.toks.length) ≠ tFinally → Good (F.st d i) t (i + t.toks.length)
  vl : ∀ t d i, Shp Nm 0 t → t.nd → At l i t.toks → Stop l 1 (i + t.toks.length) → fx l (i + t.toks.length) ≠ tEq → Good (F.vl d i) t (i + t.toks.length)
  pr : ∀ t least d i, 2 ≤ least → least ≤ 8 → Shp Nm 0 t → t.nd → At l i (t.at least) → Stop l least (i + (t.at least).length) → Good (F.pr least d i) t (i + (t.at least).length)
  sg : ∀ t d i, Shp Nm 0 t → t.nd → At l i (t.at 8) → fx l (i + (t.at 8).length) ≠ tDot → fx l (i + (t.at 8).length) ≠ tOpen → Good (F.sg d i) t (i + (t.at 8).length)

section
variable {l : List Tk} {Nm : ByteArray → Prop}
theorem commaT_cons (a : List TS) (r : List (List TS)) (h : r ≠ []) : commaT (a :: r) = a ++ sgT tComma :: commaT r := by
  cases r with
  | nil => exact absurd rfl h
  | cons b r => rfl
/-- A row in commas comes back, if its parts do. -/
theorem loop_back {shut : ByteArray} (hs : shut ≠ tComma) (begins : Nat → Bool) {part : Nat → PR Tr} {tk : Tr → List TS} :
    ∀ (k : Nat) (t : Tr) (ts acc : List Tr) (i : Nat), (∀ u ∈ t :: ts, ∀ i, At l i (tk u) → (fx l (i + (tk u).length) = tComma ∨ fx l (i + (tk u).length) = shut) → Good (part i) u (i + (tk u).length)) →
      acc.length + (t :: ts).length ≤ 8 → At l i (commaT ((t :: ts).map tk) ++ [sgT shut]) → Good (listLoop l shut begins part k acc i) (acc ++ t :: ts) (i + (commaT ((t :: ts).map tk)).length + 1)
  | 0, _, _, _, _, _, _, _ => Or.inr (Or.inr rfl)
  | k + 1, t, ts, acc, i, hp, hl, h => by
    unfold listLoop
    rw [if_neg (by simp at hl; omega)]
    cases ts with
    | nil =>
      have h1 := h.mid
      have hx : fx l (i + (tk t).length) = shut := h1.2.1.fx5
      refine (hp t (List.mem_cons_self ..) i h1.1 (Or.inr hx)).bind ?_
      rw [if_pos hx]
      exact Good.ok
    | cons u us =>
      rw [List.map_cons, commaT_cons _ _ (by simp), List.append_assoc] at h
      have h1 := At.mid (b := commaT ((u :: us).map tk) ++ [sgT shut]) h
      have hx : fx l (i + (tk t).length) = tComma := h1.2.1.fx5
      refine (hp t (List.mem_cons_self ..) i h1.1 (Or.inl hx)).bind ?_
      rw [if_neg (by rw [hx]; exact Ne.symm hs), h1.2.1.must]
      have h2 := loop_back hs begins (part := part) k u us (acc ++ [t]) (i + (tk t).length + 1) (fun v hv => hp v (List.mem_cons_of_mem _ hv)) (by simp at hl ⊢; omega) h1.2.2
      have e : i + (tk t).length + 1 + (commaT ((u :: us).map tk)).length + 1 = i + (commaT ((t :: u :: us).map tk)).length + 1 := by
        rw [List.map_cons (l := u :: us), commaT_cons _ _ (by simp)]; simp; omega
      rw [e, List.append_assoc] at h2
      exact h2
theorem list_back {opn shut : ByteArray} (hs : shut ≠ tComma) {begins : Nat → Bool} {part : Nat → PR Tr} {tk : Tr → List TS} (k : Nat) (ts : List Tr)
    (hp : ∀ t ∈ ts, ∀ i, At l i (tk t) → (fx l (i + (tk t).length) = tComma ∨ fx l (i + (tk t).length) = shut) → Good (part i) t (i + (tk t).length))
    (hh : ∀ t ∈ ts, ∀ i, At l i (tk t) → fx l i ≠ shut) (i : Nat) (hl : ts.length ≤ 8) (h : At l i (sgT opn :: (commaT (ts.map tk) ++ [sgT shut]))) :
    Good (listP l opn shut begins part k i) ts (i + (sgT opn :: (commaT (ts.map tk) ++ [sgT shut])).length) := by
  unfold listP
  rw [h.1.must]
  show Good (if fx l (i + 1) = shut then _ else _) _ _
  cases ts with
  | nil =>
    have hx : fx l (i + 1) = shut := h.2.1.fx5
    rw [if_pos hx]
    exact Good.ok
  | cons t us =>
    have hx : fx l (i + 1) ≠ shut := by
      refine hh t (List.mem_cons_self ..) (i + 1) ?_
      have h2 := h.2
      cases us with
      | nil => exact h2.app.1
      | cons u us =>
        rw [List.map_cons, commaT_cons _ _ (by simp), List.append_assoc] at h2
        exact h2.app.1
    rw [if_neg hx]
    have h3 := loop_back hs begins (part := part) k t us [] (i + 1) hp (by simpa using hl) h.2
    have e : i + 1 + (commaT ((t :: us).map tk)).length + 1 = i + (sgT opn :: (commaT ((t :: us).map tk) ++ [sgT shut])).length := by simp; omega
    rw [e] at h3
    exact h3
end

theorem toks_blk (tx : ByteArray) (ts : List Tr) : (Tr.mk 6 tx 0 ts).toks = sgT tLBrace :: ((ts.map Tr.toks).flatten ++ [sgT tRBrace]) := by
  rw [toks_mk, toksL_map]
  show sgT tLBrace :: (((ts.map fun t => (t.kd, t.toks)).map (·.2)).flatten ++ [sgT tRBrace]) = _
  rw [List.map_map]; rfl
theorem toks_decl {kd : Int} (hk : kd = 2 ∨ kd = 3 ∨ kd = 4) (s : ByteArray) (v : List Tr) : (Tr.mk kd s 0 v).toks = wdT (hdText kd) :: nmT s :: ((if 0 < v.length then sgT tEq :: (v.getD 0 noTr).at 1 else []) ++ [sgT tSemi]) := by
  rw [toks_mk, toksL_map]
  cases v with
  | nil => rcases hk with rfl | rfl | rfl <;> rfl
  | cons a r => rcases hk with rfl | rfl | rfl <;> simp [coreB, sgK] <;> rfl
theorem hd_text {kd : Int} (h : kd = 2 ∨ kd = 3 ∨ kd = 4 ∨ kd = 7 ∨ kd = 8 ∨ kd = 9 ∨ kd = 10 ∨ kd = 11) : hdText kd ≠ tElse ∧ hdText kd ≠ tRBrace ∧ hdKind (hdText kd) = kd ∧ hdText kd ≠ tFinally := by
  rcases h with rfl | rfl | rfl | rfl | rfl | rfl | rfl | rfl <;> decide +kernel
section
variable {l : List Tk} {Nm : ByteArray → Prop}
/-- What a statement may begin with. -/
theorem head_st {c : Nat} {t : Tr} (hsh : Shp Nm c t) (hc : c = 1 ∨ c = 3) (i : Nat) (h : At l i t.toks) : fx l i ≠ tElse ∧ fx l i ≠ tRBrace ∧ fx l i ≠ tFinally := by
  have val : ∀ {u : Tr} {least : Int}, Shp Nm 0 u → At l i (u.at least) → fx l i ≠ tElse ∧ fx l i ≠ tRBrace ∧ fx l i ≠ tFinally := fun hu ha => by
    have h1 := (head_at (head_val hu rfl) ha).1
    rcases h1 with (h | h | h | h | h | h | h | h) | h | h | h <;> rw [h] <;> refine ⟨?_, ?_, ?_⟩ <;> decide
  induction hsh with
  | sblk _ ih => exact ih (Or.inr rfl) h
  | blk => rw [toks_blk] at h; rw [h.1.fx5]; refine ⟨?_, ?_, ?_⟩ <;> decide
  | @decl kd s v hk => rw [toks_decl hk] at h; rw [h.1.fx2]; have := hd_text (kd := kd) (by omega); exact ⟨this.1, this.2.1, this.2.2.2⟩
  | func => rw [toks_mk, toksL_map] at h; have h1 : Mt (tkA l i) (wdT tFunction) := h.1; rw [h1.fx2]; refine ⟨?_, ?_, ?_⟩ <;> decide
  | sif => rw [toks_mk, toksL_map] at h; have h1 : Mt (tkA l i) (wdT (hdText 7)) := h.1; rw [h1.fx2]; have := hd_text (kd := 7) (by omega); exact ⟨this.1, this.2.1, this.2.2.2⟩
  | sife => rw [toks_mk, toksL_map] at h; have h1 : Mt (tkA l i) (wdT (hdText 7)) := h.1; rw [h1.fx2]; have := hd_text (kd := 7) (by omega); exact ⟨this.1, this.2.1, this.2.2.2⟩
  | loop hk =>
    rw [toks_mk, toksL_map] at h
    rcases hk with rfl | rfl
    · have h1 : Mt (tkA l i) (wdT (hdText 8)) := h.1; rw [h1.fx2]; have := hd_text (kd := 8) (by omega); exact ⟨this.1, this.2.1, this.2.2.2⟩
    · have h1 : Mt (tkA l i) (wdT (hdText 9)) := h.1; rw [h1.fx2]; have := hd_text (kd := 9) (by omega); exact ⟨this.1, this.2.1, this.2.2.2⟩
  | give hk =>
    rw [toks_mk, toksL_map] at h
    rcases hk with rfl | rfl
    · have h1 : Mt (tkA l i) (wdT (hdText 10)) := h.1; rw [h1.fx2]; have := hd_text (kd := 10) (by omega); exact ⟨this.1, this.2.1, this.2.2.2⟩
    · have h1 : Mt (tkA l i) (wdT (hdText 11)) := h.1; rw [h1.fx2]; have := hd_text (kd := 11) (by omega); exact ⟨this.1, this.2.1, this.2.2.2⟩
  | atm => rw [toks_mk, toksL_map] at h; have h1 : Mt (tkA l i) (wdT tTry) := h.1; rw [h1.fx2]; refine ⟨?_, ?_, ?_⟩ <;> decide
  | empty => rw [toks_mk, toksL_map] at h; have h1 : Mt (tkA l i) (sgT tSemi) := h.1; rw [h1.fx5]; refine ⟨?_, ?_, ?_⟩ <;> decide
  | @expr v hv =>
    rw [toks_mk, toksL_map] at h
    have h0 : At l i ((if opensW v.count v = true then sgT tOpen :: (v.toks ++ [sgT tShut]) else v.at 1) ++ [sgT tSemi]) := h
    split at h0
    · rw [h0.1.fx5]; refine ⟨?_, ?_, ?_⟩ <;> decide
    · exact val hv h0.app.1
  | _ => rcases hc with hc | hc <;> cases hc
variable {F : Fns} (hF : FB l Nm F)
include hF
theorem stmts_back (d : Nat) : ∀ (k : Nat) (ts acc : List Tr) (i : Nat), (∀ t ∈ ts, Shp Nm 1 t ∧ t.nd) → At l i ((ts.map Tr.toks).flatten ++ [sgT tRBrace]) → Good (blockLoop l F d k acc i) (acc ++ ts) (i + ((ts.map Tr.toks).flatten).length + 1)
  | 0, _, _, _, _, _ => Or.inr (Or.inr rfl)
  | k + 1, [], acc, i, _, h => by
    unfold blockLoop
    rw [if_pos h.1.fx5, List.append_nil]
    exact Good.ok
  | k + 1, t :: ts, acc, i, ht, h => by
    have h1 : At l i (t.toks ++ ((ts.map Tr.toks).flatten ++ [sgT tRBrace])) := by simpa using h
    obtain ⟨hsh, hnd⟩ := ht t (List.mem_cons_self ..)
    have h2 := head_st hsh (Or.inl rfl) i h1.app.1
    unfold blockLoop
    rw [if_neg h2.2.1]
    have hx : fx l (i + t.toks.length) ≠ tElse ∧ fx l (i + t.toks.length) ≠ tFinally := by
      have h3 := h1.app.2
      cases ts with
      | nil => rw [h3.1.fx5]; refine ⟨?_, ?_⟩ <;> decide
      | cons u us =>
        have h4 : At l (i + t.toks.length) (u.toks ++ ((us.map Tr.toks).flatten ++ [sgT tRBrace])) := by simpa using h3
        have h5 := head_st (ht u (by simp)).1 (Or.inl rfl) _ h4.app.1
        exact ⟨h5.1, h5.2.2⟩
    refine (Good.deep (hF.st t _ i hsh hnd h1.app.1 (fun _ => hx.1) hx.2)).bind ?_
    have h5 := stmts_back d k ts (acc ++ [t]) (i + t.toks.length) (fun u hu => ht u (List.mem_cons_of_mem _ hu)) h1.app.2
    have e : i + t.toks.length + ((ts.map Tr.toks).flatten).length + 1 = i + (((t :: ts).map Tr.toks).flatten).length + 1 := by simp; omega
    rw [e, List.append_assoc] at h5
    exact h5
theorem block_back (d : Nat) (tx : ByteArray) (ts : List Tr) (ht : ∀ t ∈ ts, Shp Nm 1 t ∧ t.nd) (i : Nat) (h : At l i (Tr.mk 6 tx 0 ts).toks) : Good (blockP l F d i) (.mk 6 noText 0 ts) (i + (Tr.mk 6 tx 0 ts).toks.length) := by
  rw [toks_blk] at h ⊢
  unfold blockP
  rw [h.1.must]
  show Good ((blockLoop l F d F.fuel [] (i + 1)).bind _) _ _
  refine (stmts_back hF d F.fuel ts [] (i + 1) ht h.2).bind ?_
  have e : i + 1 + ((ts.map Tr.toks).flatten).length + 1 = i + (sgT tLBrace :: ((ts.map Tr.toks).flatten ++ [sgT tRBrace])).length := by simp; omega
  rw [e]
  exact Good.ok
omit hF in
theorem params_back (ps : List Tr) (hs : ∀ u ∈ ps, Shp Nm 6 u) (hl : ps.length ≤ 8) (i : Nat) (h : At l i (Tr.mk 40 noText 0 ps).toks) : Good (paramsP l F i) (.mk 40 noText 0 ps) (i + (Tr.mk 40 noText 0 ps).toks.length) := by
  rw [toks_pars] at h ⊢
  unfold paramsP
  refine (list_back (by decide) F.fuel ps (fun t ht j hj _ => ?_) (fun t ht j hj => ?_) i hl h).bind Good.ok
  · cases hs t ht with
    | par _ =>
      rw [toks_name] at hj ⊢
      unfold paramP
      rw [hj.1.name]
      exact Good.ok
  · cases hs t ht with
    | par _ =>
      rw [toks_name] at hj
      rw [hj.1.fx0 (Or.inl rfl)]; decide
theorem tail_back (kd : Int) (s : ByteArray) (d : Nat) (p b : Tr) (hp : Shp Nm 5 p) (hb : Shp Nm 4 b) (hnb : ∀ t ∈ b.kids, t.nd) (hcd : b = codeT (.mk 6 noText 0 b.kids)) (i : Nat) (h : At l i (p.toks ++ b.toks)) :
    Good (funcTail l F kd s d i) (.mk kd s 0 [p, b]) (i + (p.toks ++ b.toks).length) := by
  unfold funcTail
  cases hp with
  | @pars ps hs hl =>
    cases hb with
    | @body tx ts htx hts =>
      refine (params_back ps hs hl i h.app.1).bind ?_
      refine (block_back hF d tx ts (fun t ht => ⟨hts t ht, hnb t ht⟩) _ h.app.2).bind ?_
      have hcd' : codeT (Tr.mk 6 noText 0 ts) = Tr.mk 6 tx 0 ts := hcd.symm
      rw [hcd']
      have e : i + (Tr.mk 40 noText 0 ps).toks.length + (Tr.mk 6 tx 0 ts).toks.length = i + ((Tr.mk 40 noText 0 ps).toks ++ (Tr.mk 6 tx 0 ts).toks).length := by simp; omega
      rw [e]
      exact Good.ok
end

theorem vk_open : look2 vlKeys tOpen = some 0 := by kernel_rfl
theorem vk_brace : look2 vlKeys tLBrace = some 1 := by kernel_rfl
theorem vk_function : look2 vlKeys tFunction = some 2 := by kernel_rfl
theorem vk_none : look2 vlKeys noText = none := by kernel_rfl
theorem sg0_none : sgP 0 noText = none := by kernel_rfl
theorem two_none {x : ByteArray} (h : x = tShut ∨ x = tComma ∨ x = tRBrace ∨ x = tSemi ∨ x = tEq) : sgP 2 x = none ∧ x ≠ tDot ∧ x ≠ tOpen := by
  rcases h with rfl | rfl | rfl | rfl | rfl <;> exact ⟨by kernel_rfl, by decide, by decide⟩
section
variable {l : List Tk} {Nm : ByteArray → Prop}
theorem stop_at {j : Nat} {x : ByteArray} (hx : fx l j = x) (h : x = tShut ∨ x = tComma ∨ x = tRBrace ∨ x = tSemi ∨ x = tEq) (least : Int) : Stop l least j := Stop.of hx (two_none h).1 (two_none h).2.1 (two_none h).2.2 least
variable {F : Fns} (hF : FB l Nm F)
include hF
theorem par_back (t : Tr) (hsh : Shp Nm 0 t) (hnd : t.nd) (d i : Nat) (h : At l i (sgT tOpen :: (t.toks ++ [sgT tShut]))) : Good (aloneP l F d i) t (i + (sgT tOpen :: (t.toks ++ [sgT tShut])).length) := by
  have h2 := At.mid (b := []) h.2
  have hx : fx l (i + 1 + t.toks.length) = tShut := h2.2.1.fx5
  unfold aloneP
  rw [h.1.fx5, vk_open]
  show Good (inParP l F d i) _ _
  unfold inParP
  rw [h.1.must]
  show Good ((deepP l F.vl d (i + 1)).bind _) _ _
  refine (Good.deep (hF.vl t _ _ hsh hnd h2.1 (stop_at hx (Or.inl rfl) 1) (by rw [hx]; decide))).bind ?_
  rw [h2.2.1.must]
  have e : i + 1 + t.toks.length + 1 = i + (sgT tOpen :: (t.toks ++ [sgT tShut])).length := by simp; omega
  rw [e]
  exact Good.ok
/-- A value in commas. -/
theorem arg_back {x : ByteArray} (hxx : x = tShut ∨ x = tRBrace) (t : Tr) (hsh : Shp Nm 0 t) (hnd : t.nd) (d i : Nat) (h : At l i (t.at 1)) (hx : fx l (i + (t.at 1).length) = tComma ∨ fx l (i + (t.at 1).length) = x) : Good (deepP l F.vl d i) t (i + (t.at 1).length) := by
  rw [at_plain (strK_one _)] at h hx ⊢
  have hy : ∃ y, fx l (i + t.toks.length) = y ∧ (y = tShut ∨ y = tComma ∨ y = tRBrace ∨ y = tSemi ∨ y = tEq) ∧ y ≠ tEq := by
    rcases hx with e | e
    · exact ⟨_, e, Or.inr (Or.inl rfl), by decide⟩
    · rcases hxx with rfl | rfl
      · exact ⟨_, e, Or.inl rfl, by decide⟩
      · exact ⟨_, e, Or.inr (Or.inr (Or.inl rfl)), by decide⟩
  obtain ⟨y, hy, h1, h2⟩ := hy
  exact Good.deep (hF.vl t _ i hsh hnd h (stop_at hy h1 1) (by rw [hy]; exact h2))
theorem obj_back (ps : List Tr) (hs : ∀ u ∈ ps, Shp Nm 2 u) (hn : ∀ u ∈ ps, u.nd) (hl : ps.length ≤ 8) (d i : Nat) (h : At l i (Tr.mk 38 noText 0 ps).toks) : Good (objectP l F d i) (.mk 38 noText 0 ps) (i + (Tr.mk 38 noText 0 ps).toks.length) := by
  rw [toks_obj] at h ⊢
  unfold objectP
  refine (list_back (by decide) F.fuel ps (fun t ht j hj hx => ?_) (fun t ht j hj => ?_) i hl h).bind Good.ok
  · have hnt := hn t ht
    cases hs t ht with
    | @prop s v _ hv =>
      rw [toks_prop] at hj hx ⊢
      unfold propP
      rw [hj.1.name]
      show Good ((mustP l tColon (j + 1)).bind _) _ _
      rw [hj.2.1.must]
      show Good ((deepP l F.vl d (j + 1 + 1)).bind _) _ _
      have e : j + (nmT s :: sgT tColon :: v.at 1).length = j + 1 + 1 + (v.at 1).length := by simp; omega
      rw [e] at hx ⊢
      exact (arg_back hF (Or.inr rfl) v hv (nd_kids hnt v (by simp)) d _ hj.2.2 hx).bind Good.ok
  · cases hs t ht with
    | prop _ _ =>
      rw [toks_prop] at hj
      rw [hj.1.fx0 (Or.inl rfl)]; decide
theorem lam_back (s : ByteArray) (p b : Tr) (hp : Shp Nm 5 p) (hb : Shp Nm 4 b) (hnd : (Tr.mk 37 s 0 [p, b]).nd) (d i : Nat) (h : At l i (Tr.mk 37 s 0 [p, b]).toks) :
    Good (lambdaP l F d i) (.mk 37 s 0 [p, b]) (i + (Tr.mk 37 s 0 [p, b]).toks.length) := by
  have hnd' := hnd
  rw [nd_mk] at hnd'
  have hcd := hnd'.1.2 (Or.inr rfl) p b rfl
  have hnb : ∀ t ∈ b.kids, t.nd := by
    have h1 := nd_kids hnd b (by simp)
    cases b with
    | mk kd tx n ks => exact nd_kids h1
  rw [toks_lam] at h ⊢
  unfold lambdaP
  rw [h.1.must2]
  show Good (if isName l (i + 1) = true then _ else _) _ _
  by_cases hs : s = noText
  · rw [if_pos hs, List.nil_append] at h ⊢
    have h1 : isName l (i + 1) = false := by
      cases hp with
      | pars _ _ =>
        rw [toks_pars] at h
        have h2 : Mt (tkA l (i + 1)) (sgT tOpen) := h.2.1
        unfold isName
        rw [h2.1]; rfl
    rw [h1, if_neg (by decide)]
    have h3 := tail_back hF 37 noText d p b hp hb hnb hcd (i + 1) h.2
    have e : i + 1 + (p.toks ++ b.toks).length = i + (wdT tFunction :: (p.toks ++ b.toks)).length := by simp; omega
    rw [e] at h3
    rw [hs]
    exact h3
  · rw [if_neg hs] at h ⊢
    have h2 : Mt (tkA l (i + 1)) (nmT s) := h.2.1
    have h1 : isName l (i + 1) = true := by unfold isName; rw [h2.1]; rfl
    rw [h1, if_pos rfl, h2.name]
    have h3 := tail_back hF 37 s d p b hp hb hnb hcd (i + 1 + 1) h.2.2
    have e : i + 1 + 1 + (p.toks ++ b.toks).length = i + (wdT tFunction :: ([nmT s] ++ p.toks ++ b.toks)).length := by simp; omega
    rw [e] at h3
    exact h3
theorem alone_back (t : Tr) (hsh : Shp Nm 0 t) (hnd : t.nd) (hk : strK t.kd = 10) (d i : Nat) (h : At l i t.toks) : Good (aloneP l F d i) t (i + t.toks.length) := by
  cases hsh with
  | name _ =>
    rw [toks_name] at h ⊢
    unfold aloneP
    rw [h.1.fx0 (Or.inl rfl), vk_none]
    simp only
    rw [sg0_none]
    simp only
    rw [if_pos h.1.1, h.1.2.1 (by simp)]
    exact Good.ok
  | str _ =>
    rw [toks_str] at h ⊢
    have h1 : (tkA l i).kd = 4 := h.1.1
    unfold aloneP
    rw [h.1.fx0 (Or.inr (Or.inr rfl)), vk_none]
    simp only
    rw [sg0_none]
    simp only
    rw [if_neg (by omega), if_pos h1, h.1.2.1 (by simp)]
    exact Good.ok
  | num _ =>
    rw [toks_num] at h ⊢
    have h1 : (tkA l i).kd = 3 := h.1.1
    unfold aloneP
    rw [h.1.fx0 (Or.inr (Or.inl rfl)), vk_none]
    simp only
    rw [sg0_none]
    simp only
    rw [if_neg (by omega), if_neg (by omega), if_pos h1, h.1.2.2 rfl]
    exact Good.ok
  | lit hl =>
    obtain ⟨g, hg, hgk, hp, hs, _, hx⟩ := sg_lit hl
    rw [toks_lit hg hp] at h ⊢
    unfold aloneP
    rw [h.1.fxS]
    have h1 : look2 vlKeys g.tx = none := by rcases hx with e | e | e | e <;> rw [e] <;> kernel_rfl
    rw [h1]
    simp only
    rw [hs]
    simp only
    rw [hgk]
    exact Good.ok
  | obj hs hl =>
    have h1 := obj_back hF _ hs (nd_kids hnd) hl d i h
    unfold aloneP
    rw [toks_obj] at h
    rw [h.1.fx5, vk_brace]
    exact h1
  | lam _ hp hb =>
    have h1 := lam_back hF _ _ _ hp hb hnd d i h
    unfold aloneP
    rw [toks_lam] at h
    rw [h.1.fx2, vk_function]
    exact h1
  | memb => exact absurd hk (by show strK 36 ≠ 10; decide +kernel)
  | call => exact absurd hk (by show strK 35 ≠ 10; decide +kernel)
  | asg => exact absurd hk (by show strK 24 ≠ 10; decide +kernel)
  | @two kd _ _ h2 => obtain ⟨g, _, _, _, _, _, h7, hs, _⟩ := sg_two h2; have : strK kd = 10 := hk; omega
  | @one kd _ h1 => obtain ⟨g, _, _, _, _, _, hs, _⟩ := sg_one h1; have : strK kd = 10 := hk; omega

/-- The loop is come to with this value, and goes on. -/
def Rch (r : PR Tr) (loop : Nat → Tr → Nat → PR Tr) (t : Tr) (j : Nat) : Prop := (∃ m, r = loop m t j) ∨ (∃ p, r = .bad 4 p) ∨ r = .out
omit hF in
theorem Rch.of {r : PR Tr} {loop : Nat → Tr → Nat → PR Tr} {t : Tr} {j : Nat} (m : Nat) (h : Good r t j) : Rch (r.bind fun t i => loop m t i) loop t j := by
  rcases h with rfl | ⟨p, rfl⟩ | rfl
  · exact Or.inl ⟨m, rfl⟩
  · exact Or.inr (Or.inl ⟨p, rfl⟩)
  · exact Or.inr (Or.inr rfl)
omit hF in
theorem Rch.step {r : PR Tr} {loop : Nat → Tr → Nat → PR Tr} {t u : Tr} {j k : Nat} (h : Rch r loop t j) (hs : ∀ m, Rch (loop m t j) loop u k) : Rch r loop u k := by
  rcases h with ⟨m, rfl⟩ | ⟨p, rfl⟩ | rfl
  · exact hs m
  · exact Or.inr (Or.inl ⟨p, rfl⟩)
  · exact Or.inr (Or.inr rfl)
theorem asked_reach (d m : Nat) : ∀ (n : Nat) (t : Tr), t.count ≤ n → Shp Nm 0 t → t.nd → 9 ≤ strK t.kd → ∀ i, At l i t.toks → Rch ((aloneP l F d i).bind fun t i => askedLoop l F d m t i) (askedLoop l F d) t (i + t.toks.length)
  | 0, t, hc, _, _, _, _, _ => by cases t with | mk kd tx nn ks => rw [count_mk] at hc; omega
  | n + 1, t, hc, hsh, hnd, h9, i, h => by
    have left : ∀ u : Tr, u.count ≤ n → Shp Nm 0 u → u.nd → At l i (u.at 9) → Rch ((aloneP l F d i).bind fun t i => askedLoop l F d m t i) (askedLoop l F d) u (i + (u.at 9).length) := fun u hcu hu hnu ha => by
      by_cases hs : strK u.kd < 9
      · rw [at_par hs] at ha ⊢
        exact Rch.of m (par_back hF u hu hnu d i ha)
      · rw [at_plain (by omega)] at ha ⊢
        exact asked_reach d m n u hcu hu hnu (by omega) i ha
    by_cases h10 : strK t.kd = 10
    · exact Rch.of m (alone_back hF t hsh hnd h10 d i h)
    cases hsh with
    | @memb s u _ hu =>
      rw [toks_memb] at h ⊢
      have h1 := At.mid (b := [nmT s]) h
      have hcu : u.count ≤ n := by rw [count_mk, counts_cons, counts_nil] at hc; omega
      refine (left u hcu hu (nd_kids hnd u (by simp)) h1.1).step (fun m' => ?_)
      cases m' with
      | zero => exact Or.inr (Or.inr rfl)
      | succ m' =>
        refine Or.inl ⟨m', ?_⟩
        rw [askedLoop, if_pos h1.2.1.fx5, h1.2.2.1.name]
        show askedLoop l F d m' _ _ = _
        have e : i + (u.at 9).length + 1 + 1 = i + (u.at 9 ++ [sgT tDot, nmT s]).length := by simp; omega
        rw [e]
    | @call u ts hu hts hl =>
      rw [toks_call] at h ⊢
      have h1 := At.app h
      have hcu : u.count ≤ n := by rw [count_mk, counts_cons] at hc; omega
      have hx : fx l (i + (u.at 9).length) = tOpen := h1.2.1.fx5
      refine (left u hcu hu (nd_kids hnd u (by simp)) h1.1).step (fun m' => ?_)
      cases m' with
      | zero => exact Or.inr (Or.inr rfl)
      | succ m' =>
        rw [askedLoop, if_neg (by rw [hx]; decide), if_pos hx]
        have hL := list_back (l := l) (opn := tOpen) (shut := tShut) (begins := isVal l) (part := argP l F d) (tk := fun v => v.at 1) (by decide) F.fuel ts
          (fun v hv j hj hxj => arg_back hF (Or.inl rfl) v (hts v hv) (nd_kids hnd v (by simp [hv])) d j hj hxj)
          (fun v hv j hj => (headAny_ne (head_at (head_val (hts v hv) rfl) hj).1).1) _ hl h1.2
        have e : i + (u.at 9).length + (sgT tOpen :: (commaT (ts.map fun v => v.at 1) ++ [sgT tShut])).length = i + (u.at 9 ++ sgT tOpen :: (commaT (ts.map fun v => v.at 1) ++ [sgT tShut])).length := by simp; omega
        rw [e] at hL
        rcases hL with e | ⟨p, e⟩ | e
        · rw [e]; exact Or.inl ⟨m', rfl⟩
        · rw [e]; exact Or.inr (Or.inl ⟨p, rfl⟩)
        · rw [e]; exact Or.inr (Or.inr rfl)
    | asg => exact absurd h9 (by show ¬ 9 ≤ strK 24; decide +kernel)
    | @two kd _ _ h2 => obtain ⟨g, _, _, _, _, _, h7, hs, _⟩ := sg_two h2; have : 9 ≤ strK kd := h9; omega
    | @one kd _ h1 => obtain ⟨g, _, _, _, _, _, hs, _⟩ := sg_one h1; have : 9 ≤ strK kd := h9; omega
    | lit hk => obtain ⟨_, _, _, _, _, h, _⟩ := sg_lit hk; exact absurd h h10
    | name => exact absurd (show strK 23 = 10 by decide +kernel) h10
    | str => exact absurd (show strK 18 = 10 by decide +kernel) h10
    | num => exact absurd (show strK 17 = 10 by decide +kernel) h10
    | obj => exact absurd (show strK 38 = 10 by decide +kernel) h10
    | lam => exact absurd (show strK 37 = 10 by decide +kernel) h10
omit hF in
theorem asked_stop {m d j : Nat} {t : Tr} (h1 : fx l j ≠ tDot) (h2 : fx l j ≠ tOpen) : Good (askedLoop l F d m t j) t j := by
  cases m with
  | zero => exact Or.inr (Or.inr rfl)
  | succ m => rw [askedLoop, if_neg h1, if_neg h2]; exact Good.ok
omit hF in
theorem Rch.good {r : PR Tr} {loop : Nat → Tr → Nat → PR Tr} {t : Tr} {j : Nat} (h : Rch r loop t j) (hs : ∀ m, Good (loop m t j) t j) : Good r t j := by
  rcases h with ⟨m, rfl⟩ | ⟨p, rfl⟩ | rfl
  · exact hs m
  · exact Or.inr (Or.inl ⟨p, rfl⟩)
  · exact Or.inr (Or.inr rfl)
theorem single_back (t : Tr) (hsh : Shp Nm 0 t) (hnd : t.nd) (d i : Nat) (h : At l i (t.at 8)) (h1 : fx l (i + (t.at 8).length) ≠ tDot) (h2 : fx l (i + (t.at 8).length) ≠ tOpen) : Good (singleP l F d i) t (i + (t.at 8).length) := by
  by_cases hs : strK t.kd < 8
  · rw [at_par hs] at h h1 h2 ⊢
    unfold singleP
    have h3 : sgP 1 (fx l i) = none := by rw [h.1.fx5]; kernel_rfl
    rw [h3]
    unfold askedP
    exact (par_back hF t hsh hnd d i h).bind (asked_stop h1 h2)
  · rw [at_plain (by omega)] at h h1 h2 ⊢
    by_cases h9 : 9 ≤ strK t.kd
    · unfold singleP
      rw [headOk_none ((head_val hsh rfl i h).2 h9)]
      unfold askedP
      exact (asked_reach hF d F.fuel t.count t (Nat.le_refl _) hsh hnd h9 i h).good fun m => asked_stop h1 h2
    · rcases str_val hsh with e | e | e | e
      · rw [e] at hs; exact absurd (show strK 24 < 8 by decide +kernel) hs
      · obtain ⟨g, _, _, _, _, _, h7, hs7, _⟩ := sg_two e; omega
      · cases hsh with
        | @one kd u hk hu =>
          obtain ⟨g, hg, hgk, hp, hsg, hs8, _, _⟩ := sg_one hk
          rw [toks_one hg hp] at h h1 h2 ⊢
          unfold singleP
          rw [h.1.fxS, hsg]
          show Good ((deepP l F.sg d (i + 1)).bind _) _ _
          rw [hs8] at h h1 h2 ⊢
          have e8 : i + (siT g.tx :: u.at 8).length = i + 1 + (u.at 8).length := by simp; omega
          rw [e8] at h1 h2 ⊢
          refine (Good.deep (hF.sg u _ _ hu (nd_kids hnd u (by simp)) h.2 h1 h2)).bind ?_
          rw [hgk]
          exact Good.ok
        | asg => exact absurd e (by show ¬ ((24 : Int) = 32 ∨ (24 : Int) = 33 ∨ (24 : Int) = 34); decide)
        | @two kd _ _ h2 => have : kd = 32 ∨ kd = 33 ∨ kd = 34 := e; omega
        | @lit kd hk => have : kd = 32 ∨ kd = 33 ∨ kd = 34 := e; omega
        | _ => exact absurd e (by show ¬ (_ ∨ _ ∨ _); simp [Tr.kd])
      · exact absurd e h9
end
end Go.Proofs.YtodmgaikhbmlnaaGreatDoor
