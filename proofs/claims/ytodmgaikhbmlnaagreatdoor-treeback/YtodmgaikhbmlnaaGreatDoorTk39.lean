/-
  Two lists of tokens, of which the second one is behind a place as the first: what is read in the one is read so in the other, behind the place.
-/
import Derived.Test.YtodmgaikhbmlnaaGreatDoorTk38
import Derived.Test.YtodmgaikhbmlnaaGreatDoorTk23
import Derived.Test.YtodmgaikhbmlnaaGreatDoorTk29
import Derived.Test.YtodmgaikhbmlnaaGreatDoorTk22
namespace Go.Proofs.YtodmgaikhbmlnaaGreatDoor

def Sh {α : Type} (A : Nat) (r r' : PR α) : Prop := ∀ x j, r = .ok x j → r' = .ok x (A + j)

theorem Sh.ok {α : Type} {A i : Nat} {x : α} : Sh A (.ok x i) (.ok x (A + i)) := fun _ _ h => by cases h; rfl
theorem Sh.bad {α : Type} {A : Nat} {er : Int} {p : Nat} {r : PR α} : Sh A (.bad er p) r := fun _ _ h => by cases h
theorem Sh.out {α : Type} {A : Nat} {r : PR α} : Sh A .out r := fun _ _ h => by cases h
theorem Sh.badF {α : Type} {A : Nat} {l : List Tk} {er : Int} {i : Nat} {r : PR α} : Sh A (badF l er i) r := Sh.bad
theorem Sh.bind {α β : Type} {A : Nat} {r r' : PR α} {f f' : α → Nat → PR β} (h : Sh A r r') (hf : ∀ x i, Sh A (f x i) (f' x (A + i))) : Sh A (r.bind f) (r'.bind f') := by
  intro y j e
  cases r with
  | ok x i => rw [h x i rfl]; exact hf x i y j e
  | bad er p => cases e
  | out => cases e
theorem Sh.ite {α : Type} {A : Nat} {c c' : Prop} [Decidable c] [Decidable c'] {X Y X' Y' : PR α} (hc : c ↔ c') (h1 : Sh A X X') (h2 : Sh A Y Y') :
    Sh A (if c then X else Y) (if c' then X' else Y') := by
  by_cases h : c
  · rw [if_pos h, if_pos (hc.1 h)]; exact h1
  · rw [if_neg h, if_neg (fun hh => h (hc.2 hh))]; exact h2

/-- The second list is, behind the place, as the first, but for where the tokens stand. -/
structure Shifts (l l' : List Tk) (A : Nat) : Prop where
  kd : ∀ i, (tkA l' (A + i)).kd = (tkA l i).kd
  tx : ∀ i, (tkA l' (A + i)).tx = (tkA l i).tx
  n : ∀ i, (tkA l' (A + i)).n = (tkA l i).n

section
variable {l l' : List Tk} {A : Nat} (hA : Shifts l l' A)
include hA

theorem fx_sh {i : Nat} : fx l' (A + i) = fx l i := by unfold fx; rw [hA.kd, hA.tx]
theorem mustP_sh {s : ByteArray} {i : Nat} : Sh A (mustP l s i) (mustP l' s (A + i)) := by
  unfold mustP
  exact Sh.ite (by rw [fx_sh hA]) Sh.ok Sh.badF
theorem nameP_sh {i : Nat} : Sh A (nameP l i) (nameP l' (A + i)) := by
  unfold nameP
  rw [hA.tx]
  exact Sh.ite (by rw [hA.kd]) Sh.ok Sh.badF
omit hA in
theorem deepP_sh {f f' : Nat → Nat → PR Tr} {d i : Nat} (h : Sh A (f (d + 1) i) (f' (d + 1) (A + i))) : Sh A (deepP l f d i) (deepP l' f' d (A + i)) := by
  unfold deepP
  exact Sh.ite Iff.rfl Sh.badF h
theorem listLoop_sh {shut : ByteArray} {begins begins' : Nat → Bool} {part part' : Nat → PR Tr} (hb : ∀ i, begins' (A + i) = begins i) (hp : ∀ i, Sh A (part i) (part' (A + i))) :
    ∀ k acc i, Sh A (listLoop l shut begins part k acc i) (listLoop l' shut begins' part' k acc (A + i)) := by
  intro k
  induction k with
  | zero => intro acc i; exact Sh.out
  | succ k ih =>
    intro acc i
    unfold listLoop
    refine Sh.ite (by rw [hb]) Sh.badF (Sh.bind (hp i) fun t j => Sh.ite (by rw [fx_sh hA]) Sh.ok ?_)
    exact Sh.bind (mustP_sh hA) fun _ j2 => ih _ j2
theorem listP_sh {opn shut : ByteArray} {begins begins' : Nat → Bool} {part part' : Nat → PR Tr} {k i : Nat} (hb : ∀ i, begins' (A + i) = begins i) (hp : ∀ i, Sh A (part i) (part' (A + i))) :
    Sh A (listP l opn shut begins part k i) (listP l' opn shut begins' part' k (A + i)) := by
  unfold listP
  exact Sh.bind (mustP_sh hA) fun _ j => Sh.ite (by rw [fx_sh hA]) Sh.ok (listLoop_sh hA hb hp k [] j)
theorem isName_sh {i : Nat} : isName l' (A + i) = isName l i := by unfold isName; rw [hA.kd]
theorem isVal_sh {i : Nat} : isVal l' (A + i) = isVal l i := by unfold isVal; rw [fx_sh hA, hA.kd]

structure FSh (A : Nat) (F F' : Fns) : Prop where
  fuel : F'.fuel = F.fuel
  st : ∀ d i, Sh A (F.st d i) (F'.st d (A + i))
  vl : ∀ d i, Sh A (F.vl d i) (F'.vl d (A + i))
  pr : ∀ b d i, Sh A (F.pr b d i) (F'.pr b d (A + i))
  sg : ∀ d i, Sh A (F.sg d i) (F'.sg d (A + i))

variable {F F' : Fns} (hF : FSh A F F')
include hF

theorem blockLoop_sh : ∀ n d acc i, Sh A (blockLoop l F d n acc i) (blockLoop l' F' d n acc (A + i)) := by
  intro n
  induction n with
  | zero => intro d acc i; exact Sh.out
  | succ n ih =>
    intro d acc i
    unfold blockLoop
    exact Sh.ite (by rw [fx_sh hA]) Sh.ok (Sh.bind (deepP_sh (hF.st _ _)) fun t j => ih d _ j)
theorem blockP_sh {d i : Nat} : Sh A (blockP l F d i) (blockP l' F' d (A + i)) := by
  unfold blockP
  rw [hF.fuel]
  exact Sh.bind (mustP_sh hA) fun _ j => Sh.bind (blockLoop_sh hA hF _ _ _ _) fun _ _ => Sh.ok
omit hF in
theorem paramP_sh {i : Nat} : Sh A (paramP l i) (paramP l' (A + i)) := by
  unfold paramP
  exact Sh.bind (nameP_sh hA) fun _ _ => Sh.ok
theorem paramsP_sh {i : Nat} : Sh A (paramsP l F i) (paramsP l' F' (A + i)) := by
  unfold paramsP
  rw [hF.fuel]
  exact Sh.bind (listP_sh hA (fun _ => isName_sh hA) fun _ => paramP_sh hA) fun _ _ => Sh.ok
omit hA in
theorem argP_sh {d i : Nat} : Sh A (argP l F d i) (argP l' F' d (A + i)) := deepP_sh (hF.vl _ _)
theorem propP_sh {d i : Nat} : Sh A (propP l F d i) (propP l' F' d (A + i)) := by
  unfold propP
  exact Sh.bind (nameP_sh hA) fun _ _ => Sh.bind (mustP_sh hA) fun _ _ => Sh.bind (deepP_sh (hF.vl _ _)) fun _ _ => Sh.ok
theorem inParP_sh {d i : Nat} : Sh A (inParP l F d i) (inParP l' F' d (A + i)) := by
  unfold inParP
  exact Sh.bind (mustP_sh hA) fun _ _ => Sh.bind (deepP_sh (hF.vl _ _)) fun _ _ => Sh.bind (mustP_sh hA) fun _ _ => Sh.ok
theorem objectP_sh {d i : Nat} : Sh A (objectP l F d i) (objectP l' F' d (A + i)) := by
  unfold objectP
  rw [hF.fuel]
  exact Sh.bind (listP_sh hA (fun _ => isName_sh hA) fun _ => propP_sh hA hF) fun _ _ => Sh.ok
theorem funcTail_sh {kd : Int} {s : ByteArray} {d i : Nat} : Sh A (funcTail l F kd s d i) (funcTail l' F' kd s d (A + i)) := by
  unfold funcTail
  exact Sh.bind (paramsP_sh hA hF) fun _ _ => Sh.bind (blockP_sh hA hF) fun _ _ => Sh.ok
theorem lambdaP_sh {d i : Nat} : Sh A (lambdaP l F d i) (lambdaP l' F' d (A + i)) := by
  unfold lambdaP
  exact Sh.bind (mustP_sh hA) fun _ _ => Sh.ite (by rw [isName_sh hA]) (Sh.bind (nameP_sh hA) fun _ _ => funcTail_sh hA hF) (funcTail_sh hA hF)
theorem funcP_sh {d i : Nat} : Sh A (funcP l F d i) (funcP l' F' d (A + i)) := by
  unfold funcP
  exact Sh.bind (mustP_sh hA) fun _ _ => Sh.bind (nameP_sh hA) fun _ _ => funcTail_sh hA hF
theorem aloneP_sh {d i : Nat} : Sh A (aloneP l F d i) (aloneP l' F' d (A + i)) := by
  unfold aloneP
  rw [fx_sh hA, hA.kd, hA.tx, hA.n]
  split
  · exact inParP_sh hA hF
  · exact objectP_sh hA hF
  · exact lambdaP_sh hA hF
  · split
    · exact Sh.ok
    · exact Sh.ite Iff.rfl Sh.ok (Sh.ite Iff.rfl Sh.ok (Sh.ite Iff.rfl Sh.ok Sh.badF))
theorem askedLoop_sh : ∀ n d t i, Sh A (askedLoop l F d n t i) (askedLoop l' F' d n t (A + i)) := by
  intro n
  induction n with
  | zero => intro d acc i; exact Sh.out
  | succ n ih =>
    intro d t i
    unfold askedLoop
    rw [hF.fuel]
    refine Sh.ite (by rw [fx_sh hA]) (Sh.bind (nameP_sh hA (i := i + 1)) fun _ _ => ih _ _ _) (Sh.ite (by rw [fx_sh hA]) ?_ Sh.ok)
    exact Sh.bind (listP_sh hA (fun _ => isVal_sh hA) fun _ => argP_sh hF) fun _ _ => ih _ _ _
theorem askedP_sh {d i : Nat} : Sh A (askedP l F d i) (askedP l' F' d (A + i)) := by
  unfold askedP
  rw [hF.fuel]
  exact Sh.bind (aloneP_sh hA hF) fun _ _ => askedLoop_sh hA hF _ _ _ _
theorem singleP_sh {d i : Nat} : Sh A (singleP l F d i) (singleP l' F' d (A + i)) := by
  unfold singleP
  rw [fx_sh hA]
  split
  · exact Sh.bind (deepP_sh (i := i + 1) (hF.sg _ _)) fun _ _ => Sh.ok
  · exact askedP_sh hA hF
theorem pairLoop_sh : ∀ n b d t i, Sh A (pairLoop l F b d n t i) (pairLoop l' F' b d n t (A + i)) := by
  intro n
  induction n with
  | zero => intro b d acc i; exact Sh.out
  | succ n ih =>
    intro b d t i
    unfold pairLoop
    rw [fx_sh hA]
    split
    · exact Sh.ok
    · exact Sh.ite Iff.rfl Sh.ok (Sh.bind (hF.pr _ _ (i + 1)) fun _ _ => ih _ _ _ _)
theorem pairP_sh {b : Int} {d i : Nat} : Sh A (pairP l F b d i) (pairP l' F' b d (A + i)) := by
  unfold pairP
  rw [hF.fuel]
  exact Sh.bind (hF.sg _ _) fun _ _ => pairLoop_sh hA hF _ _ _ _ _
theorem valueP_sh {d i : Nat} : Sh A (valueP l F d i) (valueP l' F' d (A + i)) := by
  unfold valueP
  exact Sh.bind (hF.pr _ _ _) fun _ j => Sh.ite (by rw [fx_sh hA]) (Sh.ite Iff.rfl (Sh.bind (deepP_sh (i := j + 1) (hF.vl _ _)) fun _ _ => Sh.ok) Sh.badF) Sh.ok
theorem exprP_sh {d i : Nat} : Sh A (exprP l F d i) (exprP l' F' d (A + i)) := by
  unfold exprP
  exact Sh.bind (deepP_sh (hF.vl _ _)) fun _ _ => Sh.bind (mustP_sh hA) fun _ _ => Sh.ok
theorem declP_sh {d i : Nat} : Sh A (declP l F d i) (declP l' F' d (A + i)) := by
  unfold declP
  rw [hA.tx]
  refine Sh.bind (nameP_sh hA (i := i + 1)) fun _ j => Sh.ite (by rw [fx_sh hA]) Sh.badF (Sh.ite (by rw [fx_sh hA]) ?_ ?_)
  · exact Sh.bind (deepP_sh (i := j + 1) (hF.vl _ _)) fun _ _ => Sh.bind (mustP_sh hA) fun _ _ => Sh.ok
  · exact Sh.bind (mustP_sh hA) fun _ _ => Sh.ok
theorem behindP_sh {d i : Nat} : Sh A (behindP l F d i) (behindP l' F' d (A + i)) := by
  unfold behindP
  rw [hA.tx]
  exact Sh.bind (inParP_sh hA hF (i := i + 1)) fun _ _ => Sh.bind (deepP_sh (hF.st _ _)) fun _ _ => Sh.ok
theorem choiceP_sh {d i : Nat} : Sh A (choiceP l F d i) (choiceP l' F' d (A + i)) := by
  unfold choiceP
  rw [hA.tx]
  exact Sh.bind (inParP_sh hA hF (i := i + 1)) fun _ _ => Sh.bind (deepP_sh (hF.st _ _)) fun _ j => Sh.ite (by rw [fx_sh hA]) (Sh.bind (deepP_sh (i := j + 1) (hF.st _ _)) fun _ _ => Sh.ok) Sh.ok
theorem givingP_sh {d i : Nat} : Sh A (givingP l F d i) (givingP l' F' d (A + i)) := by
  unfold givingP
  rw [hA.tx]
  refine Sh.ite (by rw [show A + i + 1 = A + (i + 1) from rfl, fx_sh hA]) ?_ ?_
  · exact Sh.bind (deepP_sh (i := i + 1) (hF.vl _ _)) fun _ _ => Sh.bind (mustP_sh hA) fun _ _ => Sh.ok
  · exact Sh.bind (mustP_sh hA (i := i + 1)) fun _ _ => Sh.ok
theorem catchP_sh {d i : Nat} : Sh A (catchP l F d i) (catchP l' F' d (A + i)) := by
  unfold catchP
  exact Sh.ite (by rw [fx_sh hA]) (Sh.bind (mustP_sh hA (i := i + 1)) fun _ _ => Sh.bind (nameP_sh hA) fun _ _ => Sh.bind (mustP_sh hA) fun _ _ => Sh.bind (blockP_sh hA hF) fun _ _ => Sh.ok) Sh.ok
theorem finallyP_sh {d i : Nat} : Sh A (finallyP l F d i) (finallyP l' F' d (A + i)) := by
  unfold finallyP
  exact Sh.ite (by rw [fx_sh hA]) (Sh.bind (blockP_sh hA hF (i := i + 1)) fun _ _ => Sh.ok) Sh.ok
theorem attemptP_sh {d i : Nat} : Sh A (attemptP l F d i) (attemptP l' F' d (A + i)) := by
  unfold attemptP
  exact Sh.bind (mustP_sh hA) fun _ _ => Sh.bind (blockP_sh hA hF) fun _ _ => Sh.bind (catchP_sh hA hF) fun _ _ => Sh.bind (finallyP_sh hA hF) fun _ _ => Sh.ite Iff.rfl Sh.badF Sh.ok
theorem partP_sh {d i c : Nat} : Sh A (partP l F d c i) (partP l' F' d c (A + i)) := by
  unfold partP
  split
  · exact declP_sh hA hF
  · exact funcP_sh hA hF
  · exact blockP_sh hA hF
  · exact Sh.bind (mustP_sh hA) fun _ _ => Sh.ok
  · exact choiceP_sh hA hF
  · exact behindP_sh hA hF
  · exact givingP_sh hA hF
  · exact attemptP_sh hA hF
theorem statementP_sh {d i : Nat} : Sh A (statementP l F d i) (statementP l' F' d (A + i)) := by
  unfold statementP
  rw [fx_sh hA]
  split
  · exact partP_sh hA hF
  · exact exprP_sh hA hF
omit hF in
theorem fns_sh : ∀ k, FSh A (fns l k) (fns l' k) := by
  intro k
  induction k with
  | zero => exact ⟨rfl, fun _ _ => Sh.out, fun _ _ => Sh.out, fun _ _ _ => Sh.out, fun _ _ => Sh.out⟩
  | succ k ih => exact ⟨rfl, fun _ _ => statementP_sh hA ih, fun _ _ => valueP_sh hA ih, fun _ _ _ => pairP_sh hA ih, fun _ _ => singleP_sh hA ih⟩
end
end Go.Proofs.YtodmgaikhbmlnaaGreatDoor
set_option maxRecDepth 100000
set_option maxHeartbeats 16000000
namespace Go.Proofs.YtodmgaikhbmlnaaGreatDoor
open Go.RowKit

/-- Words that begin no statement. -/
def NoHead (s : ByteArray) : Prop := s = tElse ∨ s = tCatch ∨ s = tFinally

theorem NoHead.facts {s : ByteArray} (h : NoHead s) : s ≠ noText ∧ look2 vlKeys s = none ∧ (sgP 0 s).isNone = true ∧ (sgP 1 s).isNone = true ∧ look2 stKeys s = none := by
  rcases h with rfl | rfl | rfl <;> decide

section
variable {l : List Tk} {s : ByteArray} {i : Nat} (hs : NoHead s) (hf : fx l i = s)
include hs hf

theorem fixed_kd : (tkA l i).kd = 2 ∨ (tkA l i).kd = 5 := by
  have h0 := hs.facts.1
  unfold fx at hf
  split at hf
  · rename_i h
    simpa using h
  · exact absurd hf.symm h0

theorem alone_no (F : Fns) (d : Nat) (x : Tr) (j : Nat) : aloneP l F d i ≠ .ok x j := by
  obtain ⟨_, h2, h3, _, _⟩ := hs.facts
  have hk := fixed_kd hs hf
  unfold aloneP
  rw [hf, h2]
  simp only
  rw [Option.isNone_iff_eq_none.1 h3]
  simp only
  rw [if_neg (by omega), if_neg (by omega), if_neg (by omega)]
  nofun

theorem sg_no (k d : Nat) (x : Tr) (j : Nat) : (fns l k).sg d i ≠ .ok x j := by
  cases k with
  | zero => nofun
  | succ k =>
    obtain ⟨_, _, _, h4, _⟩ := hs.facts
    show singleP l (fns l k) d i ≠ .ok x j
    unfold singleP
    rw [hf, Option.isNone_iff_eq_none.1 h4]
    simp only
    unfold askedP
    intro h
    obtain ⟨t, j1, h1, _⟩ := bind_inv h
    exact alone_no hs hf _ _ _ _ h1
theorem pr_no (k : Nat) (b : Int) (d : Nat) (x : Tr) (j : Nat) : (fns l k).pr b d i ≠ .ok x j := by
  cases k with
  | zero => nofun
  | succ k =>
    show pairP l (fns l k) b d i ≠ .ok x j
    unfold pairP
    intro h
    obtain ⟨t, j1, h1, _⟩ := bind_inv h
    exact sg_no hs hf _ _ _ _ h1
theorem vl_no (k d : Nat) (x : Tr) (j : Nat) : (fns l k).vl d i ≠ .ok x j := by
  cases k with
  | zero => nofun
  | succ k =>
    show valueP l (fns l k) d i ≠ .ok x j
    unfold valueP
    intro h
    obtain ⟨t, j1, h1, _⟩ := bind_inv h
    exact pr_no hs hf _ _ _ _ _ h1
theorem st_no (k d : Nat) (x : Tr) (j : Nat) : (fns l k).st d i ≠ .ok x j := by
  cases k with
  | zero => nofun
  | succ k =>
    obtain ⟨_, _, _, _, h5⟩ := hs.facts
    show statementP l (fns l k) d i ≠ .ok x j
    unfold statementP
    rw [hf, h5]
    simp only
    unfold exprP
    intro h
    obtain ⟨t, j1, h1, _⟩ := bind_inv h
    unfold deepP at h1
    split at h1
    · cases h1
    · exact vl_no hs hf _ _ _ _ h1
end

theorem first_no {l : List Tk} {k n : Nat} {acc ts : List Tr} {i j : Nat} {s : ByteArray} (hs : NoHead s) (h : progLoop l (fns l k) n acc i = .ok ts j) : fx l i ≠ s := by
  intro hf
  cases n with
  | zero => cases h
  | succ n =>
    unfold progLoop at h
    have hk := fixed_kd hs hf
    rw [if_neg (by omega)] at h
    obtain ⟨t, j1, h1, _⟩ := bind_inv h
    unfold deepP at h1
    split at h1
    · cases h1
    · exact st_no hs hf _ _ _ _ h1

/-- The first text's statements, read in the joined one. -/
theorem loop_js {l l' : List Tk} {A : Nat} {F F' : Fns} (hE : Ends l) (hA : ∀ i, i < A → tkA l i = tkA l' i) (hL : l.length = A + 1) (hF : FJs l A F F') :
    ∀ n acc i ts j, i < l.length → progLoop l F n acc i = .ok ts j → ∃ k, k ≤ A - i ∧ ∀ e, progLoop l' F' (k + e) acc i = progLoop l' F' e ts A := by
  intro n
  induction n with
  | zero => intro acc i ts j _ h; cases h
  | succ n ih =>
    intro acc i ts j hi h
    unfold progLoop at h
    by_cases hiA : i = A
    · rw [if_pos ((hE i hi).2 (by omega))] at h
      cases h
      subst hiA
      exact ⟨0, Nat.zero_le _, fun e => by rw [Nat.zero_add]⟩
    · have h6 : ¬ (tkA l i).kd = 6 := fun h => by have := (hE i hi).1 h; omega
      rw [if_neg h6] at h
      obtain ⟨t, j1, h1, h⟩ := bind_inv h
      have hj := deepP_js (l' := l') (hF.st (0 + 1) i hi) t j1 h1
      obtain ⟨k, hk, he⟩ := ih _ j1 ts j hj.1.2 h
      refine ⟨k + 1, by omega, fun e => ?_⟩
      rw [show k + 1 + e = (k + e) + 1 by omega]
      conv => lhs; unfold progLoop
      rw [← hA i (by omega), if_neg h6, hj.2 (by omega)]
      exact he e

/-- The second text's, behind them. -/
theorem loop_sh {l l' : List Tk} {A k0 : Nat} {F F' : Fns} (hN : FNx l k0 F) (hA : Shifts l l' A) (hF : FSh A F F') :
    ∀ n acc i ts j, i < l.length → progLoop l F n acc i = .ok ts j → ∃ us, ts = acc ++ us ∧ ∃ k, k ≤ l.length - i ∧ ∀ e acc', progLoop l' F' (k + 1 + e) acc' (A + i) = .ok (acc' ++ us) (A + j) := by
  intro n
  induction n with
  | zero => intro acc i ts j _ h; cases h
  | succ n ih =>
    intro acc i ts j hi h
    unfold progLoop at h
    by_cases h6 : (tkA l i).kd = 6
    · rw [if_pos h6] at h
      cases h
      refine ⟨[], by simp, 0, Nat.zero_le _, fun e acc' => ?_⟩
      rw [show 0 + 1 + e = e + 1 by omega]
      unfold progLoop
      rw [hA.kd, if_pos h6, List.append_nil]
    · rw [if_neg h6] at h
      obtain ⟨t, j1, h1, h⟩ := bind_inv h
      have hj := (deepP_nx (l := l) (d := 0) (hN.st (0 + 1) i hi)).2 t j1 h1
      obtain ⟨us, hu, k, hk, he⟩ := ih _ j1 ts j hj.2 h
      refine ⟨t :: us, by rw [hu]; simp, k + 1, by omega, fun e acc' => ?_⟩
      rw [show k + 1 + 1 + e = (k + 1 + e) + 1 by omega]
      conv => lhs; unfold progLoop
      rw [hA.kd, if_neg h6, deepP_sh (hF.st (0 + 1) i) t j1 h1]
      show progLoop l' F' (k + 1 + e) (acc' ++ [t]) (A + j1) = _
      rw [he]
      simp

theorem codeT_kids (t : Tr) : (codeT t).kids = t.kids := by unfold codeT; split <;> rfl

theorem progP_inv {l : List Tk} {F : Fns} {t : Tr} {j : Nat} (h : progP l F = .ok t j) : ∃ ts, progLoop l F F.fuel [] 0 = .ok ts j ∧ t = codeT (.mk 1 noText 0 ts) := by
  unfold progP at h
  obtain ⟨ts, j1, h1, h⟩ := bind_inv h
  cases h
  exact ⟨ts, h1, rfl⟩

theorem tkA_left {l' : List Tk} {x : Tk} {m : List Tk} {i : Nat} (h : i < l'.length) : tkA (l' ++ [x]) i = tkA (l' ++ m) i := by
  unfold tkA
  rw [List.getD_eq_getElem?_getD, List.getD_eq_getElem?_getD, List.getElem?_append_left h, List.getElem?_append_left h]

theorem tkA_right (l' lb : List Tk) (D i : Nat) : tkA (l' ++ lb.map (shTk D)) (l'.length + i) = ((lb[i]?).map (shTk D)).getD ⟨6, noText, 0, 0⟩ := by
  unfold tkA
  rw [List.getD_eq_getElem?_getD, List.getElem?_append_right (by omega), Nat.add_sub_cancel_left, List.getElem?_map]

theorem shifts_of (l' lb : List Tk) (D : Nat) : Shifts lb (l' ++ lb.map (shTk D)) l'.length := by
  constructor <;> intro i <;> rw [tkA_right] <;> unfold tkA <;> rw [List.getD_eq_getElem?_getD] <;> cases lb[i]? <;> rfl

/-- THE JOIN of two programs. -/
theorem parse_join (ws gs : List ByteArray) (a b : ByteArray) (x y : Tr) (hgs : ∀ g ∈ gs, 1 ≤ g.size) (hg : ∀ g ∈ gs, (10 : UInt8) ∉ g.data.toList)
    (hsz : a.size + b.size ≤ 2500) (ha : parseS ws gs a = .ok x) (hb : parseS ws gs b = .ok y) :
    parseS ws gs (jn a b) = .bare ∨ ∃ n, parseS ws gs (jn a b) = .ok n ∧ n.kids = x.kids ++ y.kids := by
  unfold parseS at ha hb
  rw [if_neg (by omega)] at ha hb
  cases hla : toksR ws gs a (pastN gapB a 0) [] with
  | bad er p => rw [hla] at ha; cases ha
  | ok la =>
    cases hlb : toksR ws gs b (pastN gapB b 0) [] with
    | bad er p => rw [hlb] at hb; cases hb
    | ok lb =>
      rw [hla] at ha
      rw [hlb] at hb
      simp only at ha hb
      obtain ⟨hEa, h0a, hna⟩ := toks_ends hgs hla
      obtain ⟨hEb, h0b, hnb⟩ := toks_ends hgs hlb
      obtain ⟨l', hl', hlj⟩ := toks_join ws gs a b la lb hgs hg hla hlb
      cases hra : progP la (fns la KK) with
      | out => rw [hra] at ha; cases ha
      | bad er p => rw [hra] at ha; cases ha
      | ok ta ja =>
        cases hrb : progP lb (fns lb KK) with
        | out => rw [hrb] at hb; cases hb
        | bad er p => rw [hrb] at hb; cases hb
        | ok tb jb =>
          rw [hra] at ha
          rw [hrb] at hb
          simp only at ha hb
          split at ha
          · cases ha
          split at hb
          · cases hb
          cases ha
          cases hb
          obtain ⟨xs, hxs, rfl⟩ := progP_inv hra
          obtain ⟨ys, hys, rfl⟩ := progP_inv hrb
          have hfa : (fns la KK).fuel = 24099 := (fns_nx hEa KK).fuel
          have hfb : (fns lb KK).fuel = 24099 := (fns_nx hEb KK).fuel
          have hlen : la.length = l'.length + 1 := by rw [hl']; simp
          have hSh := shifts_of l' lb (a.size + 1)
          have hAg : ∀ i, i < l'.length → tkA la i = tkA (l' ++ lb.map (shTk (a.size + 1))) i := fun i hi => by rw [hl']; exact tkA_left hi
          obtain ⟨lj, hj⟩ : ∃ lj, lj = l' ++ lb.map (shTk (a.size + 1)) := ⟨_, rfl⟩
          rw [← hj] at hSh hAg hlj
          have hP : Parts la lj l'.length := by
            intro s hs
            constructor
            · intro hf
              have h1 := fixed_kd (s := s) hs hf
              have h2 := (hEa l'.length (by omega)).2 (by omega)
              omega
            · have h1 := first_no (s := s) hs hys
              have h2 := fx_sh hSh (i := 0)
              rw [Nat.add_zero] at h2
              rw [h2]; exact h1
          have hFj := fns_js hEa hAg hP KK
          have hFs := fns_sh hSh KK
          rw [hfa] at hxs
          rw [hfb] at hys
          obtain ⟨k1, hk1, he1⟩ := loop_js hEa hAg hlen hFj _ _ _ _ _ h0a hxs
          obtain ⟨us, hus, k2, hk2, he2⟩ := loop_sh (fns_nx hEb KK) hSh hFs _ _ _ _ _ h0b hys
          rw [List.nil_append] at hus
          subst hus
          have hfj : (fns lj KK).fuel = 24099 := by rw [← hFj.fuel]; exact hfa
          have hloop : progLoop lj (fns lj KK) (fns lj KK).fuel [] 0 = .ok (xs ++ ys) (l'.length + jb) := by
            rw [hfj, show 24099 = k1 + (k2 + 1 + (24099 - k1 - k2 - 1)) by omega, he1]
            have := he2 (24099 - k1 - k2 - 1) xs
            rw [Nat.add_zero] at this
            exact this
          have hprog : progP lj (fns lj KK) = .ok (codeT (.mk 1 noText 0 (xs ++ ys))) (l'.length + jb) := by
            unfold progP; rw [hloop]; rfl
          have hjs : ¬ 3000 < (jn a b).size := by rw [jn_size]; omega
          unfold parseS
          rw [if_neg hjs, hlj]
          simp only
          rw [hprog]
          simp only
          split
          · exact Or.inl rfl
          · refine Or.inr ⟨_, rfl, ?_⟩
            rw [codeT_kids, codeT_kids, codeT_kids]
            rfl

/-- What one round of Same reads. -/
structure SameAt (p q g h k L c1 c2 a b : Nat) (W : World) : Prop where
  x3 : W.cell? ⟨p, 3, none⟩ = some (.slice (some ⟨g, 0, none⟩) L c1)
  y3 : W.cell? ⟨q, 3, none⟩ = some (.slice (some ⟨h, 0, none⟩) L c2)
  xk : W.cell? ⟨g, k, none⟩ = some (nPtr a)
  yk : W.cell? ⟨h, k, none⟩ = some (nPtr b)

theorem same_any (I J : Nat → Prop) : ∀ (m : Nat) (t : Tr), t.count ≤ m → t.count ≤ 100000 → ∀ (p q : Nat) (w : World), NAt I w t p → NAt J w t q →
    Calls Tryz.prog 15 #[nPtr p, nPtr q] w fun e w' => e = .returned (.bool true) ∧ Below w.heap.size w w' := by
  intro m
  induction m with
  | zero =>
    intro t ht
    cases t with
    | mk kd tx nn ks => rw [count_mk] at ht; omega
  | succ m ih =>
    intro t ht hbd p q w hnp hnq
    obtain ⟨u, ps, hblk, hrow, hri, hks⟩ := hnp.opens2
    obtain ⟨v, qs, hblq, hroq, hrj, hkq⟩ := hnq.opens2
    have hlen := NAts.length _ _ hks
    have hleq := NAts.length _ _ hkq
    have htc : t.count = 1 + Tr.counts t.kids := by cases t with | mk kd tx nn ks => exact count_mk _ _ _ _
    obtain ⟨f0, f1, f2, f3, _⟩ := node_cells hblk
    obtain ⟨g0, g1, g2, g3, _⟩ := node_cells hblq
    obtain ⟨ua, uc, hu⟩ := row_shut hrow
    subst hu
    obtain ⟨va, vc, hv⟩ := row_shut hroq
    subst hv
    rw [hlen] at f3
    rw [hleq] at g3
    have hkb : t.kids.length ≤ 100000 := by have := counts_len t.kids; omega
    obtain ⟨kd, hkd⟩ : ∃ kd, kd = t.kd := ⟨_, rfl⟩
    obtain ⟨tx, htx⟩ : ∃ tx, tx = t.tx := ⟨_, rfl⟩
    obtain ⟨nn, hnn⟩ : ∃ nn, nn = t.n := ⟨_, rfl⟩
    rw [← hkd] at f0 g0
    rw [← htx] at f1 g1
    rw [← hnn] at f2 g2
    have HKS := hide hks
    have HKQ := hide hkq
    have HROW := hide hrow
    have HROQ := hide hroq
    have HIH := hide ih
    have HTC := hide htc
    have HHT := hide ht
    have HBD := hide hbd
    have HLE := hide hlen
    have HLQ := hide hleq
    have HP := hide (lt_of_heap hblk)
    have HQ := hide (lt_of_heap hblq)
    have HF3 := hide f3
    have HG3 := hide g3
    clear hri hrj hks hkq hrow hroq ih htc ht hbd hblk hblq hnp hnq hkd htx hnn hlen hleq
    go_enter Tryz.func15, Tryz.ntmps15
    go_wp2_with fail
    go_region
    go_wp2_with fail
    go_loopw [64] (fun i wr => ∃ k : Nat, k ≤ t.kids.length ∧ i = .int .i64 k ∧ Below w.heap.size w wr) (fun i _ => t.kids.length - (intOf i).toNat)
    case atStart => exact ⟨0, Nat.zero_le _, rfl, (Below.refl _ _).drew⟩
    case round =>
      obtain ⟨k, hk, rfl, hb⟩ := hrel
      have HB := hide hb
      clear hb f0 f1 f2 f3 g0 g1 g2 g3
      by_cases hlt : k < t.kids.length
      · obtain ⟨g, cap, hv, hcell⟩ := row_open (unhide HROW) (by have := unhide HLE; omega)
        simp only [Value.slice.injEq] at hv
        obtain ⟨rfl, _, rfl⟩ := hv
        obtain ⟨h, cbp, hv, hcelq⟩ := row_open (unhide HROQ) (by have := unhide HLQ; omega)
        simp only [Value.slice.injEq] at hv
        obtain ⟨rfl, _, rfl⟩ := hv
        obtain ⟨hkp, hnk⟩ := NAts.get _ _ (unhide HKS) k hlt
        obtain ⟨hkq, hnl⟩ := NAts.get _ _ (unhide HKQ) k hlt
        have hgl : g < w.heap.size := (own_lt (unhide HROW) g rfl).1
        have hhl : h < w.heap.size := (own_lt (unhide HROQ) h rfl).1
        have hbb := unhide HB
        have hnk2 : NAt I wr.drew t.kids[k] ps[k] := NAt.later (fun x _ hl => (hbb.drew).block x hl) _ _ hnk
        have hnl2 : NAt J wr.drew t.kids[k] qs[k] := NAt.later (fun x _ hl => (hbb.drew).block x hl) _ _ hnl
        have hst : SameAt p q g h k t.kids.length uc vc ps[k] qs[k] wr.drew :=
          ⟨by rw [World.cell?_of_block (w := w) ((hbb.drew).block p (unhide HP))]; exact unhide HF3, by rw [World.cell?_of_block (w := w) ((hbb.drew).block q (unhide HQ))]; exact unhide HG3, by rw [World.cell?_of_block (w := w) ((hbb.drew).block g hgl)]; exact hcell k hkp, by rw [World.cell?_of_block (w := w) ((hbb.drew).block h hhl)]; exact hcelq k hkq⟩
        have hle := counts_le t.kids k hlt
        have h1 := unhide HTC
        have h2 := unhide HHT
        have h3 := unhide HBD
        have HC := hide ((unhide HIH) t.kids[k] (by omega) (by omega) ps[k] qs[k] wr.drew hnk2 hnl2)
        obtain ⟨a, ha⟩ : ∃ a, a = ps[k] := ⟨_, rfl⟩
        obtain ⟨b, hb⟩ : ∃ b, b = qs[k] := ⟨_, rfl⟩
        rw [← ha, ← hb] at hst HC
        have HST := hide hst
        have hki : (k : Int) < (t.kids.length : Int) := by omega
        have HX : Hid (∀ w2, Below wr.drew.heap.size wr.drew w2 → SameAt p q g h k t.kids.length uc vc a b w2 ∧ Below w.heap.size w w2) := fun w2 h2 => by
          have h3 : Below w.heap.size w w2 := hbb.drew.trans (h2.mono hbb.drew.size)
          refine ⟨⟨?_, ?_, ?_, ?_⟩, h3⟩
          · rw [World.cell?_of_block (w := w) (h3.block p (unhide HP))]; exact unhide HF3
          · rw [World.cell?_of_block (w := w) (h3.block q (unhide HQ))]; exact unhide HG3
          · rw [World.cell?_of_block (w := w) (h3.block g hgl)]; rw [ha]; exact hcell k hkp
          · rw [World.cell?_of_block (w := w) (h3.block h hhl)]; rw [hb]; exact hcelq k hkq
        clear hcell hcelq hnk hnl hnk2 hnl2 hle h1 h2 h3 ha hb hst hbb
        go_wp2_with fail
        refine wp_region_held (S := SameAt p q g h k t.kids.length uc vc a b) (by kernel_rfl) ?_
        change wpAnyH _ _ _ _ _ _ _ _ (World.drew _)
        refine wpAnyH_take (i := 0) (v := nPtr p) rfl (by kernel_rfl) (by kernel_rfl) (by kernel_rfl) (fun _ _ _ h => h) (Or.inl ⟨by kernel_rfl, fun W _ => by go_simp⟩) (unhide HST) ?_
        refine wpAnyH_take (i := 1) (v := nPtr p) rfl (by kernel_rfl) (by kernel_rfl) (by kernel_rfl) (fun _ _ _ h => h) (Or.inl ⟨by kernel_rfl, fun W _ => by go_simp⟩) (unhide HST) ?_
        refine wpAnyH_take (i := 2) (v := .pointer (some ⟨p, 3, none⟩)) rfl (by kernel_rfl) (by kernel_rfl) (by kernel_rfl) (fun _ _ _ h => h) (Or.inl ⟨by kernel_rfl, fun W _ => by go_simp⟩) (unhide HST) ?_
        refine wpAnyH_take (i := 3) (v := .slice (some ⟨g, 0, none⟩) t.kids.length uc) rfl (by kernel_rfl) (by kernel_rfl) (by kernel_rfl) (fun _ _ _ h => h) (Or.inl ⟨by kernel_rfl, fun W hW => by have hh := SameAt.x3 hW; go_simp⟩) (unhide HST) ?_
        refine wpAnyH_take (i := 4) (v := .int .i64 (k : Int)) rfl (by kernel_rfl) (by kernel_rfl) (by kernel_rfl) (fun _ _ _ h => h) (Or.inl ⟨by kernel_rfl, fun W _ => by go_simp⟩) (unhide HST) ?_
        refine wpAnyH_take (i := 5) (v := .pointer (some ⟨g, k, none⟩)) rfl (by kernel_rfl) (by kernel_rfl) (by kernel_rfl) (fun _ _ _ h => h) (Or.inl ⟨by kernel_rfl, fun W _ => by go_simp⟩) (unhide HST) ?_
        refine wpAnyH_take (i := 6) (v := nPtr a) rfl (by kernel_rfl) (by kernel_rfl) (by kernel_rfl) (fun _ _ _ h => h) (Or.inl ⟨by kernel_rfl, fun W hW => by have hh := SameAt.xk hW; go_simp⟩) (unhide HST) ?_
        refine wpAnyH_take (i := 7) (v := nPtr q) rfl (by kernel_rfl) (by kernel_rfl) (by kernel_rfl) (fun _ _ _ h => h) (Or.inl ⟨by kernel_rfl, fun W _ => by go_simp⟩) (unhide HST) ?_
        refine wpAnyH_take (i := 8) (v := nPtr q) rfl (by kernel_rfl) (by kernel_rfl) (by kernel_rfl) (fun _ _ _ h => h) (Or.inl ⟨by kernel_rfl, fun W _ => by go_simp⟩) (unhide HST) ?_
        refine wpAnyH_take (i := 9) (v := .pointer (some ⟨q, 3, none⟩)) rfl (by kernel_rfl) (by kernel_rfl) (by kernel_rfl) (fun _ _ _ h => h) (Or.inl ⟨by kernel_rfl, fun W _ => by go_simp⟩) (unhide HST) ?_
        refine wpAnyH_take (i := 10) (v := .slice (some ⟨h, 0, none⟩) t.kids.length vc) rfl (by kernel_rfl) (by kernel_rfl) (by kernel_rfl) (fun _ _ _ h => h) (Or.inl ⟨by kernel_rfl, fun W hW => by have hh := SameAt.y3 hW; go_simp⟩) (unhide HST) ?_
        refine wpAnyH_take (i := 11) (v := .int .i64 (k : Int)) rfl (by kernel_rfl) (by kernel_rfl) (by kernel_rfl) (fun _ _ _ h => h) (Or.inl ⟨by kernel_rfl, fun W _ => by go_simp⟩) (unhide HST) ?_
        refine wpAnyH_take (i := 12) (v := .pointer (some ⟨h, k, none⟩)) rfl (by kernel_rfl) (by kernel_rfl) (by kernel_rfl) (fun _ _ _ h => h) (Or.inl ⟨by kernel_rfl, fun W _ => by go_simp⟩) (unhide HST) ?_
        refine wpAnyH_take (i := 13) (v := nPtr b) rfl (by kernel_rfl) (by kernel_rfl) (by kernel_rfl) (fun _ _ _ h => h) (Or.inl ⟨by kernel_rfl, fun W hW => by have hh := SameAt.yk hW; go_simp⟩) (unhide HST) ?_
        refine wpAnyH_ready (rs := [14]) (by kernel_rfl) (by simp) (AllReadyH.cons rfl (fun K hK => ?_) AllReadyH.nil)
        go_simp
        refine Calls.mono HC.out ?_
        rintro e w2 ⟨rfl, hb2⟩
        obtain ⟨hs2, hb3⟩ := (unhide HX) w2 hb2
        have HS2 := hide hs2
        have HB3 := hide hb3
        clear hs2 hb2 hb3 HC
        refine hK.out _ _ (unhide HS2) (fun _ => ?_)
        clear hK K
        refine wpAnyH_take (i := 15) (v := .bool false) rfl (by kernel_rfl) (by kernel_rfl) (by kernel_rfl) (fun _ _ _ h => h) (Or.inl ⟨by kernel_rfl, fun W _ => by go_simp⟩) (unhide HS2) ?_
        refine wpAnyH_done (by kernel_rfl) ?_ _
        go_simp
        go_wp2_with fail
        go_roundw
        case rel => exact ⟨k + 1, by omega, by go_num, unhide HB3⟩
        case measure => simp [intOf]; omega
      · have hk2 : k = t.kids.length := by omega
        subst hk2
        go_wp2_with fail
        go_ret
        exact ⟨rfl, unhide HB⟩

theorem codeT_kd (t : Tr) : (codeT t).kd = t.kd := by unfold codeT; split <;> rfl

/-- A program's kind is the program's. -/
theorem parseS_kd {ws gs : List ByteArray} {s : ByteArray} {t : Tr} (h : parseS ws gs s = .ok t) : t.kd = 1 ∧ t.count ≤ 1500 := by
  unfold parseS at h
  split at h
  · cases h
  · split at h
    · cases h
    · split at h
      · cases h
      · rename_i hr
        split at h
        · cases h
        · cases h
          obtain ⟨ts, _, rfl⟩ := progP_inv hr
          exact ⟨codeT_kd _, by omega⟩
      · cases h

def ReadPost (r : PaR) (w : World) (e : Ending) (w' : World) : Prop :=
  match r with
  | .ok t => ∃ p, e = .returned (.tuple #[nPtr p, .bool true]) ∧ NAt (From w.heap.size) w' t p ∧ Below w.heap.size w w'
  | _ => e = .returned (.tuple #[.pointer none, .bool false]) ∧ Below w.heap.size w w'

theorem read22_any (r : PaR) (s : ByteArray) (w : World) (hk : ∀ t, r = .ok t → t.kd = 1) (hC : Calls Tryz.prog 13 #[.string s] w (PaPost r w)) : Calls Tryz.prog 24 #[.string s] w (ReadPost r w) := by
  have HC := hide hC
  clear hC
  cases r with
  | ok t =>
    have hk1 := hk t rfl
    clear hk
    go_enter Tryz.func24, Tryz.ntmps24
    go_wp2_with fail
    refine Calls.mono HC.out ?_
    rintro e w1 ⟨p, rfl, hn, hb⟩
    obtain ⟨u, ps, hblk, _, _, _⟩ := hn.opens2
    obtain ⟨f0, _, _, _, _⟩ := node_cells hblk
    rw [hk1] at f0
    have HN := hide hn
    have HB := hide hb
    clear hblk hn hb HC hk1
    go_wp2_with fail
    go_region
    go_wp2_with fail
    exact bodyPost_ret (v := .tuple #[nPtr p, .bool true]) (by simp [results, Tryz.results24, go_sem]) rfl ⟨p, rfl, NAt.later (I := From w.heap.size) (w := w1) (w' := w1.drew) (fun b _ _ => rfl) _ _ (unhide HN), (unhide HB).drew⟩
  | «at» er pl =>
    clear hk
    go_enter Tryz.func24, Tryz.ntmps24
    go_wp2_with fail
    refine Calls.mono HC.out ?_
    rintro e w1 ⟨b, rfl, _, _, hb⟩
    have HB := hide hb
    clear hb HC
    go_wp2_with fail
    go_region
    go_wp2_with fail
    exact bodyPost_ret (v := .tuple #[.pointer none, .bool false]) (by simp [results, Tryz.results24, go_sem]) rfl ⟨rfl, (unhide HB).drew⟩
  | bare =>
    clear hk
    go_enter Tryz.func24, Tryz.ntmps24
    go_wp2_with fail
    refine Calls.mono HC.out ?_
    rintro e w1 ⟨rfl, hb⟩
    have HB := hide hb
    clear hb HC
    go_wp2_with fail
    go_region
    go_wp2_with fail
    exact bodyPost_ret (v := .tuple #[.pointer none, .bool false]) (by simp [results, Tryz.results24, go_sem]) rfl ⟨rfl, (unhide HB).drew⟩

/-- READ, of every text. -/
theorem read_any22 (ws gs : List ByteArray) (s : ByteArray) (w : World) (hL : Lists ws gs w) (hgs : ∀ g ∈ gs, 1 ≤ g.size) (hT : Tabs w) : Calls Tryz.prog 24 #[.string s] w (ReadPost (parseS ws gs s) w) :=
  read22_any _ s w (fun _ h => (parseS_kd h).1) (parse_any ws gs s w hL hgs hT)
end Go.Proofs.YtodmgaikhbmlnaaGreatDoor
