/-
  The tokens of two texts with a line feed between are those of the first and, moved, those of the second.
-/
import Derived.LaidEql
import Derived.Stop.Asserts
import Derived.RowKitTokens
import Derived.WalkSmall
import Derived.Deep.QuietTactic
import Derived.BigQuiet
import Derived.Test.YtodmgaikhbmlnaaGreatDoorHk17
namespace Go.Proofs.YtodmgaikhbmlnaaGreatDoor
open Go.ChangeShapes Go.WideShapes Go.ChangeAt Go.WideMaps Go.WideElems Go.RowKit
def jn (a b : ByteArray) : ByteArray := ⟨(a.data.toList ++ 10 :: b.data.toList).toArray⟩
def shRd (D : Nat) : Rd → Rd
 | .tok kd tx n e => .tok kd tx n (D + e)
 | .bad er p => .bad er (D + p)
def shTk (D : Nat) (t : Tk) : Tk := ⟨t.kd, t.tx, t.n, D + t.pl⟩
end Go.Proofs.YtodmgaikhbmlnaaGreatDoor
namespace Go.Proofs.YtodmgaikhbmlnaaGreatDoor
def Js {α : Type} (A L a : Nat) (r r' : PR α) : Prop := ∀ x j, r = .ok x j → (a ≤ j ∧ j < L) ∧ (j < A → r' = .ok x j)
theorem Js.ok {α : Type} {A L a i : Nat} {x : α} (h1 : a ≤ i) (h2 : i < L) : Js A L a (.ok x i) (.ok x i) :=
 fun _ _ h => by cases h; exact ⟨⟨h1, h2⟩, fun _ => rfl⟩
theorem Js.bad {α : Type} {A L a : Nat} {er : Int} {p : Nat} {r : PR α} : Js A L a (.bad er p) r := fun _ _ h => by cases h
theorem Js.out {α : Type} {A L a : Nat} {r : PR α} : Js A L a .out r := fun _ _ h => by cases h
theorem Js.badF {α : Type} {A L a : Nat} {l : List Tk} {er : Int} {i : Nat} {r : PR α} : Js A L a (badF l er i) r := Js.bad
theorem Js.le {α : Type} {A L a b : Nat} {r r' : PR α} (h : Js A L a r r') (hb : b ≤ a) : Js A L b r r' := fun x j e => ⟨⟨Nat.le_trans hb (h x j e).1.1, (h x j e).1.2⟩, (h x j e).2⟩
theorem Js.less {α : Type} {A B L a : Nat} {r r' : PR α} (h : Js B L a r r') (hb : A ≤ B) : Js A L a r r' := fun x j e => ⟨(h x j e).1, fun hj => (h x j e).2 (by omega)⟩
theorem Js.low {α : Type} {A L a : Nat} {r r' : PR α} (h : Js (A + 1) L a r r') : Js A L a r r' := h.less (Nat.le_succ _)
theorem Js.far {α : Type} {A L a : Nat} {r r' r'' : PR α} (h : Js A L a r r'') (ha : A ≤ a) : Js A L a r r' := fun x j e => ⟨(h x j e).1, fun hj => absurd (h x j e).1.1 (by omega)⟩
theorem Js.bindD {α β : Type} {A L a b : Nat} (dl : Nat) {r r' : PR α} {f f' : α → Nat → PR β} (h : Js A L a r r') (hb : b ≤ a + dl)
  (hf : ∀ x i, a ≤ i → i < L → Js (A + dl) L (i + dl) (f x i) (f' x i)) : Js (A + dl) L b (r.bind f) (r'.bind f') := by
 intro y j e
 cases r with
 | ok x i =>
  have h1 := h x i rfl; have h2 := hf x i h1.1.1 h1.1.2 y j e; refine ⟨⟨by omega, h2.1.2⟩, fun hj => ?_⟩; rw [h1.2 (by omega)]; exact h2.2 hj
 | bad er p => cases e
 | out => cases e
theorem Js.bind {α β : Type} {A L a b : Nat} {r r' : PR α} {f f' : α → Nat → PR β} (h : Js A L a r r') (hb : b ≤ a)
  (hf : ∀ x i, a ≤ i → i < L → Js A L i (f x i) (f' x i)) : Js A L b (r.bind f) (r'.bind f') := Js.bindD 0 h hb hf
theorem Js.ite {α : Type} {B L a : Nat} {c c' : Prop} [Decidable c] [Decidable c'] {X Y X' Y' : PR α} (hc : a < B → (c ↔ c')) (h1 : c → Js B L a X X') (h2 : ¬ c → Js B L a Y Y') :
  Js B L a (if c then X else Y) (if c' then X' else Y') := by
 by_cases hA : a < B
 ·
  by_cases h : c
  ·
   rw [if_pos h, if_pos ((hc hA).1 h)]; exact h1 h
  ·
   rw [if_neg h, if_neg (fun hh => h ((hc hA).2 hh))]; exact h2 h
 ·
  by_cases h : c
  ·
   rw [if_pos h]; exact (h1 h).far (by omega)
  ·
   rw [if_neg h]; exact (h2 h).far (by omega)
section
variable {l l' : List Tk} {A : Nat} (hE : Ends l) (hA : ∀ i, i < A → tkA l i = tkA l' i)
include hE hA
omit hE hA in
omit hE in
omit hE in
structure FJs (l : List Tk) (A : Nat) (F F' : Fns) : Prop where
 fuel : F.fuel = F'.fuel
 st : ∀ d i, i < l.length → Js (A + 1) l.length (i + 1) (F.st d i) (F'.st d i)
 vl : ∀ d i, i < l.length → Js A l.length (i + 1) (F.vl d i) (F'.vl d i)
 pr : ∀ b d i, i < l.length → Js A l.length (i + 1) (F.pr b d i) (F'.pr b d i)
 sg : ∀ d i, i < l.length → Js A l.length (i + 1) (F.sg d i) (F'.sg d i)
def Parts (l l' : List Tk) (A : Nat) : Prop := ∀ s, s = tElse ∨ s = tCatch ∨ s = tFinally → fx l A ≠ s ∧ fx l' A ≠ s
variable {F F' : Fns} (hF : FJs l A F F')
include hF
variable {k : Nat} (hN : FNx l k F)
include hN
end
end Go.Proofs.YtodmgaikhbmlnaaGreatDoor
namespace Go.Proofs.YtodmgaikhbmlnaaGreatDoor
def Sh {α : Type} (A : Nat) (r r' : PR α) : Prop := ∀ x j, r = .ok x j → r' = .ok x (A + j)
theorem Sh.ok {α : Type} {A i : Nat} {x : α} : Sh A (.ok x i) (.ok x (A + i)) := fun _ _ h => by cases h; rfl
theorem Sh.bad {α : Type} {A : Nat} {er : Int} {p : Nat} {r : PR α} : Sh A (.bad er p) r := fun _ _ h => by cases h
theorem Sh.out {α : Type} {A : Nat} {r : PR α} : Sh A .out r := fun _ _ h => by cases h
theorem Sh.badF {α : Type} {A : Nat} {l : List Tk} {er : Int} {i : Nat} {r : PR α} : Sh A (badF l er i) r := Sh.bad
theorem Sh.bind {α β : Type} {A : Nat} {r r' : PR α} {f f' : α → Nat → PR β} (h : Sh A r r') (hf : ∀ x i, Sh A (f x i) (f' x (A + i))) : Sh A (r.bind f) (r'.bind f') := by
 intro y j e
 cases r with
 | ok x i => rw [h x i rfl]; exact hf x i y j e
 | bad er p => cases e
 | out => cases e
theorem Sh.ite {α : Type} {A : Nat} {c c' : Prop} [Decidable c] [Decidable c'] {X Y X' Y' : PR α} (hc : c ↔ c') (h1 : Sh A X X') (h2 : Sh A Y Y') :
  Sh A (if c then X else Y) (if c' then X' else Y') := by
 by_cases h : c
 ·
  rw [if_pos h, if_pos (hc.1 h)]; exact h1
 ·
  rw [if_neg h, if_neg (fun hh => h (hc.2 hh))]; exact h2
structure Shifts (l l' : List Tk) (A : Nat) : Prop where
 kd : ∀ i, (tkA l' (A + i)).kd = (tkA l i).kd
 tx : ∀ i, (tkA l' (A + i)).tx = (tkA l i).tx
 n : ∀ i, (tkA l' (A + i)).n = (tkA l i).n
section
variable {l l' : List Tk} {A : Nat} (hA : Shifts l l' A)
include hA
theorem fx_sh {i : Nat} : fx l' (A + i) = fx l i := by unfold fx; rw [hA.kd, hA.tx]
theorem mustP_sh {s : ByteArray} {i : Nat} : Sh A (mustP l s i) (mustP l' s (A + i)) := by
 unfold mustP
 exact Sh.ite (by rw [fx_sh hA]) Sh.ok Sh.badF
theorem nameP_sh {i : Nat} : Sh A (nameP l i) (nameP l' (A + i)) := by
 unfold nameP
 rw [hA.tx]
 exact Sh.ite (by rw [hA.kd]) Sh.ok Sh.badF
omit hA in
theorem deepP_sh {f f' : Nat → Nat → PR Tr} {d i : Nat} (h : Sh A (f (d + 1) i) (f' (d + 1) (A + i))) : Sh A (deepP l f d i) (deepP l' f' d (A + i)) := by
 unfold deepP
 exact Sh.ite Iff.rfl Sh.badF h
theorem listLoop_sh {shut : ByteArray} {begins begins' : Nat → Bool} {part part' : Nat → PR Tr} (hb : ∀ i, begins' (A + i) = begins i) (hp : ∀ i, Sh A (part i) (part' (A + i))) :
  ∀ k acc i, Sh A (listLoop l shut begins part k acc i) (listLoop l' shut begins' part' k acc (A + i)) := by
 intro k
 induction k with
 | zero => intro acc i; exact Sh.out
 | succ k ih =>
  intro acc i; unfold listLoop; refine Sh.ite (by rw [hb]) Sh.badF (Sh.bind (hp i) fun t j => Sh.ite (by rw [fx_sh hA]) Sh.ok ?_); exact Sh.bind (mustP_sh hA) fun _ j2 => ih _ j2
theorem listP_sh {opn shut : ByteArray} {begins begins' : Nat → Bool} {part part' : Nat → PR Tr} {k i : Nat} (hb : ∀ i, begins' (A + i) = begins i) (hp : ∀ i, Sh A (part i) (part' (A + i))) :
  Sh A (listP l opn shut begins part k i) (listP l' opn shut begins' part' k (A + i)) := by
 unfold listP
 exact Sh.bind (mustP_sh hA) fun _ j => Sh.ite (by rw [fx_sh hA]) Sh.ok (listLoop_sh hA hb hp k [] j)
theorem isName_sh {i : Nat} : isName l' (A + i) = isName l i := by unfold isName; rw [hA.kd]
theorem isVal_sh {i : Nat} : isVal l' (A + i) = isVal l i := by unfold isVal; rw [fx_sh hA, hA.kd]
structure FSh (A : Nat) (F F' : Fns) : Prop where
 fuel : F'.fuel = F.fuel
 st : ∀ d i, Sh A (F.st d i) (F'.st d (A + i))
 vl : ∀ d i, Sh A (F.vl d i) (F'.vl d (A + i))
 pr : ∀ b d i, Sh A (F.pr b d i) (F'.pr b d (A + i))
 sg : ∀ d i, Sh A (F.sg d i) (F'.sg d (A + i))
variable {F F' : Fns} (hF : FSh A F F')
include hF
theorem blockLoop_sh : ∀ n d acc i, Sh A (blockLoop l F d n acc i) (blockLoop l' F' d n acc (A + i)) := by
 intro n
 induction n with
 | zero => intro d acc i; exact Sh.out
 | succ n ih =>
  intro d acc i; unfold blockLoop; exact Sh.ite (by rw [fx_sh hA]) Sh.ok (Sh.bind (deepP_sh (hF.st _ _)) fun t j => ih d _ j)
theorem blockP_sh {d i : Nat} : Sh A (blockP l F d i) (blockP l' F' d (A + i)) := by
 unfold blockP
 rw [hF.fuel]
 exact Sh.bind (mustP_sh hA) fun _ j => Sh.bind (blockLoop_sh hA hF _ _ _ _) fun _ _ => Sh.ok
omit hF in
theorem paramP_sh {i : Nat} : Sh A (paramP l i) (paramP l' (A + i)) := by
 unfold paramP
 exact Sh.bind (nameP_sh hA) fun _ _ => Sh.ok
theorem paramsP_sh {i : Nat} : Sh A (paramsP l F i) (paramsP l' F' (A + i)) := by
 unfold paramsP
 rw [hF.fuel]
 exact Sh.bind (listP_sh hA (fun _ => isName_sh hA) fun _ => paramP_sh hA) fun _ _ => Sh.ok
omit hA in
theorem argP_sh {d i : Nat} : Sh A (argP l F d i) (argP l' F' d (A + i)) := deepP_sh (hF.vl _ _)
theorem propP_sh {d i : Nat} : Sh A (propP l F d i) (propP l' F' d (A + i)) := by
 unfold propP
 exact Sh.bind (nameP_sh hA) fun _ _ => Sh.bind (mustP_sh hA) fun _ _ => Sh.bind (deepP_sh (hF.vl _ _)) fun _ _ => Sh.ok
theorem inParP_sh {d i : Nat} : Sh A (inParP l F d i) (inParP l' F' d (A + i)) := by
 unfold inParP
 exact Sh.bind (mustP_sh hA) fun _ _ => Sh.bind (deepP_sh (hF.vl _ _)) fun _ _ => Sh.bind (mustP_sh hA) fun _ _ => Sh.ok
theorem objectP_sh {d i : Nat} : Sh A (objectP l F d i) (objectP l' F' d (A + i)) := by
 unfold objectP
 rw [hF.fuel]
 exact Sh.bind (listP_sh hA (fun _ => isName_sh hA) fun _ => propP_sh hA hF) fun _ _ => Sh.ok
theorem funcTail_sh {kd : Int} {s : ByteArray} {d i : Nat} : Sh A (funcTail l F kd s d i) (funcTail l' F' kd s d (A + i)) := by
 unfold funcTail
 exact Sh.bind (paramsP_sh hA hF) fun _ _ => Sh.bind (blockP_sh hA hF) fun _ _ => Sh.ok
theorem lambdaP_sh {d i : Nat} : Sh A (lambdaP l F d i) (lambdaP l' F' d (A + i)) := by
 unfold lambdaP
 exact Sh.bind (mustP_sh hA) fun _ _ => Sh.ite (by rw [isName_sh hA]) (Sh.bind (nameP_sh hA) fun _ _ => funcTail_sh hA hF) (funcTail_sh hA hF)
theorem funcP_sh {d i : Nat} : Sh A (funcP l F d i) (funcP l' F' d (A + i)) := by
 unfold funcP
 exact Sh.bind (mustP_sh hA) fun _ _ => Sh.bind (nameP_sh hA) fun _ _ => funcTail_sh hA hF
theorem aloneP_sh {d i : Nat} : Sh A (aloneP l F d i) (aloneP l' F' d (A + i)) := by
 unfold aloneP
 rw [fx_sh hA, hA.kd, hA.tx, hA.n]
 split
 ·
  exact inParP_sh hA hF
 ·
  exact objectP_sh hA hF
 ·
  exact lambdaP_sh hA hF
 ·
  split
  ·
   exact Sh.ok
  ·
   exact Sh.ite Iff.rfl Sh.ok (Sh.ite Iff.rfl Sh.ok (Sh.ite Iff.rfl Sh.ok Sh.badF))
theorem askedLoop_sh : ∀ n d t i, Sh A (askedLoop l F d n t i) (askedLoop l' F' d n t (A + i)) := by
 intro n
 induction n with
 | zero => intro d acc i; exact Sh.out
 | succ n ih =>
  intro d t i; unfold askedLoop; rw [hF.fuel]; refine Sh.ite (by rw [fx_sh hA]) (Sh.bind (nameP_sh hA (i := i + 1)) fun _ _ => ih _ _ _) (Sh.ite (by rw [fx_sh hA]) ?_ Sh.ok)
  exact Sh.bind (listP_sh hA (fun _ => isVal_sh hA) fun _ => argP_sh hF) fun _ _ => ih _ _ _
theorem askedP_sh {d i : Nat} : Sh A (askedP l F d i) (askedP l' F' d (A + i)) := by
 unfold askedP
 rw [hF.fuel]
 exact Sh.bind (aloneP_sh hA hF) fun _ _ => askedLoop_sh hA hF _ _ _ _
theorem singleP_sh {d i : Nat} : Sh A (singleP l F d i) (singleP l' F' d (A + i)) := by
 unfold singleP
 rw [fx_sh hA]
 split
 ·
  exact Sh.bind (deepP_sh (i := i + 1) (hF.sg _ _)) fun _ _ => Sh.ok
 ·
  exact askedP_sh hA hF
theorem pairLoop_sh : ∀ n b d t i, Sh A (pairLoop l F b d n t i) (pairLoop l' F' b d n t (A + i)) := by
 intro n
 induction n with
 | zero => intro b d acc i; exact Sh.out
 | succ n ih =>
  intro b d t i; unfold pairLoop; rw [fx_sh hA]
  split
  ·
   exact Sh.ok
  ·
   exact Sh.ite Iff.rfl Sh.ok (Sh.bind (hF.pr _ _ (i + 1)) fun _ _ => ih _ _ _ _)
theorem pairP_sh {b : Int} {d i : Nat} : Sh A (pairP l F b d i) (pairP l' F' b d (A + i)) := by
 unfold pairP
 rw [hF.fuel]
 exact Sh.bind (hF.sg _ _) fun _ _ => pairLoop_sh hA hF _ _ _ _ _
theorem valueP_sh {d i : Nat} : Sh A (valueP l F d i) (valueP l' F' d (A + i)) := by
 unfold valueP
 exact Sh.bind (hF.pr _ _ _) fun _ j => Sh.ite (by rw [fx_sh hA]) (Sh.ite Iff.rfl (Sh.bind (deepP_sh (i := j + 1) (hF.vl _ _)) fun _ _ => Sh.ok) Sh.badF) Sh.ok
theorem exprP_sh {d i : Nat} : Sh A (exprP l F d i) (exprP l' F' d (A + i)) := by
 unfold exprP
 exact Sh.bind (deepP_sh (hF.vl _ _)) fun _ _ => Sh.bind (mustP_sh hA) fun _ _ => Sh.ok
theorem declP_sh {d i : Nat} : Sh A (declP l F d i) (declP l' F' d (A + i)) := by
 unfold declP
 rw [hA.tx]
 refine Sh.bind (nameP_sh hA (i := i + 1)) fun _ j => Sh.ite (by rw [fx_sh hA]) Sh.badF (Sh.ite (by rw [fx_sh hA]) ?_ ?_)
 ·
  exact Sh.bind (deepP_sh (i := j + 1) (hF.vl _ _)) fun _ _ => Sh.bind (mustP_sh hA) fun _ _ => Sh.ok
 ·
  exact Sh.bind (mustP_sh hA) fun _ _ => Sh.ok
theorem behindP_sh {d i : Nat} : Sh A (behindP l F d i) (behindP l' F' d (A + i)) := by
 unfold behindP
 rw [hA.tx]
 exact Sh.bind (inParP_sh hA hF (i := i + 1)) fun _ _ => Sh.bind (deepP_sh (hF.st _ _)) fun _ _ => Sh.ok
theorem choiceP_sh {d i : Nat} : Sh A (choiceP l F d i) (choiceP l' F' d (A + i)) := by
 unfold choiceP
 rw [hA.tx]
 exact Sh.bind (inParP_sh hA hF (i := i + 1)) fun _ _ => Sh.bind (deepP_sh (hF.st _ _)) fun _ j => Sh.ite (by rw [fx_sh hA]) (Sh.bind (deepP_sh (i := j + 1) (hF.st _ _)) fun _ _ => Sh.ok) Sh.ok
theorem givingP_sh {d i : Nat} : Sh A (givingP l F d i) (givingP l' F' d (A + i)) := by
 unfold givingP
 rw [hA.tx]
 refine Sh.ite (by rw [show A + i + 1 = A + (i + 1) from rfl, fx_sh hA]) ?_ ?_
 ·
  exact Sh.bind (deepP_sh (i := i + 1) (hF.vl _ _)) fun _ _ => Sh.bind (mustP_sh hA) fun _ _ => Sh.ok
 ·
  exact Sh.bind (mustP_sh hA (i := i + 1)) fun _ _ => Sh.ok
theorem catchP_sh {d i : Nat} : Sh A (catchP l F d i) (catchP l' F' d (A + i)) := by
 unfold catchP
 exact Sh.ite (by rw [fx_sh hA]) (Sh.bind (mustP_sh hA (i := i + 1)) fun _ _ => Sh.bind (nameP_sh hA) fun _ _ => Sh.bind (mustP_sh hA) fun _ _ => Sh.bind (blockP_sh hA hF) fun _ _ => Sh.ok) Sh.ok
theorem finallyP_sh {d i : Nat} : Sh A (finallyP l F d i) (finallyP l' F' d (A + i)) := by
 unfold finallyP
 exact Sh.ite (by rw [fx_sh hA]) (Sh.bind (blockP_sh hA hF (i := i + 1)) fun _ _ => Sh.ok) Sh.ok
theorem attemptP_sh {d i : Nat} : Sh A (attemptP l F d i) (attemptP l' F' d (A + i)) := by
 unfold attemptP
 exact Sh.bind (mustP_sh hA) fun _ _ => Sh.bind (blockP_sh hA hF) fun _ _ => Sh.bind (catchP_sh hA hF) fun _ _ => Sh.bind (finallyP_sh hA hF) fun _ _ => Sh.ite Iff.rfl Sh.badF Sh.ok
theorem partP_sh {d i c : Nat} : Sh A (partP l F d c i) (partP l' F' d c (A + i)) := by
 unfold partP
 split
 ·
  exact declP_sh hA hF
 ·
  exact funcP_sh hA hF
 ·
  exact blockP_sh hA hF
 ·
  exact Sh.bind (mustP_sh hA) fun _ _ => Sh.ok
 ·
  exact choiceP_sh hA hF
 ·
  exact behindP_sh hA hF
 ·
  exact givingP_sh hA hF
 ·
  exact attemptP_sh hA hF
theorem statementP_sh {d i : Nat} : Sh A (statementP l F d i) (statementP l' F' d (A + i)) := by
 unfold statementP
 rw [fx_sh hA]
 split
 ·
  exact partP_sh hA hF
 ·
  exact exprP_sh hA hF
omit hF in
theorem fns_sh : ∀ k, FSh A (fns l k) (fns l' k) := by
 intro k
 induction k with
 | zero => exact ⟨rfl, fun _ _ => Sh.out, fun _ _ => Sh.out, fun _ _ _ => Sh.out, fun _ _ => Sh.out⟩
 | succ k ih => exact ⟨rfl, fun _ _ => statementP_sh hA ih, fun _ _ => valueP_sh hA ih, fun _ _ _ => pairP_sh hA ih, fun _ _ => singleP_sh hA ih⟩
end
end Go.Proofs.YtodmgaikhbmlnaaGreatDoor
set_option maxRecDepth 100000
set_option maxHeartbeats 16000000
namespace Go.Proofs.YtodmgaikhbmlnaaGreatDoor
open Go.RowKit
def NoHead (s : ByteArray) : Prop := s = tElse ∨ s = tCatch ∨ s = tFinally
theorem NoHead.facts {s : ByteArray} (h : NoHead s) : s ≠ noText ∧ look2 vlKeys s = none ∧ (sgP 0 s).isNone = true ∧ (sgP 1 s).isNone = true ∧ look2 stKeys s = none := by
 rcases h with rfl | rfl | rfl <;> decide
section
variable {l : List Tk} {s : ByteArray} {i : Nat} (hs : NoHead s) (hf : fx l i = s)
include hs hf
end
theorem loop_sh {l l' : List Tk} {A k0 : Nat} {F F' : Fns} (hN : FNx l k0 F) (hA : Shifts l l' A) (hF : FSh A F F') :
  ∀ n acc i ts j, i < l.length → progLoop l F n acc i = .ok ts j → ∃ us, ts = acc ++ us ∧ ∃ k, k ≤ l.length - i ∧ ∀ e acc', progLoop l' F' (k + 1 + e) acc' (A + i) = .ok (acc' ++ us) (A + j) := by
 intro n
 induction n with
 | zero => intro acc i ts j _ h; cases h
 | succ n ih =>
  intro acc i ts j hi h; unfold progLoop at h
  by_cases h6 : (tkA l i).kd = 6
  ·
   rw [if_pos h6] at h; cases h; refine ⟨[], by simp, 0, Nat.zero_le _, fun e acc' => ?_⟩; rw [show 0 + 1 + e = e + 1 by omega]; unfold progLoop; rw [hA.kd, if_pos h6, List.append_nil]
  ·
   rw [if_neg h6] at h; obtain ⟨t, j1, h1, h⟩ := bind_inv h; have hj := (deepP_nx (l := l) (d := 0) (hN.st (0 + 1) i hi)).2 t j1 h1; obtain ⟨us, hu, k, hk, he⟩ := ih _ j1 ts j hj.2 h
   refine ⟨t :: us, by rw [hu]; simp, k + 1, by omega, fun e acc' => ?_⟩
   rw [show k + 1 + 1 + e = (k + 1 + e) + 1 by omega]
   conv => lhs; unfold progLoop
   rw [hA.kd, if_neg h6, deepP_sh (hF.st (0 + 1) i) t j1 h1]
   show progLoop l' F' (k + 1 + e) (acc' ++ [t]) (A + j1) = _
   rw [he]; simp
theorem codeT_kids (t : Tr) : (codeT t).kids = t.kids := by unfold codeT; split <;> rfl
theorem progP_inv {l : List Tk} {F : Fns} {t : Tr} {j : Nat} (h : progP l F = .ok t j) : ∃ ts, progLoop l F F.fuel [] 0 = .ok ts j ∧ t = codeT (.mk 1 noText 0 ts) := by
 unfold progP at h
 obtain ⟨ts, j1, h1, h⟩ := bind_inv h
 cases h
 exact ⟨ts, h1, rfl⟩
theorem tkA_right (l' lb : List Tk) (D i : Nat) : tkA (l' ++ lb.map (shTk D)) (l'.length + i) = ((lb[i]?).map (shTk D)).getD ⟨6, noText, 0, 0⟩ := by
 unfold tkA
 rw [List.getD_eq_getElem?_getD, List.getElem?_append_right (by omega), Nat.add_sub_cancel_left, List.getElem?_map]
theorem shifts_of (l' lb : List Tk) (D : Nat) : Shifts lb (l' ++ lb.map (shTk D)) l'.length := by
 constructor <;> intro i <;> rw [tkA_right] <;> unfold tkA <;> rw [List.getD_eq_getElem?_getD] <;> cases lb[i]? <;> rfl
structure SameAt (p q g h k L c1 c2 a b : Nat) (W : World) : Prop where
 x3 : W.cell? ⟨p, 3, none⟩ = some (.slice (some ⟨g, 0, none⟩) L c1)
 y3 : W.cell? ⟨q, 3, none⟩ = some (.slice (some ⟨h, 0, none⟩) L c2)
 xk : W.cell? ⟨g, k, none⟩ = some (nPtr a)
 yk : W.cell? ⟨h, k, none⟩ = some (nPtr b)
theorem codeT_kd (t : Tr) : (codeT t).kd = t.kd := by unfold codeT; split <;> rfl
theorem parseS_kd {ws gs : List ByteArray} {s : ByteArray} {t : Tr} (h : parseS ws gs s = .ok t) : t.kd = 1 ∧ t.count ≤ 1500 := by
 unfold parseS at h
 split at h
 ·
  cases h
 ·
  split at h
  ·
   cases h
  ·
   split at h
   ·
    cases h
   ·
    rename_i hr
    split at h
    ·
     cases h
    ·
     cases h; obtain ⟨ts, _, rfl⟩ := progP_inv hr; exact ⟨codeT_kd _, by omega⟩
   ·
    cases h
def ReadPost (r : PaR) (w : World) (e : Ending) (w' : World) : Prop :=
 match r with
 | .ok t => ∃ p, e = .returned (.tuple #[nPtr p, .bool true]) ∧ NAt (From w.heap.size) w' t p ∧ Below w.heap.size w w'
 | _ => e = .returned (.tuple #[.pointer none, .bool false]) ∧ Below w.heap.size w w'
theorem read22_any (r : PaR) (s : ByteArray) (w : World) (hk : ∀ t, r = .ok t → t.kd = 1) (hC : Calls Tryz.prog 13 #[.string s] w (PaPost r w)) : Calls Tryz.prog 24 #[.string s] w (ReadPost r w) := by
 have HC := hide hC
 clear hC
 cases r with
 | ok t =>
  have hk1 := hk t rfl; clear hk; go_enter Tryz.func24, Tryz.ntmps24; go_wp2_with fail; refine cm HC.out ?_; rintro e w1 ⟨p, rfl, hn, hb⟩; obtain ⟨u, ps, hblk, _, _, _⟩ := hn.opens2
  obtain ⟨f0, _, _, _, _⟩ := node_cells hblk; rw [hk1] at f0; have HN := hide hn; have HB := hide hb; clear hblk hn hb HC hk1; go_wp2_with fail
  go_region
  go_wp2_with fail
  exact bodyPost_ret (v := .tuple #[nPtr p, .bool true]) (by simp [results, Tryz.results24, go_sem]) rfl ⟨p, rfl, NAt.later (I := From w.heap.size) (w := w1) (w' := w1.drew) (fun b _ _ => rfl) _ _ HN.out, HB.out.drew⟩
 | «at» er pl =>
  clear hk; go_enter Tryz.func24, Tryz.ntmps24; go_wp2_with fail; refine cm HC.out ?_; rintro e w1 ⟨b, rfl, _, _, hb⟩; have HB := hide hb; clear hb HC; go_wp2_with fail
  go_region
  go_wp2_with fail; exact bodyPost_ret (v := .tuple #[.pointer none, .bool false]) (by simp [results, Tryz.results24, go_sem]) rfl ⟨rfl, HB.out.drew⟩
 | bare =>
  clear hk; go_enter Tryz.func24, Tryz.ntmps24; go_wp2_with fail; refine cm HC.out ?_; rintro e w1 ⟨rfl, hb⟩; have HB := hide hb; clear hb HC; go_wp2_with fail
  go_region
  go_wp2_with fail; exact bodyPost_ret (v := .tuple #[.pointer none, .bool false]) (by simp [results, Tryz.results24, go_sem]) rfl ⟨rfl, HB.out.drew⟩
theorem read_any22 (ws gs : List ByteArray) (s : ByteArray) (w : World) (hL : Lists ws gs w) (hgs : ∀ g ∈ gs, 1 ≤ g.size) (hT : Tabs w) : Calls Tryz.prog 24 #[.string s] w (ReadPost (parseS ws gs s) w) :=
 read22_any _ s w (fun _ h => (parseS_kd h).1) (parse_any ws gs s w hL hgs hT)
end Go.Proofs.YtodmgaikhbmlnaaGreatDoor
namespace Go.Proofs.YtodmgaikhbmlnaaGreatDoor
open Go.RowKit Go.Extern.Stop Go.Stop Go.Extern
theorem R9.valueOf77 (t : Addr) (w : World) : (ReflectliteValue.unpack (.iface 92 (.pointer (some t)))).run Tryz.prog w
  = .ok (.agg #[.pointer (some ⟨13, 92, none⟩), .pointer (some ⟨w.heap.size, 0, none⟩), .int .u64 150]) (w.alloc (.cells #[.pointer (some t)] 92)) := by kernel_rfl
theorem R9.valueOf23 (n : Int) (w : World) : (ReflectliteValue.unpack (.iface 23 (.int .i64 n))).run Tryz.prog w
  = .ok (.agg #[.pointer (some ⟨13, 23, none⟩), .pointer (some ⟨w.heap.size, 0, none⟩), .int .u64 130]) (w.alloc (.cells #[.int .i64 n] 23)) := by kernel_rfl
theorem R9.type77 (a : Addr) (w : World) : (ReflectliteValue.methodAny (ReflectliteValue.valueError "reflectlite.Value.Type" 0) (fun t _ _ _ => ReflectliteType.toType t) #[.agg #[.pointer (some ⟨13, 92, none⟩), .pointer (some a), .int .u64 150]]).run Tryz.prog w
  = .ok (.iface 187 (.agg #[.pointer (some ⟨13, 92, none⟩)])) w := by kernel_rfl
theorem R9.kind77 (w : World) : ((ReflectliteType.abiMethod fun t => (fun a : Nat => Value.int IntKind.u8 (a : Int)) <$> Rtype.kind t) #[.pointer (some ⟨13, 92, none⟩)]).run Tryz.prog w = .ok (.int .u8 22) w := by kernel_rfl
theorem R9.kind23 (w : World) : ((ReflectliteType.abiMethod fun t => (fun a : Nat => Value.int IntKind.u8 (a : Int)) <$> Rtype.kind t) #[.pointer (some ⟨13, 23, none⟩)]).run Tryz.prog w = .ok (.int .u8 2) w := by kernel_rfl
theorem at_one (v : Value) (f : Value → Sem Value) (g : Array Value → Sem Value) : @ReflectliteValue.method.match_2 (fun _ => Sem Value) #[v] f g = f v := rfl
theorem at_two (v x : Value) (f : Value → Value → Sem Value) (g : Array Value → Sem Value) : @ReflectliteValue.set.match_3 (fun _ => Sem Value) #[v, x] f g = f v x := rfl
theorem R9.parts77 (a : Addr) (w : World) : (ReflectliteValue.parts (.agg #[.pointer (some ⟨13, 92, none⟩), .pointer (some a), .int .u64 150])).run Tryz.prog w = .ok (some (92, a, 150)) w := by kernel_rfl
theorem R9.isNil77 (a p : Addr) (W : World) (ha : W.cell? a = some (.pointer (some p))) :
  (ReflectliteValue.method (ReflectliteValue.valueError "reflectlite.Value.IsNil" 0) ReflectliteValue.isNil #[.agg #[.pointer (some ⟨13, 92, none⟩), .pointer (some a), .int .u64 150]]).run Tryz.prog W = .ok (.bool false) W := by
 delta ReflectliteValue.method
 rw [at_one]
 simp only [Sem.run_bind, R9.parts77, Result.andThen]
 simp [ReflectliteValue.isNil, loadVar, isAgg, underlying, Tryz.underlying92, ha, Result.andThen]
theorem R9.elem77 (w : World) : (ReflectliteType.method ReflectliteType.elem #[.agg #[.pointer (some ⟨13, 92, none⟩)]]).run Tryz.prog w = .ok (.iface 187 (.agg #[.pointer (some ⟨13, 23, none⟩)])) w := by kernel_rfl
theorem R9.implements23 (w : World) : (ReflectliteType.relation "Implements" ReflectliteType.implements_ #[.agg #[.pointer (some ⟨13, 23, none⟩)], .iface 187 (.agg #[.pointer (some ⟨13, 29, none⟩)])]).run Tryz.prog w = .ok (.bool true) w := by kernel_rfl
theorem R9.typeOf23 (v : Value) (w : World) : (ReflectliteType.typeOf #[.iface 23 v]).run Tryz.prog w = .ok (.iface 187 (.agg #[.pointer (some ⟨13, 23, none⟩)])) w := by kernel_rfl
theorem R9.assignable23 (w : World) : (ReflectliteType.relation "AssignableTo" ReflectliteType.assignableTo #[.agg #[.pointer (some ⟨13, 23, none⟩)], .iface 187 (.agg #[.pointer (some ⟨13, 23, none⟩)])]).run Tryz.prog w = .ok (.bool true) w := by kernel_rfl
theorem R9.elemOf77 (w : World) : (Rtype.elem? 92).run Tryz.prog w = .ok (some 23) w := by kernel_rfl
theorem R9.mk23 (p : Addr) (w : World) : (ReflectliteValue.mk 23 p ReflectliteValue.flagAddr).run Tryz.prog w = .ok (.agg #[.pointer (some ⟨13, 23, none⟩), .pointer (some p), .int .u64 386]) w := by kernel_rfl
theorem R9.elemV77 (a p : Addr) (W : World) (ha : W.cell? a = some (.pointer (some p))) :
  (ReflectliteValue.method (ReflectliteValue.valueError "reflectlite.Value.Elem" 0) ReflectliteValue.elem #[.agg #[.pointer (some ⟨13, 92, none⟩), .pointer (some a), .int .u64 150]]).run Tryz.prog W
   = .ok (.agg #[.pointer (some ⟨13, 23, none⟩), .pointer (some p), .int .u64 386]) W := by
 delta ReflectliteValue.method
 rw [at_one]
 simp only [Sem.run_bind, R9.parts77, Result.andThen]
 simp [ReflectliteValue.elem, loadVar, isAgg, underlying, Tryz.underlying92, ha, Result.andThen, R9.elemOf77, R9.mk23]
theorem R9.parts23a (a : Addr) (w : World) : (ReflectliteValue.parts (.agg #[.pointer (some ⟨13, 23, none⟩), .pointer (some a), .int .u64 386])).run Tryz.prog w = .ok (some (23, a, 386)) w := by kernel_rfl
theorem R9.parts23 (a : Addr) (w : World) : (ReflectliteValue.parts (.agg #[.pointer (some ⟨13, 23, none⟩), .pointer (some a), .int .u64 130])).run Tryz.prog w = .ok (some (23, a, 130)) w := by kernel_rfl
theorem R9.direct23 (w : World) : (Rtype.directlyAssignable 23 23).run Tryz.prog w = .ok true w := by kernel_rfl
theorem R9.set23 (ta b : Addr) (n : Int) (old : Value) (W : World) (hb : W.cell? b = some (.int .i64 n)) (ht : W.cell? ta = some old) (hf : W.frozen? ta = false) :
  (ReflectliteValue.set #[.agg #[.pointer (some ⟨13, 23, none⟩), .pointer (some ta), .int .u64 386], .agg #[.pointer (some ⟨13, 23, none⟩), .pointer (some b), .int .u64 130]]).run Tryz.prog W
   = .ok (.tuple #[]) (W.setCell ta (.int .i64 n)) := by
 delta ReflectliteValue.set
 rw [at_two]
 simp only [Sem.run_bind, R9.parts23a, R9.parts23, Result.andThen]
 simp [ReflectliteValue.flagAddr, loadVar, isAgg, underlying, Tryz.underlying23, hb, Result.andThen, R9.direct23, storeVar, Value.cells, storeCells, Addr.add]
 rw [run_store Tryz.prog W ta _ _ (by rfl)]
 simp [ht, hf]
theorem R9.mKind (h : Value) (w : World) : (Go.method 395 187 (.agg #[h]) "Kind").run Tryz.prog w = .ok (295, h) w := by kernel_rfl
theorem R9.mElem (h : Value) (w : World) : (Go.method 395 187 (.agg #[h]) "Elem").run Tryz.prog w = .ok (308, .agg #[h]) w := by kernel_rfl
theorem R9.mImpl (h : Value) (w : World) : (Go.method 395 187 (.agg #[h]) "Implements").run Tryz.prog w = .ok (309, .agg #[h]) w := by kernel_rfl
theorem R9.mAssign (h : Value) (w : World) : (Go.method 395 187 (.agg #[h]) "AssignableTo").run Tryz.prog w = .ok (306, .agg #[h]) w := by kernel_rfl
end Go.Proofs.YtodmgaikhbmlnaaGreatDoor
namespace Go.Proofs.YtodmgaikhbmlnaaGreatDoor
open Go.RowKit Go.Extern.Stop Go.Stop Go.Extern
theorem as_end {w : World} {T : Nat} {n : Int} {v0 : Value} (o1 o2 : Obj) (hT : w.cell? ⟨T, 0, none⟩ = some v0) (hTl : T < w.heap.size) :
  (((w.setCell ⟨T, 0, none⟩ (.int .i64 n)).alloc o1).alloc o2).cell? ⟨T, 0, none⟩ = some (.int .i64 n) ∧ Below T w (((w.setCell ⟨T, 0, none⟩ (.int .i64 n)).alloc o1).alloc o2) := by
 have b0 : Below T w (w.setCell ⟨T, 0, none⟩ (.int .i64 n)) := (Below.refl _ _).setCell (p := ⟨T, 0, none⟩) (Nat.le_refl _) _
 have hz := b0.size
 have h0 : (w.setCell ⟨T, 0, none⟩ (.int .i64 n)).cell? ⟨T, 0, none⟩ = some (.int .i64 n) := World.cell?_setCell_same _ _ _ hT
 have h1 : ((w.setCell ⟨T, 0, none⟩ (.int .i64 n)).alloc o1).cell? ⟨T, 0, none⟩ = some (.int .i64 n) := by rw [World.cell?_alloc_past _ _ _ (by omega)]; exact h0
 have hz1 : ((w.setCell ⟨T, 0, none⟩ (.int .i64 n)).alloc o1).heap.size = (w.setCell ⟨T, 0, none⟩ (.int .i64 n)).heap.size + 1 := World.size_alloc _ _
 refine ⟨by rw [World.cell?_alloc_past _ _ _ (by omega)]; exact h1, (b0.alloc (by omega) _).alloc (by omega) _⟩
set_option maxRecDepth 100000 in
set_option maxHeartbeats 1000000 in
theorem as_hit (n : Int) (T a : Nat) (w : World) (hT : w.cell? ⟨T, 0, none⟩ = some (.int .i64 0)) (hF : w.frozen? ⟨T, 0, none⟩ = false) (ha : w.cell? ⟨a, 0, none⟩ = some (.pointer (some ⟨T, 0, none⟩))) (hTl : T < w.heap.size) (hal : a < w.heap.size) :
  Calls Tryz.prog 133 #[.iface 23 (.int .i64 n), .iface 92 (.pointer (some ⟨T, 0, none⟩)), .agg #[.pointer (some ⟨13, 92, none⟩), .pointer (some ⟨a, 0, none⟩), .int .u64 150], .iface 187 (.agg #[.pointer (some ⟨13, 23, none⟩)])] w fun e w' =>
   e = .returned (.bool true) ∧ w'.cell? ⟨T, 0, none⟩ = some (.int .i64 n) ∧ Below T w w' := by
 have h62 := @run_callFunc_extern Tryz.prog 186 _ ReflectliteType.typeOf Tryz.func186 (by kernel_rfl) (by kernel_rfl) (by kernel_rfl) (by kernel_rfl)
 have h105 := @run_callFunc_extern Tryz.prog 306 _ (ReflectliteType.relation "AssignableTo" ReflectliteType.assignableTo) Tryz.func306 (by kernel_rfl) (by kernel_rfl) (by kernel_rfl) (by kernel_rfl)
 have h63 := @run_callFunc_extern Tryz.prog 187 _ (ReflectliteValue.method (ReflectliteValue.valueError "reflectlite.Value.Elem" 0) ReflectliteValue.elem) Tryz.func187 (by kernel_rfl) (by kernel_rfl) (by kernel_rfl) (by kernel_rfl)
 have h64 := @run_callFunc_extern Tryz.prog 188 _ ReflectliteValue.set Tryz.func188 (by kernel_rfl) (by kernel_rfl) (by kernel_rfl) (by kernel_rfl)
 have h55 := @run_callFunc_extern Tryz.prog 130 _ (fun args => ReflectliteValue.unpack (args.getD 0 (.tuple #[]))) Tryz.func130 (by kernel_rfl) (by kernel_rfl) (by kernel_rfl) (by kernel_rfl)
 have tO := R9.typeOf23
 have mA := R9.mAssign
 have a23 := R9.assignable23
 have v23 := R9.valueOf23
 have el := R9.elemV77 ⟨a, 0, none⟩ ⟨T, 0, none⟩ (w.alloc (.cells #[.pointer (some ⟨13, 92, none⟩), .pointer (some ⟨a, 0, none⟩), .int .u64 150] 146)) (by rw [World.cell?_alloc_past _ _ _ hal]; exact ha)
 have st := R9.set23 ⟨T, 0, none⟩ ⟨w.heap.size + 1, 0, none⟩ n (.int .i64 0) ((w.alloc (.cells #[.pointer (some ⟨13, 92, none⟩), .pointer (some ⟨a, 0, none⟩), .int .u64 150] 146)).alloc (.cells #[.int .i64 n] 23))
  (by rw [World.cell?_alloc_at _ _ _ _ (by simp)]; rfl) (by rw [World.cell?_alloc_past _ _ _ (by simp; omega), World.cell?_alloc_past _ _ _ hTl]; exact hT) (by rw [World.frozen?_alloc_old _ _ _ (by simp; omega), World.frozen?_alloc_old _ _ _ (by simp; omega)]; exact hF)
 go_enter Tryz.func133, Tryz.ntmps133
 go_wp2
 refine wp_loop_rounds 1 ?_
 rw [rounds_succ]
 go_wp2
 go_ret
 exact ⟨rfl, as_end _ _ hT hTl⟩
set_option maxRecDepth 100000 in
set_option maxHeartbeats 1000000 in
theorem As_hit (n : Int) (T : Nat) (w : World) (hT : w.cell? ⟨T, 0, none⟩ = some (.int .i64 0)) (hF : w.frozen? ⟨T, 0, none⟩ = false) (hTl : T < w.heap.size) (hg : w.cell? ⟨1, 0, none⟩ = some (.iface 187 (.agg #[.pointer (some ⟨13, 29, none⟩)]))) :
  Calls Tryz.prog 61 #[.iface 23 (.int .i64 n), .iface 92 (.pointer (some ⟨T, 0, none⟩))] w fun e w' => e = .returned (.bool true) ∧ w'.cell? ⟨T, 0, none⟩ = some (.int .i64 n) ∧ Below T w w' := by
 have h55 := @run_callFunc_extern Tryz.prog 130 _ (fun args => ReflectliteValue.unpack (args.getD 0 (.tuple #[]))) Tryz.func130 (by kernel_rfl) (by kernel_rfl) (by kernel_rfl) (by kernel_rfl)
 have h56 := @run_callFunc_extern Tryz.prog 131 _ (ReflectliteValue.methodAny (ReflectliteValue.valueError "reflectlite.Value.Type" 0) (fun t _ _ _ => ReflectliteType.toType t)) Tryz.func131 (by kernel_rfl) (by kernel_rfl) (by kernel_rfl) (by kernel_rfl)
 have h57 := @run_callFunc_extern Tryz.prog 132 _ (ReflectliteValue.method (ReflectliteValue.valueError "reflectlite.Value.IsNil" 0) ReflectliteValue.isNil) Tryz.func132 (by kernel_rfl) (by kernel_rfl) (by kernel_rfl) (by kernel_rfl)
 have h91 := @run_callFunc_extern Tryz.prog 295 _ (ReflectliteType.abiMethod fun t => do pure (.int .u8 (← Rtype.kind t))) Tryz.func295 (by kernel_rfl) (by kernel_rfl) (by kernel_rfl) (by kernel_rfl)
 have h107 := @run_callFunc_extern Tryz.prog 308 _ (ReflectliteType.method ReflectliteType.elem) Tryz.func308 (by kernel_rfl) (by kernel_rfl) (by kernel_rfl) (by kernel_rfl)
 have h108 := @run_callFunc_extern Tryz.prog 309 _ (ReflectliteType.relation "Implements" ReflectliteType.implements_) Tryz.func309 (by kernel_rfl) (by kernel_rfl) (by kernel_rfl) (by kernel_rfl)
 have v77 := R9.valueOf77
 have t77 := R9.type77
 have mK := R9.mKind
 have mE := R9.mElem
 have mI := R9.mImpl
 have k77 := R9.kind77
 have k23 := R9.kind23
 have e77 := R9.elem77
 have i23 := R9.implements23
 have hgl : 1 < w.heap.size := by
  rcases Nat.lt_or_ge 1 w.heap.size with h | h
  ·
   exact h
  ·
   simp [World.cell?, Array.getElem?_eq_none h] at hg
 obtain ⟨W1, hW1⟩ : ∃ W1, W1 = (w.alloc (.cells #[.pointer (some ⟨T, 0, none⟩)] 92)).alloc (.cells #[.pointer (some ⟨13, 92, none⟩), .pointer (some ⟨w.heap.size, 0, none⟩), .int .u64 150] 146) := ⟨_, rfl⟩
 have hg2 : ((w.alloc (.cells #[.pointer (some ⟨T, 0, none⟩)] 92)).alloc (.cells #[.pointer (some ⟨13, 92, none⟩), .pointer (some ⟨w.heap.size, 0, none⟩), .int .u64 150] 146)).cell? ⟨1, 0, none⟩ = some (.iface 187 (.agg #[.pointer (some ⟨13, 29, none⟩)])) := by
  rw [World.cell?_alloc_past _ _ _ (by simp; omega), World.cell?_alloc_past _ _ _ hgl]; exact hg
 have ha : W1.cell? ⟨w.heap.size, 0, none⟩ = some (.pointer (some ⟨T, 0, none⟩)) := by
  rw [hW1, World.cell?_alloc_past _ _ _ (by simp), World.cell?_alloc_at _ _ _ _ rfl]; rfl
 have hT1 : W1.cell? ⟨T, 0, none⟩ = some (.int .i64 0) := by rw [hW1, World.cell?_alloc_past _ _ _ (by simp; omega), World.cell?_alloc_past _ _ _ hTl]; exact hT
 have hF1 : W1.frozen? ⟨T, 0, none⟩ = false := by rw [hW1, World.frozen?_alloc_old _ _ _ (by simp; omega), World.frozen?_alloc_old _ _ _ (by simp; omega)]; exact hF
 have hz1 : W1.heap.size = w.heap.size + 2 := by rw [hW1]; simp
 have hB1 : Below T w W1 := by rw [hW1]; exact ((Below.refl _ _).alloc (Nat.le_of_lt hTl) _).alloc (by simp; omega) _
 have n8 := R9.isNil77 ⟨w.heap.size, 0, none⟩ ⟨T, 0, none⟩ W1 ha
 rw [hW1] at n8
 have HC : Hid _ := as_hit n T w.heap.size W1 hT1 hF1 ha (by omega) (by omega)
 have HB1 := hide hB1
 rw [hW1] at HC HB1
 clear hB1 hz1 hF1 hT1 ha hW1 W1
 go_enter Tryz.func61, Tryz.ntmps61
 go_wp2_with fail
 refine cm HC.out ?_
 rintro e w2 ⟨rfl, hc2, hb2⟩
 have HC2 := hide hc2
 have HB2 := hide hb2
 clear hc2 hb2
 go_wp2_with fail
 go_ret
 exact ⟨rfl, HC2.out, HB1.out.trans HB2.out⟩
end Go.Proofs.YtodmgaikhbmlnaaGreatDoor
namespace Go.Proofs.YtodmgaikhbmlnaaGreatDoor
open Go.RowKit Go.Extern.Stop Go.Stop Go.Extern
abbrev errType (w : World) : Prop := w.cell? ⟨1, 0, none⟩ = some (.iface 187 (.agg #[.pointer (some ⟨13, 29, none⟩)]))
theorem lt_of_errType {w : World} (h : errType w) : 1 < w.heap.size := by
 rcases Nat.lt_or_ge 1 w.heap.size with h' | h'
 ·
  exact h'
 ·
  simp [errType, World.cell?, Array.getElem?_eq_none h'] at h
theorem errType_later {w w' : World} (h : errType w) (hb : Below w.heap.size w w') : errType w' := by
 unfold errType
 rw [hb.cell (p := ⟨1, 0, none⟩) (lt_of_errType h)]; exact h
set_option maxRecDepth 100000 in
set_option maxHeartbeats 1000000 in
theorem Tell_hit (n : Int) (w : World) (hg : errType w) :
  Calls Tryz.prog 26 #[.iface 23 (.int .i64 n)] w fun e w' => e = .returned (.int .i64 n) ∧ Below w.heap.size w w' := by
 have hgl := lt_of_errType hg
 obtain ⟨W1, hW1⟩ : ∃ W1, W1 = w.alloc (.cells #[.int .i64 0] 23) := ⟨_, rfl⟩
 have hT : W1.cell? ⟨w.heap.size, 0, none⟩ = some (.int .i64 0) := by rw [hW1, World.cell?_alloc_at _ _ _ _ rfl]; rfl
 have hF : W1.frozen? ⟨w.heap.size, 0, none⟩ = false := by rw [hW1]; exact World.frozen?_alloc_at _ _ _ _ rfl
 have hz1 : W1.heap.size = w.heap.size + 1 := by rw [hW1]; simp
 have hg1 : errType W1 := by unfold errType; rw [hW1, World.cell?_alloc_past _ _ _ hgl]; exact hg
 have hB1 : Below w.heap.size w W1 := by rw [hW1]; exact (Below.refl _ _).alloc (Nat.le_refl _) _
 have HC : Hid _ := As_hit n w.heap.size W1 hT hF (by omega) hg1
 have HB1 := hide hB1
 rw [hW1] at HC HB1
 clear hB1 hg1 hz1 hF hT hW1 W1 hgl
 go_enter Tryz.func26, Tryz.ntmps26
 go_wp2_with fail
 refine cm HC.out ?_
 rintro e w2 ⟨rfl, hc2, hb2⟩
 have HB2 := hide hb2
 clear hb2
 go_wp2_with fail
 go_ret
 exact ⟨rfl, HB1.out.trans HB2.out⟩
end Go.Proofs.YtodmgaikhbmlnaaGreatDoor
namespace Go.Proofs.YtodmgaikhbmlnaaGreatDoor
open Go.RowKit
abbrev sW1 : ByteArray := ⟨#[119, 105, 116, 104, 32, 40, 97, 41, 32, 98, 59]⟩
abbrev tLa : ByteArray := ⟨#[97]⟩
abbrev tLb : ByteArray := ⟨#[98]⟩
def lW1 : List Tk := [⟨2, tWith, 0, 0⟩, ⟨5, tOpen, 0, 5⟩, ⟨1, tLa, 0, 6⟩, ⟨5, tShut, 0, 7⟩, ⟨1, tLb, 0, 9⟩, ⟨5, tSemi, 0, 10⟩, ⟨6, noText, 0, 11⟩]
def trW1 : Tr := .mk 1 noText 0 [.mk 9 noText 0 [.mk 23 tLa 0 [], .mk 15 noText 0 [.mk 23 tLb 0 []]]]
def MorePre (s : ByteArray) (r : PaR) (w : World) : Prop := Calls Tryz.prog 24 #[.string s] w (ReadPost r w) ∧ ∀ W, Below w.heap.size w W → Calls Tryz.prog 44 #[] W fun e w' => e = .returned (.bool true) ∧ Below W.heap.size W w'
end Go.Proofs.YtodmgaikhbmlnaaGreatDoor
