/-
  The grammar's functions go forward, stay ahead of the last token, and, with a bound that is great enough, come to an end.
-/
import Derived.Test.YtoimgcjbcbhclaaGreatDoorWh3
namespace Go.Proofs.YtoimgcjbcbhclaaGreatDoor

def Nx {α : Type} (q : Prop) (L a : Nat) (r : PR α) : Prop := (q → r ≠ .out) ∧ ∀ x j, r = .ok x j → a ≤ j ∧ j < L

theorem Nx.ok {α : Type} {q : Prop} {L a i : Nat} {x : α} (h1 : a ≤ i) (h2 : i < L) : Nx q L a (.ok x i) :=
  ⟨fun _ h => by (cases h), fun _ _ h => by cases h; exact ⟨h1, h2⟩⟩
theorem Nx.bad {α : Type} {q : Prop} {L a : Nat} {er : Int} {p : Nat} : Nx (α := α) q L a (.bad er p) :=
  ⟨fun _ h => by (cases h), fun _ _ h => by (cases h)⟩
theorem Nx.badF {α : Type} {q : Prop} {L a : Nat} {l : List Tk} {er : Int} {i : Nat} : Nx (α := α) q L a (badF l er i) := Nx.bad
theorem Nx.bind {α β : Type} {q : Prop} {L a b : Nat} {r : PR α} {f : α → Nat → PR β} (h : Nx q L a r) (hf : ∀ x j, a ≤ j → j < L → Nx q L b (f x j)) : Nx q L b (r.bind f) := by
  cases r with
  | ok x j => exact hf x j (h.2 x j rfl).1 (h.2 x j rfl).2
  | bad er p => exact Nx.bad
  | out => exact ⟨fun hq => absurd rfl (h.1 hq), fun _ _ h => by cases h⟩
theorem Nx.imp {α : Type} {q q' : Prop} {L a : Nat} {r : PR α} (h : Nx q L a r) (hq : q' → q) : Nx q' L a r := ⟨fun x => h.1 (hq x), h.2⟩
theorem Nx.le {α : Type} {q : Prop} {L a b : Nat} {r : PR α} (h : Nx q L a r) (hb : b ≤ a) : Nx q L b r := ⟨h.1, fun x j e => ⟨Nat.le_trans hb (h.2 x j e).1, (h.2 x j e).2⟩⟩

/-- The last token, and none else, is the end. -/
def Ends (l : List Tk) : Prop := ∀ i, i < l.length → ((tkA l i).kd = 6 ↔ i + 1 = l.length)

section
variable {l : List Tk} (hE : Ends l)
include hE

theorem next_lt {i : Nat} (hi : i < l.length) (h : (tkA l i).kd ≠ 6) : i + 1 < l.length := by
  have := mt (hE i hi).2 h
  omega

theorem fx_lt {i : Nat} {s : ByteArray} (hi : i < l.length) (h : fx l i = s) (hs : s ≠ noText) : i + 1 < l.length := by
  refine next_lt hE hi fun h6 => hs ?_
  rw [← h, fx, h6]
  rfl

theorem look2_lt {β : Type} {ks : List (ByteArray × β)} {x : β} {i : Nat} (hi : i < l.length) (h : look2 ks (fx l i) = some x) (h0 : look2 ks noText = none) : i + 1 < l.length := by
  refine fx_lt hE hi rfl fun h1 => ?_
  rw [h1, h0] at h
  cases h

theorem sgP_lt {k : Int} {x : Sg} {i : Nat} (hi : i < l.length) (h : sgP k (fx l i) = some x) : i + 1 < l.length := by
  refine fx_lt hE hi rfl fun h1 => ?_
  rw [h1] at h
  have : sgP k noText = none := by
    have : sgOf noText = none := by decide
    simp [sgP, this]
  rw [this] at h
  cases h

theorem mustP_nx {q : Prop} {s : ByteArray} {i : Nat} (hi : i < l.length) (hs : s ≠ noText) : Nx q l.length (i + 1) (mustP l s i) := by
  unfold mustP
  split
  · exact Nx.ok (Nat.le_refl _) (fx_lt hE hi ‹_› hs)
  · exact Nx.badF
theorem nameP_nx {q : Prop} {i : Nat} (hi : i < l.length) : Nx q l.length (i + 1) (nameP l i) := by
  unfold nameP
  split
  · rename_i h
    exact Nx.ok (Nat.le_refl _) (next_lt hE hi (by rw [h]; decide))
  · exact Nx.badF
omit hE in
theorem deepP_nx {q : Prop} {f : Nat → Nat → PR Tr} {d i : Nat} (h : Nx q l.length (i + 1) (f (d + 1) i)) : Nx q l.length (i + 1) (deepP l f d i) := by
  unfold deepP
  split
  · exact Nx.badF
  · exact h

theorem listLoop_nx {q : Prop} {shut : ByteArray} {begins : Nat → Bool} {part : Nat → PR Tr} {I : Nat} (hs : shut ≠ noText) (hp : ∀ i, I ≤ i → i < l.length → Nx q l.length (i + 1) (part i)) :
    ∀ k acc i, I ≤ i → i < l.length → Nx (q ∧ l.length - i < k) l.length (i + 1) (listLoop l shut begins part k acc i) := by
  intro k
  induction k with
  | zero => intro acc i _ _; exact ⟨fun h => absurd h.2 (by omega), fun _ _ h => by (cases h)⟩
  | succ k ih =>
    intro acc i hI hi
    unfold listLoop
    split
    · exact Nx.badF
    · refine Nx.bind ((hp i hI hi).imp And.left) fun t j h1 h2 => ?_
      split
      · exact Nx.ok (by omega) (fx_lt hE h2 ‹_› hs)
      · refine Nx.bind (mustP_nx hE h2 (by decide)) fun _ j2 h3 h4 => ?_
        exact ((ih _ j2 (by omega) h4).le (by omega)).imp fun h => ⟨h.1, by omega⟩

theorem listP_nx {q : Prop} {opn shut : ByteArray} {begins : Nat → Bool} {part : Nat → PR Tr} {k i : Nat} (hi : i < l.length) (ho : opn ≠ noText) (hs : shut ≠ noText) (hq : q → l.length - i ≤ k) (hp : ∀ j, i < j → j < l.length → Nx q l.length (j + 1) (part j)) :
    Nx q l.length (i + 1) (listP l opn shut begins part k i) := by
  unfold listP
  refine Nx.bind (mustP_nx hE hi ho) fun _ j h1 h2 => ?_
  split
  · exact Nx.ok (by omega) (fx_lt hE h2 ‹_› hs)
  · exact ((listLoop_nx hE hs (I := i + 1) (fun j h3 h4 => hp j h3 h4) k [] j h1 h2).le (by omega)).imp fun h => ⟨h, by have := hq h; omega⟩

/-- What is known of the parts at a bound. -/
structure FNx (l : List Tk) (k : Nat) (F : Fns) : Prop where
  fuel : F.fuel = k - 1
  st : ∀ d i, i < l.length → Nx (8 * (l.length - i) + 3 < k) l.length (i + 1) (F.st d i)
  vl : ∀ d i, i < l.length → Nx (8 * (l.length - i) + 2 < k) l.length (i + 1) (F.vl d i)
  pr : ∀ b d i, i < l.length → Nx (8 * (l.length - i) + 1 < k) l.length (i + 1) (F.pr b d i)
  sg : ∀ d i, i < l.length → Nx (8 * (l.length - i) < k) l.length (i + 1) (F.sg d i)

variable {k : Nat} {F : Fns} (hF : FNx l k F)
include hF

theorem blockLoop_nx {q : Prop} {I : Nat} (hq : q → 8 * (l.length - I) ≤ k + 4) : ∀ n d acc i, I < i → i < l.length → Nx (q ∧ l.length - i < n) l.length (i + 1) (blockLoop l F d n acc i) := by
  intro n
  induction n with
  | zero => intro d acc i _ _; exact ⟨fun h => absurd h.2 (by omega), fun _ _ h => by (cases h)⟩
  | succ n ih =>
    intro d acc i hI hi
    unfold blockLoop
    split
    · exact Nx.ok (by omega) (fx_lt hE hi ‹_› (by decide))
    · refine Nx.bind (deepP_nx ((hF.st (d + 1) i hi).imp fun h => ?_)) fun t j h1 h2 => ((ih d _ j (by omega) h2).le (by omega)).imp fun h => ⟨h.1, by omega⟩
      have := hq h.1
      omega

theorem blockP_nx {q : Prop} {d i : Nat} (hi : i < l.length) (hq : q → 8 * (l.length - i) ≤ k + 4) : Nx q l.length (i + 1) (blockP l F d i) := by
  unfold blockP
  refine Nx.bind (mustP_nx hE hi (by decide)) fun _ j h1 h2 => ?_
  refine Nx.bind (((blockLoop_nx hE hF hq F.fuel d [] j (by omega) h2).le (b := j) (by omega)).imp fun h => ⟨h, ?_⟩) fun ts j2 h3 h4 => Nx.ok (by omega) h4
  have := hq h
  rw [hF.fuel]
  omega

omit hF in
theorem paramP_nx {q : Prop} {i : Nat} (hi : i < l.length) : Nx q l.length (i + 1) (paramP l i) := by
  unfold paramP
  exact Nx.bind (nameP_nx hE hi) fun s j h1 h2 => Nx.ok h1 h2
theorem paramsP_nx {q : Prop} {i : Nat} (hi : i < l.length) (hq : q → 8 * (l.length - i) ≤ k + 4) : Nx q l.length (i + 1) (paramsP l F i) := by
  unfold paramsP
  refine Nx.bind (listP_nx hE hi (by decide) (by decide) (fun h => ?_) fun j _ h => paramP_nx hE h) fun ts j h1 h2 => Nx.ok h1 h2
  have := hq h
  rw [hF.fuel]; omega
omit hE in
theorem argP_nx {q : Prop} {d i : Nat} (hi : i < l.length) (hq : q → 8 * (l.length - i) + 2 < k) : Nx q l.length (i + 1) (argP l F d i) := deepP_nx ((hF.vl _ _ hi).imp hq)
theorem propP_nx {q : Prop} {d i : Nat} (hi : i < l.length) (hq : q → 8 * (l.length - i) ≤ k + 4) : Nx q l.length (i + 1) (propP l F d i) := by
  unfold propP
  refine Nx.bind (nameP_nx hE hi) fun s j h1 h2 => ?_
  refine Nx.bind (mustP_nx hE h2 (by decide)) fun _ j2 h3 h4 => ?_
  exact Nx.bind (deepP_nx ((hF.vl _ _ h4).imp fun h => by have := hq h; omega)) fun t j3 h5 h6 => Nx.ok (by omega) h6
theorem inParP_nx {q : Prop} {d i : Nat} (hi : i < l.length) (hq : q → 8 * (l.length - i) ≤ k + 4) : Nx q l.length (i + 1) (inParP l F d i) := by
  unfold inParP
  refine Nx.bind (mustP_nx hE hi (by decide)) fun _ j2 h3 h4 => ?_
  refine Nx.bind (deepP_nx ((hF.vl _ _ h4).imp fun h => by have := hq h; omega)) fun t j3 h5 h6 => ?_
  exact Nx.bind (mustP_nx hE h6 (by decide)) fun _ j4 h7 h8 => Nx.ok (by omega) h8
theorem objectP_nx {q : Prop} {d i : Nat} (hi : i < l.length) (hq : q → 8 * (l.length - i) ≤ k + 4) : Nx q l.length (i + 1) (objectP l F d i) := by
  unfold objectP
  refine Nx.bind (listP_nx hE hi (by decide) (by decide) (fun h => ?_) fun j h1 h => propP_nx hE hF h fun hh => by have := hq hh; omega) fun ts j h1 h2 => Nx.ok h1 h2
  have := hq h
  rw [hF.fuel]; omega
theorem funcTail_nx {q : Prop} {kd : Int} {s : ByteArray} {d i : Nat} (hi : i < l.length) (hq : q → 8 * (l.length - i) ≤ k + 4) : Nx q l.length (i + 1) (funcTail l F kd s d i) := by
  unfold funcTail
  refine Nx.bind (paramsP_nx hE hF hi hq) fun ps j h1 h2 => ?_
  exact Nx.bind (blockP_nx hE hF h2 fun h => by have := hq h; omega) fun b j2 h3 h4 => Nx.ok (by omega) h4
theorem lambdaP_nx {q : Prop} {d i : Nat} (hi : i < l.length) (hq : q → 8 * (l.length - i) ≤ k + 4) : Nx q l.length (i + 1) (lambdaP l F d i) := by
  unfold lambdaP
  refine Nx.bind (mustP_nx hE hi (by decide)) fun _ j h1 h2 => ?_
  split
  · refine Nx.bind (nameP_nx hE h2) fun s j2 h3 h4 => ?_
    exact (funcTail_nx hE hF h4 fun h => by have := hq h; omega).le (by omega)
  · exact (funcTail_nx hE hF h2 fun h => by have := hq h; omega).le (by omega)
theorem funcP_nx {q : Prop} {d i : Nat} (hi : i < l.length) (hq : q → 8 * (l.length - i) ≤ k + 4) : Nx q l.length (i + 1) (funcP l F d i) := by
  unfold funcP
  refine Nx.bind (mustP_nx hE hi (by decide)) fun _ j h1 h2 => ?_
  refine Nx.bind (nameP_nx hE h2) fun s j2 h3 h4 => ?_
  exact (funcTail_nx hE hF h4 fun h => by have := hq h; omega).le (by omega)

theorem aloneP_nx {q : Prop} {d i : Nat} (hi : i < l.length) (hq : q → 8 * (l.length - i) ≤ k + 4) : Nx q l.length (i + 1) (aloneP l F d i) := by
  unfold aloneP
  split
  · exact inParP_nx hE hF hi hq
  · exact objectP_nx hE hF hi hq
  · exact lambdaP_nx hE hF hi hq
  · split
    · rename_i s hs
      exact Nx.ok (Nat.le_refl _) (sgP_lt hE hi hs)
    · split
      · rename_i h; exact Nx.ok (Nat.le_refl _) (next_lt hE hi (by rw [h]; decide))
      · split
        · rename_i h; exact Nx.ok (Nat.le_refl _) (next_lt hE hi (by rw [h]; decide))
        · split
          · rename_i h; exact Nx.ok (Nat.le_refl _) (next_lt hE hi (by rw [h]; decide))
          · exact Nx.badF

theorem askedLoop_nx {q : Prop} {I : Nat} (hq : q → 8 * (l.length - I) ≤ k + 4) : ∀ n d t i, I < i → i < l.length → Nx (q ∧ l.length - i < n) l.length i (askedLoop l F d n t i) := by
  intro n
  induction n with
  | zero => intro d acc i _ _; exact ⟨fun h => absurd h.2 (by omega), fun _ _ h => by (cases h)⟩
  | succ n ih =>
    intro d t i hI hi
    unfold askedLoop
    split
    · have h0 := fx_lt hE hi ‹_› (by decide)
      exact Nx.bind (nameP_nx hE h0) fun s j h1 h2 => ((ih d _ j (by omega) h2).le (by omega)).imp fun h => ⟨h.1, by omega⟩
    · split
      · refine Nx.bind (listP_nx hE hi (by decide) (by decide) (fun h => ?_) fun j h1 h => argP_nx hF h fun hh => by have := hq hh.1; omega) fun ts j h1 h2 => ((ih d _ j (by omega) h2).le (by omega)).imp fun h => ⟨h.1, by omega⟩
        have := hq h.1
        rw [hF.fuel]; omega
      · exact Nx.ok (Nat.le_refl _) hi

theorem askedP_nx {q : Prop} {d i : Nat} (hi : i < l.length) (hq : q → 8 * (l.length - i) ≤ k + 4) : Nx q l.length (i + 1) (askedP l F d i) := by
  unfold askedP
  refine Nx.bind (aloneP_nx hE hF hi hq) fun t j h1 h2 => ((askedLoop_nx hE hF hq F.fuel d t j (by omega) h2).le (by omega)).imp fun h => ⟨h, ?_⟩
  have := hq h
  rw [hF.fuel]; omega

theorem singleP_nx {d i : Nat} (hi : i < l.length) : Nx (8 * (l.length - i) < k + 1) l.length (i + 1) (singleP l F d i) := by
  unfold singleP
  split
  · rename_i s hs
    have h0 := sgP_lt hE hi hs
    exact Nx.bind (deepP_nx ((hF.sg _ _ h0).imp fun h => by omega)) fun t j h1 h2 => Nx.ok (by omega) h2
  · exact askedP_nx hE hF hi fun h => by omega

theorem pairLoop_nx {q : Prop} {I : Nat} (hq : q → 8 * (l.length - I) ≤ k + 4) : ∀ n b d t i, I < i → i < l.length → Nx (q ∧ l.length - i < n) l.length i (pairLoop l F b d n t i) := by
  intro n
  induction n with
  | zero => intro b d acc i _ _; exact ⟨fun h => absurd h.2 (by omega), fun _ _ h => by (cases h)⟩
  | succ n ih =>
    intro b d t i hI hi
    unfold pairLoop
    split
    · exact Nx.ok (Nat.le_refl _) hi
    · rename_i s hs
      have h0 := sgP_lt hE hi hs
      split
      · exact Nx.ok (Nat.le_refl _) hi
      · refine Nx.bind ((hF.pr _ _ _ h0).imp fun h => ?_) fun u j h1 h2 => ((ih b d _ j (by omega) h2).le (by omega)).imp fun h => ⟨h.1, by omega⟩
        have := hq h.1
        omega

theorem pairP_nx {b : Int} {d i : Nat} (hi : i < l.length) : Nx (8 * (l.length - i) + 1 < k + 1) l.length (i + 1) (pairP l F b d i) := by
  unfold pairP
  refine Nx.bind ((hF.sg _ _ hi).imp fun h => by omega) fun t j h1 h2 => ((pairLoop_nx hE hF (I := i) (q := 8 * (l.length - i) + 1 < k + 1) (fun h => by omega) F.fuel b d t j (by omega) h2).le (by omega)).imp fun h => ⟨h, ?_⟩
  rw [hF.fuel]; omega

theorem valueP_nx {d i : Nat} (hi : i < l.length) : Nx (8 * (l.length - i) + 2 < k + 1) l.length (i + 1) (valueP l F d i) := by
  unfold valueP
  refine Nx.bind ((hF.pr _ _ _ hi).imp fun h => by omega) fun t j h1 h2 => ?_
  split
  · have h0 := fx_lt hE h2 ‹_› (by decide)
    split
    · exact Nx.bind (deepP_nx ((hF.vl _ _ h0).imp fun h => by omega)) fun v j2 h3 h4 => Nx.ok (by omega) h4
    · exact Nx.badF
  · exact Nx.ok h1 h2

theorem exprP_nx {q : Prop} {d i : Nat} (hi : i < l.length) (hq : q → 8 * (l.length - i) + 2 < k) : Nx q l.length (i + 1) (exprP l F d i) := by
  unfold exprP
  refine Nx.bind (deepP_nx ((hF.vl _ _ hi).imp hq)) fun v j h1 h2 => ?_
  exact Nx.bind (mustP_nx hE h2 (by decide)) fun _ j2 h3 h4 => Nx.ok (by omega) h4

theorem declP_nx {q : Prop} {d i : Nat} (hi : i + 1 < l.length) (hq : q → 8 * (l.length - i) ≤ k + 4) : Nx q l.length (i + 1) (declP l F d i) := by
  unfold declP
  refine Nx.bind (nameP_nx hE hi) fun s j h1 h2 => ?_
  split
  · exact Nx.badF
  · split
    · have h0 := fx_lt hE h2 ‹_› (by decide)
      refine Nx.bind (deepP_nx ((hF.vl _ _ h0).imp fun h => by have := hq h; omega)) fun v j2 h3 h4 => ?_
      exact Nx.bind (mustP_nx hE h4 (by decide)) fun _ j3 h5 h6 => Nx.ok (by omega) h6
    · exact Nx.bind (mustP_nx hE h2 (by decide)) fun _ j3 h5 h6 => Nx.ok (by omega) h6

theorem behindP_nx {q : Prop} {d i : Nat} (hi : i + 1 < l.length) (hq : q → 8 * (l.length - i) ≤ k + 4) : Nx q l.length (i + 1) (behindP l F d i) := by
  unfold behindP
  refine Nx.bind (inParP_nx hE hF hi fun h => by have := hq h; omega) fun v j h1 h2 => ?_
  exact Nx.bind (deepP_nx ((hF.st _ _ h2).imp fun h => by have := hq h; omega)) fun v j2 h3 h4 => Nx.ok (by omega) h4

theorem choiceP_nx {q : Prop} {d i : Nat} (hi : i + 1 < l.length) (hq : q → 8 * (l.length - i) ≤ k + 4) : Nx q l.length (i + 1) (choiceP l F d i) := by
  unfold choiceP
  refine Nx.bind (inParP_nx hE hF hi fun h => by have := hq h; omega) fun v j h1 h2 => ?_
  refine Nx.bind (deepP_nx ((hF.st _ _ h2).imp fun h => by have := hq h; omega)) fun v j2 h3 h4 => ?_
  split
  · have h0 := fx_lt hE h4 ‹_› (by decide)
    exact Nx.bind (deepP_nx ((hF.st _ _ h0).imp fun h => by have := hq h; omega)) fun v j3 h5 h6 => Nx.ok (by omega) h6
  · exact Nx.ok (by omega) h4

theorem givingP_nx {q : Prop} {d i : Nat} (hi : i + 1 < l.length) (hq : q → 8 * (l.length - i) ≤ k + 4) : Nx q l.length (i + 1) (givingP l F d i) := by
  unfold givingP
  split
  · refine Nx.bind (deepP_nx ((hF.vl _ _ hi).imp fun h => by have := hq h; omega)) fun v j h1 h2 => ?_
    exact Nx.bind (mustP_nx hE h2 (by decide)) fun _ j2 h3 h4 => Nx.ok (by omega) h4
  · exact Nx.bind (mustP_nx hE hi (by decide)) fun _ j2 h3 h4 => Nx.ok (by omega) h4

theorem catchP_nx {q : Prop} {d i : Nat} (hi : i < l.length) (hq : q → 8 * (l.length - i) ≤ k + 4) : Nx q l.length i (catchP l F d i) := by
  unfold catchP
  split
  · have h0 := fx_lt hE hi ‹_› (by decide)
    refine Nx.bind (mustP_nx hE h0 (by decide)) fun _ j1 h1 h2 => ?_
    refine Nx.bind (nameP_nx hE h2) fun _ j2 h3 h4 => ?_
    refine Nx.bind (mustP_nx hE h4 (by decide)) fun _ j3 h5 h6 => ?_
    exact Nx.bind (blockP_nx hE hF h6 fun h => by have := hq h; omega) fun b j4 h7 h8 => Nx.ok (by omega) h8
  · exact Nx.ok (Nat.le_refl _) hi
theorem finallyP_nx {q : Prop} {d i : Nat} (hi : i < l.length) (hq : q → 8 * (l.length - i) ≤ k + 4) : Nx q l.length i (finallyP l F d i) := by
  unfold finallyP
  split
  · have h0 := fx_lt hE hi ‹_› (by decide)
    exact Nx.bind (blockP_nx hE hF h0 fun h => by have := hq h; omega) fun b j4 h7 h8 => Nx.ok (by omega) h8
  · exact Nx.ok (Nat.le_refl _) hi
theorem attemptP_nx {q : Prop} {d i : Nat} (hi : i < l.length) (hq : q → 8 * (l.length - i) ≤ k + 4) : Nx q l.length (i + 1) (attemptP l F d i) := by
  unfold attemptP
  refine Nx.bind (mustP_nx hE hi (by decide)) fun _ j0 h h0 => ?_
  refine Nx.bind (blockP_nx hE hF h0 fun h => by have := hq h; omega) fun b j1 h1 h2 => ?_
  refine Nx.bind (catchP_nx hE hF h2 fun h => by have := hq h; omega) fun c j2 h3 h4 => ?_
  refine Nx.bind (finallyP_nx hE hF h4 fun h => by have := hq h; omega) fun f j3 h5 h6 => ?_
  split
  · exact Nx.badF
  · exact Nx.ok (by omega) h6

theorem partP_nx {q : Prop} {d i c : Nat} (hi : i + 1 < l.length) (hq : q → 8 * (l.length - i) ≤ k + 4) : Nx q l.length (i + 1) (partP l F d c i) := by
  unfold partP
  split
  · exact declP_nx hE hF hi hq
  · exact funcP_nx hE hF (by omega) hq
  · exact blockP_nx hE hF (by omega) hq
  · exact Nx.bind (mustP_nx hE (by omega) (by decide)) fun _ j h1 h2 => Nx.ok h1 h2
  · exact choiceP_nx hE hF hi hq
  · exact behindP_nx hE hF hi hq
  · exact givingP_nx hE hF hi hq
  · exact attemptP_nx hE hF (by omega) hq

theorem statementP_nx {d i : Nat} (hi : i < l.length) : Nx (8 * (l.length - i) + 3 < k + 1) l.length (i + 1) (statementP l F d i) := by
  unfold statementP
  split
  · rename_i c hc
    exact partP_nx hE hF (look2_lt hE hi hc (by decide)) fun h => by omega
  · exact exprP_nx hE hF hi fun h => by omega

omit hF in
theorem fns_nx : ∀ k, FNx l k (fns l k) := by
  intro k
  induction k with
  | zero => exact ⟨rfl, fun _ _ _ => ⟨fun h => absurd h (by omega), fun _ _ h => by (cases h)⟩, fun _ _ _ => ⟨fun h => absurd h (by omega), fun _ _ h => by (cases h)⟩, fun _ _ _ _ => ⟨fun h => absurd h (by omega), fun _ _ h => by (cases h)⟩, fun _ _ _ => ⟨fun h => absurd h (by omega), fun _ _ h => by (cases h)⟩⟩
  | succ k ih => exact ⟨rfl, fun _ _ hi => statementP_nx hE ih hi, fun _ _ hi => valueP_nx hE ih hi, fun _ _ _ hi => pairP_nx hE ih hi, fun _ _ hi => singleP_nx hE ih hi⟩
end
end Go.Proofs.YtoimgcjbcbhclaaGreatDoor
