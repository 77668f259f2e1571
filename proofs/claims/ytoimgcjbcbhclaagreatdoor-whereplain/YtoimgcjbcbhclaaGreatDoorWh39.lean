/-
  Two lists of tokens that are alike ahead of a place: what is read ahead of it, in the one, is read so in the other.
-/
import Derived.Test.YtoimgcjbcbhclaaGreatDoorWh4
namespace Go.Proofs.YtoimgcjbcbhclaaGreatDoor

def Js {α : Type} (A L a : Nat) (r r' : PR α) : Prop := ∀ x j, r = .ok x j → (a ≤ j ∧ j < L) ∧ (j < A → r' = .ok x j)

theorem Js.ok {α : Type} {A L a i : Nat} {x : α} (h1 : a ≤ i) (h2 : i < L) : Js A L a (.ok x i) (.ok x i) :=
  fun _ _ h => by cases h; exact ⟨⟨h1, h2⟩, fun _ => rfl⟩
theorem Js.bad {α : Type} {A L a : Nat} {er : Int} {p : Nat} {r : PR α} : Js A L a (.bad er p) r := fun _ _ h => by cases h
theorem Js.out {α : Type} {A L a : Nat} {r : PR α} : Js A L a .out r := fun _ _ h => by cases h
theorem Js.badF {α : Type} {A L a : Nat} {l : List Tk} {er : Int} {i : Nat} {r : PR α} : Js A L a (badF l er i) r := Js.bad
theorem Js.le {α : Type} {A L a b : Nat} {r r' : PR α} (h : Js A L a r r') (hb : b ≤ a) : Js A L b r r' := fun x j e => ⟨⟨Nat.le_trans hb (h x j e).1.1, (h x j e).1.2⟩, (h x j e).2⟩
theorem Js.less {α : Type} {A B L a : Nat} {r r' : PR α} (h : Js B L a r r') (hb : A ≤ B) : Js A L a r r' := fun x j e => ⟨(h x j e).1, fun hj => (h x j e).2 (by omega)⟩
theorem Js.low {α : Type} {A L a : Nat} {r r' : PR α} (h : Js (A + 1) L a r r') : Js A L a r r' := h.less (Nat.le_succ _)
/-- Behind the place nothing is asked. -/
theorem Js.far {α : Type} {A L a : Nat} {r r' r'' : PR α} (h : Js A L a r r'') (ha : A ≤ a) : Js A L a r r' := fun x j e => ⟨(h x j e).1, fun hj => absurd (h x j e).1.1 (by omega)⟩
theorem Js.bindD {α β : Type} {A L a b : Nat} (dl : Nat) {r r' : PR α} {f f' : α → Nat → PR β} (h : Js A L a r r') (hb : b ≤ a + dl)
    (hf : ∀ x i, a ≤ i → i < L → Js (A + dl) L (i + dl) (f x i) (f' x i)) : Js (A + dl) L b (r.bind f) (r'.bind f') := by
  intro y j e
  cases r with
  | ok x i =>
    have h1 := h x i rfl
    have h2 := hf x i h1.1.1 h1.1.2 y j e
    refine ⟨⟨by omega, h2.1.2⟩, fun hj => ?_⟩
    rw [h1.2 (by omega)]
    exact h2.2 hj
  | bad er p => cases e
  | out => cases e
theorem Js.bind {α β : Type} {A L a b : Nat} {r r' : PR α} {f f' : α → Nat → PR β} (h : Js A L a r r') (hb : b ≤ a)
    (hf : ∀ x i, a ≤ i → i < L → Js A L i (f x i) (f' x i)) : Js A L b (r.bind f) (r'.bind f') := Js.bindD 0 h hb hf
theorem Js.ite {α : Type} {B L a : Nat} {c c' : Prop} [Decidable c] [Decidable c'] {X Y X' Y' : PR α} (hc : a < B → (c ↔ c')) (h1 : c → Js B L a X X') (h2 : ¬ c → Js B L a Y Y') :
    Js B L a (if c then X else Y) (if c' then X' else Y') := by
  by_cases hA : a < B
  · by_cases h : c
    · rw [if_pos h, if_pos ((hc hA).1 h)]; exact h1 h
    · rw [if_neg h, if_neg (fun hh => h ((hc hA).2 hh))]; exact h2 h
  · by_cases h : c
    · rw [if_pos h]; exact (h1 h).far (by omega)
    · rw [if_neg h]; exact (h2 h).far (by omega)

section
variable {l l' : List Tk} {A : Nat} (hE : Ends l) (hA : ∀ i, i < A → tkA l i = tkA l' i)

include hA in
theorem fx_ag {i : Nat} (hi : i < A) : fx l i = fx l' i := by unfold fx; rw [hA i hi]

include hE hA

theorem mustP_js {s : ByteArray} {i : Nat} (hi : i < l.length) (hs : s ≠ noText) : Js (A + 1) l.length (i + 1) (mustP l s i) (mustP l' s i) := by
  unfold mustP
  exact Js.ite (fun h => by rw [fx_ag hA (by omega)]) (fun h => Js.ok (Nat.le_refl _) (fx_lt hE hi h hs)) (fun _ => Js.badF)
theorem nameP_js {i : Nat} (hi : i < l.length) : Js (A + 1) l.length (i + 1) (nameP l i) (nameP l' i) := by
  by_cases h : i < A
  · unfold nameP
    rw [hA i h]
    split
    · rename_i h1
      exact Js.ok (Nat.le_refl _) (next_lt hE hi (by rw [hA i h, h1]; decide))
    · exact Js.badF
  · exact fun x j e => ⟨(nameP_nx (q := True) hE hi).2 x j e, fun hj => absurd ((nameP_nx (q := True) hE hi).2 x j e).1 (by omega)⟩
omit hE hA in
theorem deepP_js {B : Nat} {f f' : Nat → Nat → PR Tr} {d i : Nat} (h : Js B l.length (i + 1) (f (d + 1) i) (f' (d + 1) i)) : Js B l.length (i + 1) (deepP l f d i) (deepP l' f' d i) := by
  unfold deepP
  by_cases hd : d = 30
  · rw [if_pos hd]; exact Js.badF
  · rw [if_neg hd, if_neg hd]; exact h

theorem listLoop_js {shut : ByteArray} {begins begins' : Nat → Bool} {part part' : Nat → PR Tr} (hs : shut ≠ noText) (hb : ∀ i, i < A → begins i = begins' i) (hp : ∀ i, i < l.length → Js A l.length (i + 1) (part i) (part' i)) :
    ∀ k acc i, i < l.length → Js (A + 1) l.length (i + 1) (listLoop l shut begins part k acc i) (listLoop l' shut begins' part' k acc i) := by
  intro k
  induction k with
  | zero => intro acc i _; exact Js.out
  | succ k ih =>
    intro acc i hi
    unfold listLoop
    refine Js.ite (fun h => by rw [hb i (by omega)]) (fun _ => Js.badF) fun _ => ?_
    refine Js.bindD 1 (hp i hi) (by omega) fun t j h1 h2 => ?_
    refine Js.ite (fun h => by rw [fx_ag hA (by omega)]) (fun hx => Js.ok (by omega) (fx_lt hE h2 hx hs)) fun _ => ?_
    exact Js.bind (mustP_js hE hA h2 (by decide)) (Nat.le_refl _) fun _ j2 h3 h4 => (ih _ j2 h4).le (by omega)

theorem listP_js {opn shut : ByteArray} {begins begins' : Nat → Bool} {part part' : Nat → PR Tr} {k i : Nat} (hi : i < l.length) (ho : opn ≠ noText) (hs : shut ≠ noText) (hb : ∀ i, i < A → begins i = begins' i) (hp : ∀ j, j < l.length → Js A l.length (j + 1) (part j) (part' j)) :
    Js (A + 1) l.length (i + 1) (listP l opn shut begins part k i) (listP l' opn shut begins' part' k i) := by
  unfold listP
  refine Js.bind (mustP_js hE hA hi ho) (Nat.le_refl _) fun _ j h1 h2 => ?_
  refine Js.le (a := j + 1) (Js.ite (fun h => by rw [fx_ag hA (by omega)]) (fun hx => Js.ok (Nat.le_refl _) (fx_lt hE h2 hx hs)) fun _ => ?_) (by omega)
  exact listLoop_js hE hA hs hb hp k [] j h2

omit hE in
theorem isName_ag {i : Nat} (hi : i < A) : isName l i = isName l' i := by unfold isName; rw [hA i hi]
omit hE in
theorem isVal_ag {i : Nat} (hi : i < A) : isVal l i = isVal l' i := by unfold isVal; rw [fx_ag hA hi, hA i hi]

structure FJs (l : List Tk) (A : Nat) (F F' : Fns) : Prop where
  fuel : F.fuel = F'.fuel
  st : ∀ d i, i < l.length → Js (A + 1) l.length (i + 1) (F.st d i) (F'.st d i)
  vl : ∀ d i, i < l.length → Js A l.length (i + 1) (F.vl d i) (F'.vl d i)
  pr : ∀ b d i, i < l.length → Js A l.length (i + 1) (F.pr b d i) (F'.pr b d i)
  sg : ∀ d i, i < l.length → Js A l.length (i + 1) (F.sg d i) (F'.sg d i)

/-- The token at the place goes on with no statement. -/
def Parts (l l' : List Tk) (A : Nat) : Prop := ∀ s, s = tElse ∨ s = tCatch ∨ s = tFinally → fx l A ≠ s ∧ fx l' A ≠ s

omit hE in
theorem fx_parts (hS : Parts l l' A) {i : Nat} {s : ByteArray} (hi : i < A + 1) (hs : s = tElse ∨ s = tCatch ∨ s = tFinally) : fx l i = s ↔ fx l' i = s := by
  by_cases h : i < A
  · rw [fx_ag hA h]
  · have h1 : i = A := by omega
    subst h1
    exact ⟨fun h => absurd h (hS s hs).1, fun h => absurd h (hS s hs).2⟩

variable {F F' : Fns} (hF : FJs l A F F')
include hF

theorem blockLoop_js : ∀ n d acc i, i < l.length → Js (A + 1) l.length (i + 1) (blockLoop l F d n acc i) (blockLoop l' F' d n acc i) := by
  intro n
  induction n with
  | zero => intro d acc i _; exact Js.out
  | succ n ih =>
    intro d acc i hi
    unfold blockLoop
    refine Js.ite (fun h => by rw [fx_ag hA (by omega)]) (fun hx => Js.ok (by omega) (fx_lt hE hi hx (by decide))) fun _ => ?_
    exact Js.bind (deepP_js (hF.st (d + 1) i hi)) (Nat.le_refl _) fun t j h1 h2 => (ih d _ j h2).le (by omega)

theorem blockP_js {d i : Nat} (hi : i < l.length) : Js (A + 1) l.length (i + 1) (blockP l F d i) (blockP l' F' d i) := by
  unfold blockP
  rw [← hF.fuel]
  refine Js.bind (mustP_js hE hA hi (by decide)) (Nat.le_refl _) fun _ j h1 h2 => ?_
  exact Js.bind (blockLoop_js hE hA hF F.fuel d [] j h2) (by omega) fun ts j2 h3 h4 => Js.ok (Nat.le_refl _) h4

omit hF in
theorem paramP_js {i : Nat} (hi : i < l.length) : Js (A + 1) l.length (i + 1) (paramP l i) (paramP l' i) := by
  unfold paramP
  exact Js.bind (nameP_js hE hA hi) (Nat.le_refl _) fun s j h1 h2 => Js.ok (Nat.le_refl _) h2
theorem paramsP_js {i : Nat} (hi : i < l.length) : Js (A + 1) l.length (i + 1) (paramsP l F i) (paramsP l' F' i) := by
  unfold paramsP
  rw [← hF.fuel]
  exact Js.bind (listP_js hE hA hi (by decide) (by decide) (fun i h => isName_ag hA h) fun j h => (paramP_js hE hA h).low) (Nat.le_refl _) fun ts j h1 h2 => Js.ok (Nat.le_refl _) h2
omit hE hA in
theorem argP_js {d i : Nat} (hi : i < l.length) : Js A l.length (i + 1) (argP l F d i) (argP l' F' d i) := deepP_js (hF.vl _ _ hi)
theorem propP_js {d i : Nat} (hi : i < l.length) : Js A l.length (i + 1) (propP l F d i) (propP l' F' d i) := by
  unfold propP
  refine Js.bind (nameP_js hE hA hi).low (Nat.le_refl _) fun s j h1 h2 => ?_
  refine Js.bind (mustP_js hE hA h2 (by decide)).low (by omega) fun _ j2 h3 h4 => ?_
  exact Js.bind (deepP_js (hF.vl _ _ h4)) (by omega) fun t j3 h5 h6 => Js.ok (Nat.le_refl _) h6
theorem inParP_js {d i : Nat} (hi : i < l.length) : Js (A + 1) l.length (i + 1) (inParP l F d i) (inParP l' F' d i) := by
  unfold inParP
  refine Js.bind (mustP_js hE hA hi (by decide)) (Nat.le_refl _) fun _ j2 h3 h4 => ?_
  refine Js.bindD 1 (deepP_js (hF.vl _ _ h4)) (by omega) fun t j3 h5 h6 => ?_
  exact Js.bind (mustP_js hE hA h6 (by decide)) (Nat.le_refl _) fun _ j4 h7 h8 => Js.ok (Nat.le_refl _) h8
theorem objectP_js {d i : Nat} (hi : i < l.length) : Js (A + 1) l.length (i + 1) (objectP l F d i) (objectP l' F' d i) := by
  unfold objectP
  rw [← hF.fuel]
  exact Js.bind (listP_js hE hA hi (by decide) (by decide) (fun i h => isName_ag hA h) fun j h => propP_js hE hA hF h) (Nat.le_refl _) fun ts j h1 h2 => Js.ok (Nat.le_refl _) h2
theorem funcTail_js {kd : Int} {s : ByteArray} {d i : Nat} (hi : i < l.length) : Js (A + 1) l.length (i + 1) (funcTail l F kd s d i) (funcTail l' F' kd s d i) := by
  unfold funcTail
  refine Js.bind (paramsP_js hE hA hF hi) (Nat.le_refl _) fun ps j h1 h2 => ?_
  exact Js.bind (blockP_js hE hA hF h2) (by omega) fun b j2 h3 h4 => Js.ok (Nat.le_refl _) h4
theorem lambdaP_js {d i : Nat} (hi : i < l.length) : Js (A + 1) l.length (i + 1) (lambdaP l F d i) (lambdaP l' F' d i) := by
  unfold lambdaP
  refine Js.bind (mustP_js hE hA hi (by decide)) (Nat.le_refl _) fun _ j h1 h2 => ?_
  refine Js.le (a := j + 1) (Js.ite (fun h => by rw [isName_ag hA (by omega)]) (fun _ => ?_) fun _ => ?_) (by omega)
  · exact Js.bind (nameP_js hE hA h2) (Nat.le_refl _) fun s j2 h3 h4 => (funcTail_js hE hA hF h4).le (by omega)
  · exact funcTail_js hE hA hF h2
theorem funcP_js {d i : Nat} (hi : i < l.length) : Js (A + 1) l.length (i + 1) (funcP l F d i) (funcP l' F' d i) := by
  unfold funcP
  refine Js.bind (mustP_js hE hA hi (by decide)) (Nat.le_refl _) fun _ j h1 h2 => ?_
  exact Js.bind (nameP_js hE hA h2) (by omega) fun s j2 h3 h4 => (funcTail_js hE hA hF h4).le (by omega)

variable {k : Nat} (hN : FNx l k F)
include hN

theorem aloneP_js {d i : Nat} (hi : i < l.length) : Js (A + 1) l.length (i + 1) (aloneP l F d i) (aloneP l' F' d i) := by
  by_cases h : i < A
  · have e1 := fx_ag hA h
    have e2 := hA i h
    unfold aloneP
    rw [← e1, ← e2]
    split
    · exact inParP_js hE hA hF hi
    · exact objectP_js hE hA hF hi
    · exact lambdaP_js hE hA hF hi
    · split
      · rename_i s hs
        exact Js.ok (Nat.le_refl _) (sgP_lt hE hi hs)
      · split
        · rename_i h; exact Js.ok (Nat.le_refl _) (next_lt hE hi (by rw [h]; decide))
        · split
          · rename_i h; exact Js.ok (Nat.le_refl _) (next_lt hE hi (by rw [h]; decide))
          · split
            · rename_i h; exact Js.ok (Nat.le_refl _) (next_lt hE hi (by rw [h]; decide))
            · exact Js.badF
  · have hp := aloneP_nx (q := False) (d := d) hE hN hi (fun h => h.elim)
    exact fun x j e => ⟨hp.2 x j e, fun hj => absurd (hp.2 x j e).1 (by omega)⟩

omit hN in
theorem askedLoop_js : ∀ n d t i, i < l.length → Js A l.length i (askedLoop l F d n t i) (askedLoop l' F' d n t i) := by
  intro n
  induction n with
  | zero => intro d acc i _; exact Js.out
  | succ n ih =>
    intro d t i hi
    unfold askedLoop
    rw [← hF.fuel]
    refine Js.ite (fun h => by rw [fx_ag hA h]) (fun hx => ?_) fun _ => Js.ite (fun h => by rw [fx_ag hA h]) (fun hx => ?_) fun _ => Js.ok (Nat.le_refl _) hi
    · have h0 := fx_lt hE hi hx (by decide)
      exact Js.bind (nameP_js hE hA h0).low (by omega) fun s j h1 h2 => ih d _ j h2
    · exact Js.bind (listP_js hE hA hi (by decide) (by decide) (fun i h => isVal_ag hA h) fun j h => argP_js hF h).low (by omega) fun ts j h1 h2 => ih d _ j h2

theorem askedP_js {d i : Nat} (hi : i < l.length) : Js A l.length (i + 1) (askedP l F d i) (askedP l' F' d i) := by
  unfold askedP
  rw [← hF.fuel]
  exact Js.bind (aloneP_js hE hA hF hN hi).low (Nat.le_refl _) fun t j h1 h2 => askedLoop_js hE hA hF F.fuel d t j h2

theorem singleP_js {d i : Nat} (hi : i < l.length) : Js A l.length (i + 1) (singleP l F d i) (singleP l' F' d i) := by
  by_cases h : i < A
  · unfold singleP
    rw [← fx_ag hA h]
    split
    · rename_i s hs
      have h0 := sgP_lt hE hi hs
      exact Js.bind (deepP_js (hF.sg _ _ h0)) (by omega) fun t j h1 h2 => Js.ok (Nat.le_refl _) h2
    · exact askedP_js hE hA hF hN hi
  · have hp := singleP_nx (d := d) hE hN hi
    exact fun x j e => ⟨hp.2 x j e, fun hj => absurd (hp.2 x j e).1 (by omega)⟩

theorem pairLoop_js : ∀ n b d t i, i < l.length → Js A l.length i (pairLoop l F b d n t i) (pairLoop l' F' b d n t i) := by
  intro n
  induction n with
  | zero => intro b d acc i _; exact Js.out
  | succ n ih =>
    intro b d t i hi
    by_cases h : i < A
    · unfold pairLoop
      rw [← fx_ag hA h]
      split
      · exact Js.ok (Nat.le_refl _) hi
      · rename_i s hs
        have h0 := sgP_lt hE hi hs
        split
        · exact Js.ok (Nat.le_refl _) hi
        · exact Js.bind (hF.pr _ _ _ h0) (by omega) fun u j h1 h2 => ih b d _ j h2
    · rcases Nat.eq_zero_or_pos i with h0 | h0
      · subst h0
        intro x j e
        by_cases hj : j < A
        · omega
        · refine ⟨⟨by omega, ?_⟩, fun hh => absurd hh hj⟩
          unfold pairLoop at e
          split at e
          · cases e; exact hi
          · rename_i s hs
            have h0 := sgP_lt hE hi hs
            split at e
            · cases e; exact hi
            · have := Js.bind (hF.pr (s.str + 1) d (0 + 1) h0) (b := 0) (by omega) fun u j h1 h2 => ih b d (.mk s.kd noText 0 [t, u]) j h2
              exact (this x j e).1.2
      · have hp := pairLoop_nx (q := False) (I := i - 1) hE hN (fun h => h.elim) (n + 1) b d t i (by omega) hi
        exact fun x j e => ⟨hp.2 x j e, fun hj => absurd (hp.2 x j e).1 (by omega)⟩

theorem pairP_js {b : Int} {d i : Nat} (hi : i < l.length) : Js A l.length (i + 1) (pairP l F b d i) (pairP l' F' b d i) := by
  unfold pairP
  rw [← hF.fuel]
  exact Js.bind (hF.sg _ _ hi) (Nat.le_refl _) fun t j h1 h2 => pairLoop_js hE hA hF hN F.fuel b d t j h2

omit hN in
theorem valueP_js {d i : Nat} (hi : i < l.length) : Js A l.length (i + 1) (valueP l F d i) (valueP l' F' d i) := by
  unfold valueP
  refine Js.bind (hF.pr _ _ _ hi) (Nat.le_refl _) fun t j h1 h2 => ?_
  refine Js.ite (fun h => by rw [fx_ag hA h]) (fun hx => ?_) fun _ => Js.ok (Nat.le_refl _) h2
  have h0 := fx_lt hE h2 hx (by decide)
  by_cases hk : t.kd = 23 ∨ t.kd = 36
  · rw [if_pos hk, if_pos hk]
    exact Js.bind (deepP_js (hF.vl _ _ h0)) (by omega) fun v j2 h3 h4 => Js.ok (Nat.le_refl _) h4
  · rw [if_neg hk]; exact Js.badF

omit hN in
theorem exprP_js {d i : Nat} (hi : i < l.length) : Js (A + 1) l.length (i + 1) (exprP l F d i) (exprP l' F' d i) := by
  unfold exprP
  refine Js.bindD 1 (deepP_js (hF.vl _ _ hi)) (by omega) fun v j h1 h2 => ?_
  exact Js.bind (mustP_js hE hA h2 (by decide)) (Nat.le_refl _) fun _ j2 h3 h4 => Js.ok (Nat.le_refl _) h4

omit hN in
theorem declP_js {d i : Nat} (hi : i + 1 < l.length) (hiA : i < A) : Js (A + 1) l.length (i + 1) (declP l F d i) (declP l' F' d i) := by
  unfold declP
  rw [← hA i hiA]
  refine Js.bind (nameP_js hE hA hi) (by omega) fun s j h1 h2 => ?_
  refine Js.le (a := j + 1) (Js.ite (fun h => by rw [fx_ag hA (by omega)]) (fun _ => Js.badF) fun _ => ?_) (by omega)
  refine Js.ite (fun h => by rw [fx_ag hA (by omega)]) (fun hx => ?_) fun _ => ?_
  · have h0 := fx_lt hE h2 hx (by decide)
    refine Js.bindD 1 (deepP_js (hF.vl _ _ h0)) (by omega) fun v j2 h3 h4 => ?_
    exact Js.bind (mustP_js hE hA h4 (by decide)) (Nat.le_refl _) fun _ j3 h5 h6 => Js.ok (Nat.le_refl _) h6
  · exact Js.bind (mustP_js hE hA h2 (by decide)) (Nat.le_refl _) fun _ j3 h5 h6 => Js.ok (Nat.le_refl _) h6

omit hN in
theorem behindP_js {d i : Nat} (hi : i + 1 < l.length) (hiA : i < A) : Js (A + 1) l.length (i + 1) (behindP l F d i) (behindP l' F' d i) := by
  unfold behindP
  rw [← hA i hiA]
  refine Js.bind (inParP_js hE hA hF hi) (by omega) fun v j h1 h2 => ?_
  exact Js.bind (deepP_js (hF.st _ _ h2)) (by omega) fun v j2 h3 h4 => Js.ok (Nat.le_refl _) h4

omit hN in
theorem choiceP_js (hS : Parts l l' A) {d i : Nat} (hi : i + 1 < l.length) (hiA : i < A) : Js (A + 1) l.length (i + 1) (choiceP l F d i) (choiceP l' F' d i) := by
  unfold choiceP
  rw [← hA i hiA]
  refine Js.bind (inParP_js hE hA hF hi) (by omega) fun v j h1 h2 => ?_
  refine Js.bind (deepP_js (hF.st _ _ h2)) (by omega) fun v j2 h3 h4 => ?_
  refine Js.ite (fun h => fx_parts hA hS h (Or.inl rfl)) (fun hx => ?_) fun _ => Js.ok (Nat.le_refl _) h4
  have h0 := fx_lt hE h4 hx (by decide)
  exact Js.bind (deepP_js (hF.st _ _ h0)) (by omega) fun v j3 h5 h6 => Js.ok (Nat.le_refl _) h6

omit hN in
theorem givingP_js {d i : Nat} (hi : i + 1 < l.length) (hiA : i < A) : Js (A + 1) l.length (i + 1) (givingP l F d i) (givingP l' F' d i) := by
  unfold givingP
  rw [← hA i hiA]
  refine Js.le (a := i + 2) (Js.ite (fun h => by rw [fx_ag hA (by omega)]) (fun _ => ?_) fun _ => ?_) (by omega)
  · refine Js.bindD 1 (deepP_js (hF.vl _ _ hi)) (by omega) fun v j h1 h2 => ?_
    exact Js.bind (mustP_js hE hA h2 (by decide)) (Nat.le_refl _) fun _ j2 h3 h4 => Js.ok (Nat.le_refl _) h4
  · exact Js.bind (mustP_js hE hA hi (by decide)) (Nat.le_refl _) fun _ j2 h3 h4 => Js.ok (Nat.le_refl _) h4

omit hN in
theorem catchP_js (hS : Parts l l' A) {d i : Nat} (hi : i < l.length) : Js (A + 1) l.length i (catchP l F d i) (catchP l' F' d i) := by
  unfold catchP
  refine Js.ite (fun h => fx_parts hA hS h (Or.inr (Or.inl rfl))) (fun hx => ?_) fun _ => Js.ok (Nat.le_refl _) hi
  have h0 := fx_lt hE hi hx (by decide)
  refine Js.bind (mustP_js hE hA h0 (by decide)) (by omega) fun _ j1 h1 h2 => ?_
  refine Js.bind (nameP_js hE hA h2) (by omega) fun _ j2 h3 h4 => ?_
  refine Js.bind (mustP_js hE hA h4 (by decide)) (by omega) fun _ j3 h5 h6 => ?_
  exact Js.bind (blockP_js hE hA hF h6) (by omega) fun b j4 h7 h8 => Js.ok (Nat.le_refl _) h8
omit hN in
theorem finallyP_js (hS : Parts l l' A) {d i : Nat} (hi : i < l.length) : Js (A + 1) l.length i (finallyP l F d i) (finallyP l' F' d i) := by
  unfold finallyP
  refine Js.ite (fun h => fx_parts hA hS h (Or.inr (Or.inr rfl))) (fun hx => ?_) fun _ => Js.ok (Nat.le_refl _) hi
  have h0 := fx_lt hE hi hx (by decide)
  exact Js.bind (blockP_js hE hA hF h0) (by omega) fun b j4 h7 h8 => Js.ok (Nat.le_refl _) h8
omit hN in
theorem attemptP_js (hS : Parts l l' A) {d i : Nat} (hi : i < l.length) : Js (A + 1) l.length (i + 1) (attemptP l F d i) (attemptP l' F' d i) := by
  unfold attemptP
  refine Js.bind (mustP_js hE hA hi (by decide)) (Nat.le_refl _) fun _ j0 h h0 => ?_
  refine Js.bind (blockP_js hE hA hF h0) (by omega) fun b j1 h1 h2 => ?_
  refine Js.bind (catchP_js hE hA hF hS h2) (by omega) fun c j2 h3 h4 => ?_
  refine Js.bind (finallyP_js hE hA hF hS h4) (by omega) fun f j3 h5 h6 => ?_
  by_cases hk : c.length + f.length = 0
  · rw [if_pos hk]; exact Js.badF
  · rw [if_neg hk, if_neg hk]; exact Js.ok (Nat.le_refl _) h6

omit hN in
theorem partP_js (hS : Parts l l' A) {d i c : Nat} (hi : i + 1 < l.length) (hiA : i < A) : Js (A + 1) l.length (i + 1) (partP l F d c i) (partP l' F' d c i) := by
  unfold partP
  split
  · exact declP_js hE hA hF hi hiA
  · exact funcP_js hE hA hF (by omega)
  · exact blockP_js hE hA hF (by omega)
  · exact Js.bind (mustP_js hE hA (by omega) (by decide)) (Nat.le_refl _) fun _ j h1 h2 => Js.ok (Nat.le_refl _) h2
  · exact choiceP_js hE hA hF hS hi hiA
  · exact behindP_js hE hA hF hi hiA
  · exact givingP_js hE hA hF hi hiA
  · exact attemptP_js hE hA hF hS (by omega)

theorem statementP_js (hS : Parts l l' A) {d i : Nat} (hi : i < l.length) : Js (A + 1) l.length (i + 1) (statementP l F d i) (statementP l' F' d i) := by
  by_cases h : i < A
  · unfold statementP
    rw [← fx_ag hA h]
    split
    · rename_i c hc
      exact partP_js hE hA hF hS (look2_lt hE hi hc (by decide)) h
    · exact exprP_js hE hA hF hi
  · have hp := statementP_nx (d := d) hE hN hi
    exact fun x j e => ⟨hp.2 x j e, fun hj => absurd (hp.2 x j e).1 (by omega)⟩

omit hF hN in
theorem fns_js (hS : Parts l l' A) : ∀ k, FJs l A (fns l k) (fns l' k) := by
  intro k
  induction k with
  | zero => exact ⟨rfl, fun _ _ _ => Js.out, fun _ _ _ => Js.out, fun _ _ _ _ => Js.out, fun _ _ _ => Js.out⟩
  | succ k ih => exact ⟨rfl, fun _ _ hi => statementP_js hE hA ih (fns_nx hE k) hS hi, fun _ _ hi => valueP_js hE hA ih hi, fun _ _ _ hi => pairP_js hE hA ih (fns_nx hE k) hi, fun _ _ hi => singleP_js hE hA ih (fns_nx hE k) hi⟩
end
end Go.Proofs.YtoimgcjbcbhclaaGreatDoor
namespace Go.Proofs.YtoimgcjbcbhclaaGreatDoor

def Sh {α : Type} (A : Nat) (r r' : PR α) : Prop := ∀ x j, r = .ok x j → r' = .ok x (A + j)

theorem Sh.ok {α : Type} {A i : Nat} {x : α} : Sh A (.ok x i) (.ok x (A + i)) := fun _ _ h => by cases h; rfl
theorem Sh.bad {α : Type} {A : Nat} {er : Int} {p : Nat} {r : PR α} : Sh A (.bad er p) r := fun _ _ h => by cases h
theorem Sh.out {α : Type} {A : Nat} {r : PR α} : Sh A .out r := fun _ _ h => by cases h
theorem Sh.badF {α : Type} {A : Nat} {l : List Tk} {er : Int} {i : Nat} {r : PR α} : Sh A (badF l er i) r := Sh.bad
theorem Sh.bind {α β : Type} {A : Nat} {r r' : PR α} {f f' : α → Nat → PR β} (h : Sh A r r') (hf : ∀ x i, Sh A (f x i) (f' x (A + i))) : Sh A (r.bind f) (r'.bind f') := by
  intro y j e
  cases r with
  | ok x i => rw [h x i rfl]; exact hf x i y j e
  | bad er p => cases e
  | out => cases e
theorem Sh.ite {α : Type} {A : Nat} {c c' : Prop} [Decidable c] [Decidable c'] {X Y X' Y' : PR α} (hc : c ↔ c') (h1 : Sh A X X') (h2 : Sh A Y Y') :
    Sh A (if c then X else Y) (if c' then X' else Y') := by
  by_cases h : c
  · rw [if_pos h, if_pos (hc.1 h)]; exact h1
  · rw [if_neg h, if_neg (fun hh => h (hc.2 hh))]; exact h2

/-- The second list is, behind the place, as the first, but for where the tokens stand. -/
structure Shifts (l l' : List Tk) (A : Nat) : Prop where
  kd : ∀ i, (tkA l' (A + i)).kd = (tkA l i).kd
  tx : ∀ i, (tkA l' (A + i)).tx = (tkA l i).tx
  n : ∀ i, (tkA l' (A + i)).n = (tkA l i).n

section
variable {l l' : List Tk} {A : Nat} (hA : Shifts l l' A)
include hA

theorem fx_sh {i : Nat} : fx l' (A + i) = fx l i := by unfold fx; rw [hA.kd, hA.tx]
theorem mustP_sh {s : ByteArray} {i : Nat} : Sh A (mustP l s i) (mustP l' s (A + i)) := by
  unfold mustP
  exact Sh.ite (by rw [fx_sh hA]) Sh.ok Sh.badF
theorem nameP_sh {i : Nat} : Sh A (nameP l i) (nameP l' (A + i)) := by
  unfold nameP
  rw [hA.tx]
  exact Sh.ite (by rw [hA.kd]) Sh.ok Sh.badF
omit hA in
theorem deepP_sh {f f' : Nat → Nat → PR Tr} {d i : Nat} (h : Sh A (f (d + 1) i) (f' (d + 1) (A + i))) : Sh A (deepP l f d i) (deepP l' f' d (A + i)) := by
  unfold deepP
  exact Sh.ite Iff.rfl Sh.badF h
theorem listLoop_sh {shut : ByteArray} {begins begins' : Nat → Bool} {part part' : Nat → PR Tr} (hb : ∀ i, begins' (A + i) = begins i) (hp : ∀ i, Sh A (part i) (part' (A + i))) :
    ∀ k acc i, Sh A (listLoop l shut begins part k acc i) (listLoop l' shut begins' part' k acc (A + i)) := by
  intro k
  induction k with
  | zero => intro acc i; exact Sh.out
  | succ k ih =>
    intro acc i
    unfold listLoop
    refine Sh.ite (by rw [hb]) Sh.badF (Sh.bind (hp i) fun t j => Sh.ite (by rw [fx_sh hA]) Sh.ok ?_)
    exact Sh.bind (mustP_sh hA) fun _ j2 => ih _ j2
theorem listP_sh {opn shut : ByteArray} {begins begins' : Nat → Bool} {part part' : Nat → PR Tr} {k i : Nat} (hb : ∀ i, begins' (A + i) = begins i) (hp : ∀ i, Sh A (part i) (part' (A + i))) :
    Sh A (listP l opn shut begins part k i) (listP l' opn shut begins' part' k (A + i)) := by
  unfold listP
  exact Sh.bind (mustP_sh hA) fun _ j => Sh.ite (by rw [fx_sh hA]) Sh.ok (listLoop_sh hA hb hp k [] j)
theorem isName_sh {i : Nat} : isName l' (A + i) = isName l i := by unfold isName; rw [hA.kd]
theorem isVal_sh {i : Nat} : isVal l' (A + i) = isVal l i := by unfold isVal; rw [fx_sh hA, hA.kd]

structure FSh (A : Nat) (F F' : Fns) : Prop where
  fuel : F'.fuel = F.fuel
  st : ∀ d i, Sh A (F.st d i) (F'.st d (A + i))
  vl : ∀ d i, Sh A (F.vl d i) (F'.vl d (A + i))
  pr : ∀ b d i, Sh A (F.pr b d i) (F'.pr b d (A + i))
  sg : ∀ d i, Sh A (F.sg d i) (F'.sg d (A + i))

variable {F F' : Fns} (hF : FSh A F F')
include hF

theorem blockLoop_sh : ∀ n d acc i, Sh A (blockLoop l F d n acc i) (blockLoop l' F' d n acc (A + i)) := by
  intro n
  induction n with
  | zero => intro d acc i; exact Sh.out
  | succ n ih =>
    intro d acc i
    unfold blockLoop
    exact Sh.ite (by rw [fx_sh hA]) Sh.ok (Sh.bind (deepP_sh (hF.st _ _)) fun t j => ih d _ j)
theorem blockP_sh {d i : Nat} : Sh A (blockP l F d i) (blockP l' F' d (A + i)) := by
  unfold blockP
  rw [hF.fuel]
  exact Sh.bind (mustP_sh hA) fun _ j => Sh.bind (blockLoop_sh hA hF _ _ _ _) fun _ _ => Sh.ok
omit hF in
theorem paramP_sh {i : Nat} : Sh A (paramP l i) (paramP l' (A + i)) := by
  unfold paramP
  exact Sh.bind (nameP_sh hA) fun _ _ => Sh.ok
theorem paramsP_sh {i : Nat} : Sh A (paramsP l F i) (paramsP l' F' (A + i)) := by
  unfold paramsP
  rw [hF.fuel]
  exact Sh.bind (listP_sh hA (fun _ => isName_sh hA) fun _ => paramP_sh hA) fun _ _ => Sh.ok
omit hA in
theorem argP_sh {d i : Nat} : Sh A (argP l F d i) (argP l' F' d (A + i)) := deepP_sh (hF.vl _ _)
theorem propP_sh {d i : Nat} : Sh A (propP l F d i) (propP l' F' d (A + i)) := by
  unfold propP
  exact Sh.bind (nameP_sh hA) fun _ _ => Sh.bind (mustP_sh hA) fun _ _ => Sh.bind (deepP_sh (hF.vl _ _)) fun _ _ => Sh.ok
theorem inParP_sh {d i : Nat} : Sh A (inParP l F d i) (inParP l' F' d (A + i)) := by
  unfold inParP
  exact Sh.bind (mustP_sh hA) fun _ _ => Sh.bind (deepP_sh (hF.vl _ _)) fun _ _ => Sh.bind (mustP_sh hA) fun _ _ => Sh.ok
theorem objectP_sh {d i : Nat} : Sh A (objectP l F d i) (objectP l' F' d (A + i)) := by
  unfold objectP
  rw [hF.fuel]
  exact Sh.bind (listP_sh hA (fun _ => isName_sh hA) fun _ => propP_sh hA hF) fun _ _ => Sh.ok
theorem funcTail_sh {kd : Int} {s : ByteArray} {d i : Nat} : Sh A (funcTail l F kd s d i) (funcTail l' F' kd s d (A + i)) := by
  unfold funcTail
  exact Sh.bind (paramsP_sh hA hF) fun _ _ => Sh.bind (blockP_sh hA hF) fun _ _ => Sh.ok
theorem lambdaP_sh {d i : Nat} : Sh A (lambdaP l F d i) (lambdaP l' F' d (A + i)) := by
  unfold lambdaP
  exact Sh.bind (mustP_sh hA) fun _ _ => Sh.ite (by rw [isName_sh hA]) (Sh.bind (nameP_sh hA) fun _ _ => funcTail_sh hA hF) (funcTail_sh hA hF)
theorem funcP_sh {d i : Nat} : Sh A (funcP l F d i) (funcP l' F' d (A + i)) := by
  unfold funcP
  exact Sh.bind (mustP_sh hA) fun _ _ => Sh.bind (nameP_sh hA) fun _ _ => funcTail_sh hA hF
theorem aloneP_sh {d i : Nat} : Sh A (aloneP l F d i) (aloneP l' F' d (A + i)) := by
  unfold aloneP
  rw [fx_sh hA, hA.kd, hA.tx, hA.n]
  split
  · exact inParP_sh hA hF
  · exact objectP_sh hA hF
  · exact lambdaP_sh hA hF
  · split
    · exact Sh.ok
    · exact Sh.ite Iff.rfl Sh.ok (Sh.ite Iff.rfl Sh.ok (Sh.ite Iff.rfl Sh.ok Sh.badF))
theorem askedLoop_sh : ∀ n d t i, Sh A (askedLoop l F d n t i) (askedLoop l' F' d n t (A + i)) := by
  intro n
  induction n with
  | zero => intro d acc i; exact Sh.out
  | succ n ih =>
    intro d t i
    unfold askedLoop
    rw [hF.fuel]
    refine Sh.ite (by rw [fx_sh hA]) (Sh.bind (nameP_sh hA (i := i + 1)) fun _ _ => ih _ _ _) (Sh.ite (by rw [fx_sh hA]) ?_ Sh.ok)
    exact Sh.bind (listP_sh hA (fun _ => isVal_sh hA) fun _ => argP_sh hF) fun _ _ => ih _ _ _
theorem askedP_sh {d i : Nat} : Sh A (askedP l F d i) (askedP l' F' d (A + i)) := by
  unfold askedP
  rw [hF.fuel]
  exact Sh.bind (aloneP_sh hA hF) fun _ _ => askedLoop_sh hA hF _ _ _ _
theorem singleP_sh {d i : Nat} : Sh A (singleP l F d i) (singleP l' F' d (A + i)) := by
  unfold singleP
  rw [fx_sh hA]
  split
  · exact Sh.bind (deepP_sh (i := i + 1) (hF.sg _ _)) fun _ _ => Sh.ok
  · exact askedP_sh hA hF
theorem pairLoop_sh : ∀ n b d t i, Sh A (pairLoop l F b d n t i) (pairLoop l' F' b d n t (A + i)) := by
  intro n
  induction n with
  | zero => intro b d acc i; exact Sh.out
  | succ n ih =>
    intro b d t i
    unfold pairLoop
    rw [fx_sh hA]
    split
    · exact Sh.ok
    · exact Sh.ite Iff.rfl Sh.ok (Sh.bind (hF.pr _ _ (i + 1)) fun _ _ => ih _ _ _ _)
theorem pairP_sh {b : Int} {d i : Nat} : Sh A (pairP l F b d i) (pairP l' F' b d (A + i)) := by
  unfold pairP
  rw [hF.fuel]
  exact Sh.bind (hF.sg _ _) fun _ _ => pairLoop_sh hA hF _ _ _ _ _
theorem valueP_sh {d i : Nat} : Sh A (valueP l F d i) (valueP l' F' d (A + i)) := by
  unfold valueP
  exact Sh.bind (hF.pr _ _ _) fun _ j => Sh.ite (by rw [fx_sh hA]) (Sh.ite Iff.rfl (Sh.bind (deepP_sh (i := j + 1) (hF.vl _ _)) fun _ _ => Sh.ok) Sh.badF) Sh.ok
theorem exprP_sh {d i : Nat} : Sh A (exprP l F d i) (exprP l' F' d (A + i)) := by
  unfold exprP
  exact Sh.bind (deepP_sh (hF.vl _ _)) fun _ _ => Sh.bind (mustP_sh hA) fun _ _ => Sh.ok
theorem declP_sh {d i : Nat} : Sh A (declP l F d i) (declP l' F' d (A + i)) := by
  unfold declP
  rw [hA.tx]
  refine Sh.bind (nameP_sh hA (i := i + 1)) fun _ j => Sh.ite (by rw [fx_sh hA]) Sh.badF (Sh.ite (by rw [fx_sh hA]) ?_ ?_)
  · exact Sh.bind (deepP_sh (i := j + 1) (hF.vl _ _)) fun _ _ => Sh.bind (mustP_sh hA) fun _ _ => Sh.ok
  · exact Sh.bind (mustP_sh hA) fun _ _ => Sh.ok
theorem behindP_sh {d i : Nat} : Sh A (behindP l F d i) (behindP l' F' d (A + i)) := by
  unfold behindP
  rw [hA.tx]
  exact Sh.bind (inParP_sh hA hF (i := i + 1)) fun _ _ => Sh.bind (deepP_sh (hF.st _ _)) fun _ _ => Sh.ok
theorem choiceP_sh {d i : Nat} : Sh A (choiceP l F d i) (choiceP l' F' d (A + i)) := by
  unfold choiceP
  rw [hA.tx]
  exact Sh.bind (inParP_sh hA hF (i := i + 1)) fun _ _ => Sh.bind (deepP_sh (hF.st _ _)) fun _ j => Sh.ite (by rw [fx_sh hA]) (Sh.bind (deepP_sh (i := j + 1) (hF.st _ _)) fun _ _ => Sh.ok) Sh.ok
theorem givingP_sh {d i : Nat} : Sh A (givingP l F d i) (givingP l' F' d (A + i)) := by
  unfold givingP
  rw [hA.tx]
  refine Sh.ite (by rw [show A + i + 1 = A + (i + 1) from rfl, fx_sh hA]) ?_ ?_
  · exact Sh.bind (deepP_sh (i := i + 1) (hF.vl _ _)) fun _ _ => Sh.bind (mustP_sh hA) fun _ _ => Sh.ok
  · exact Sh.bind (mustP_sh hA (i := i + 1)) fun _ _ => Sh.ok
theorem catchP_sh {d i : Nat} : Sh A (catchP l F d i) (catchP l' F' d (A + i)) := by
  unfold catchP
  exact Sh.ite (by rw [fx_sh hA]) (Sh.bind (mustP_sh hA (i := i + 1)) fun _ _ => Sh.bind (nameP_sh hA) fun _ _ => Sh.bind (mustP_sh hA) fun _ _ => Sh.bind (blockP_sh hA hF) fun _ _ => Sh.ok) Sh.ok
theorem finallyP_sh {d i : Nat} : Sh A (finallyP l F d i) (finallyP l' F' d (A + i)) := by
  unfold finallyP
  exact Sh.ite (by rw [fx_sh hA]) (Sh.bind (blockP_sh hA hF (i := i + 1)) fun _ _ => Sh.ok) Sh.ok
theorem attemptP_sh {d i : Nat} : Sh A (attemptP l F d i) (attemptP l' F' d (A + i)) := by
  unfold attemptP
  exact Sh.bind (mustP_sh hA) fun _ _ => Sh.bind (blockP_sh hA hF) fun _ _ => Sh.bind (catchP_sh hA hF) fun _ _ => Sh.bind (finallyP_sh hA hF) fun _ _ => Sh.ite Iff.rfl Sh.badF Sh.ok
theorem partP_sh {d i c : Nat} : Sh A (partP l F d c i) (partP l' F' d c (A + i)) := by
  unfold partP
  split
  · exact declP_sh hA hF
  · exact funcP_sh hA hF
  · exact blockP_sh hA hF
  · exact Sh.bind (mustP_sh hA) fun _ _ => Sh.ok
  · exact choiceP_sh hA hF
  · exact behindP_sh hA hF
  · exact givingP_sh hA hF
  · exact attemptP_sh hA hF
theorem statementP_sh {d i : Nat} : Sh A (statementP l F d i) (statementP l' F' d (A + i)) := by
  unfold statementP
  rw [fx_sh hA]
  split
  · exact partP_sh hA hF
  · exact exprP_sh hA hF
omit hF in
theorem fns_sh : ∀ k, FSh A (fns l k) (fns l' k) := by
  intro k
  induction k with
  | zero => exact ⟨rfl, fun _ _ => Sh.out, fun _ _ => Sh.out, fun _ _ _ => Sh.out, fun _ _ => Sh.out⟩
  | succ k ih => exact ⟨rfl, fun _ _ => statementP_sh hA ih, fun _ _ => valueP_sh hA ih, fun _ _ _ => pairP_sh hA ih, fun _ _ => singleP_sh hA ih⟩
end
end Go.Proofs.YtoimgcjbcbhclaaGreatDoor
