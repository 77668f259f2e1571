/-
  A program's nodes have the parts that their kinds need.
-/
import Derived.Test.YtodmgaikhbmlnaaGreatDoorEm26
namespace Go.Proofs.YtodmgaikhbmlnaaGreatDoor

def need (kd : Int) : Nat := if kd = 5 ∨ kd = 37 then 2 else if kd = 13 ∨ kd = 24 ∨ kd = 34 ∨ kd = 35 then 1 else 0
def ar (kd : Int) (n : Nat) : Nat := if need kd ≤ n then 0 else 1
mutual
def Tr.ill : Tr → Nat
  | .mk kd _ _ ks => ar kd ks.length + Tr.ills ks
def Tr.ills : List Tr → Nat
  | [] => 0
  | t :: ts => t.ill + Tr.ills ts
end
theorem ill_mk (kd : Int) (tx : ByteArray) (n : Int) (ks : List Tr) : (Tr.mk kd tx n ks).ill = ar kd ks.length + Tr.ills ks := by rw [Tr.ill]
theorem need_two (kd : Int) : need kd ≤ 2 := by
  unfold need
  split
  · omega
  · split <;> omega
theorem ar_two (kd : Int) (n : Nat) (h : 2 ≤ n) : ar kd n = 0 := by
  unfold ar
  rw [if_pos (Nat.le_trans (need_two kd) h)]
theorem ar_small {kd : Int} (h : need kd = 0) (n : Nat) : ar kd n = 0 := by unfold ar; rw [h, if_pos (Nat.zero_le _)]
theorem ills_nil : Tr.ills [] = 0 := by rw [Tr.ills]
theorem ills_cons (t : Tr) (ts : List Tr) : Tr.ills (t :: ts) = t.ill + Tr.ills ts := by rw [Tr.ills]
theorem ills_app : ∀ (ts us : List Tr), Tr.ills (ts ++ us) = Tr.ills ts + Tr.ills us
  | [], us => by rw [List.nil_append, ills_nil, Nat.zero_add]
  | t :: ts, us => by rw [List.cons_append, ills_cons, ills_cons, ills_app ts us, Nat.add_assoc]
theorem code_ill (t : Tr) : (codeT t).ill = t.ill := by
  unfold codeT
  split
  · rw [ill_mk, ill_mk]
  · rfl
theorem sgP_ar {k : Int} {x : ByteArray} {s : Sg} (h : sgP k x = some s) : s ∈ sgs ∧ s.parts = k := by
  unfold sgP at h
  have h1 := Option.filter_eq_some_iff.1 h
  exact ⟨List.mem_of_find?_eq_some h1.1, by simpa using h1.2⟩
theorem sgP_ar0 {x : ByteArray} {s : Sg} (h : sgP 0 x = some s) : ar s.kd 0 = 0 := by
  have h1 := sgP_ar h
  have h2 : ∀ s ∈ sgs, s.parts = 0 → ar s.kd 0 = 0 := by decide +kernel
  exact h2 s h1.1 h1.2
theorem sgP_ar1 {x : ByteArray} {s : Sg} (h : sgP 1 x = some s) : ar s.kd 1 = 0 := by
  have h1 := sgP_ar h
  have h2 : ∀ s ∈ sgs, s.parts = 1 → ar s.kd 1 = 0 := by decide +kernel
  exact h2 s h1.1 h1.2
theorem hd_kw (x : ByteArray) (n : Nat) : ar (hdKind x) n = 0 := by
  refine ar_small ?_ n
  unfold hdKind look2
  cases h : hds.find? (fun e => decide (x = e.1)) with
  | none => decide
  | some e =>
    have h1 := List.mem_of_find?_eq_some h
    have h2 : ∀ e ∈ hds, need e.2 = 0 := by decide +kernel
    exact h2 e h1

section
variable {l : List Tk}
def Kw (_ : Nat) (r : PR Tr) : Prop := ∀ t j, r = .ok t j → t.ill ≤ 0
def Kws (_ : Nat) (r : PR (List Tr)) : Prop := ∀ t j, r = .ok t j → Tr.ills t ≤ 0
theorem deep_kw {f : Nat → Nat → PR Tr} {d i : Nat} (h : Kw i (f (d + 1) i)) : Kw i (deepP l f d i) := by
  unfold deepP
  split
  · intro t j e; cases e
  · exact h
theorem listLoop_kw {shut : ByteArray} {begins : Nat → Bool} {part : Nat → PR Tr} (hp : ∀ i, Kw i (part i)) : ∀ k acc i t j, listLoop l shut begins part k acc i = .ok t j → Tr.ills t ≤ Tr.ills acc := by
  intro k
  induction k with
  | zero => intro acc i t j h; cases h
  | succ k ih =>
    intro acc i t j h
    unfold listLoop at h
    split at h
    · cases h
    · obtain ⟨u, i1, h1, h⟩ := binds h
      have := hp i u i1 h1
      split at h
      · cases h
        rw [ills_app, ills_cons, ills_nil]; first | omega | (simp [ar, need] <;> omega) | (simp [ar, need] at * <;> omega)
      · obtain ⟨_, i2, h2, h⟩ := binds h
        have h3 := must_eq h2
        have h4 := ih _ _ _ _ h
        rw [ills_app, ills_cons, ills_nil] at h4
        first | omega | (simp [ar, need] <;> omega) | (simp [ar, need] at * <;> omega)
theorem list_kw {opn shut : ByteArray} {begins : Nat → Bool} {part : Nat → PR Tr} (hp : ∀ i, Kw i (part i)) {k i j : Nat} {t : List Tr} (h : listP l opn shut begins part k i = .ok t j) : Tr.ills t ≤ 0 := by
  unfold listP at h
  obtain ⟨_, i1, h1, h⟩ := binds h
  have h2 := must_eq h1
  split at h
  · cases h
    rw [ills_nil]; first | omega | (simp [ar, need] <;> omega) | (simp [ar, need] at * <;> omega)
  · have := listLoop_kw hp _ _ _ _ _ h
    rw [ills_nil] at this
    first | omega | (simp [ar, need] <;> omega) | (simp [ar, need] at * <;> omega)
structure FKw (F : Fns) : Prop where
  st : ∀ d i, Kw i (F.st d i)
  vl : ∀ d i, Kw i (F.vl d i)
  pr : ∀ b d i, Kw i (F.pr b d i)
  sg : ∀ d i, Kw i (F.sg d i)
variable {F : Fns} (hF : FKw F)
include hF
theorem blockLoop_kw {d : Nat} : ∀ k acc i t j, blockLoop l F d k acc i = .ok t j → Tr.ills t ≤ Tr.ills acc := by
  intro k
  induction k with
  | zero => intro acc i t j h; cases h
  | succ k ih =>
    intro acc i t j h
    unfold blockLoop at h
    split at h
    · cases h; first | omega | (simp [ar, need] <;> omega) | (simp [ar, need] at * <;> omega)
    · obtain ⟨u, i1, h1, h⟩ := binds h
      have h2 := deep_kw (l := l) (hF.st _ _) u i1 h1
      have h4 := ih _ _ _ _ h
      rw [ills_app, ills_cons, ills_nil] at h4
      first | omega | (simp [ar, need] <;> omega) | (simp [ar, need] at * <;> omega)
theorem block_kw {d i j : Nat} {t : Tr} (h : blockP l F d i = .ok t j) : t.ill ≤ 0 := by
  unfold blockP at h
  obtain ⟨_, i1, h1, h⟩ := binds h
  obtain ⟨ts, i2, h2, h⟩ := binds h
  cases h
  have h3 := must_eq h1
  have h4 := blockLoop_kw hF _ _ _ _ _ h2
  rw [ills_nil] at h4
  rw [ill_mk]; first | omega | (simp [ar, need] <;> omega) | (simp [ar, need] at * <;> omega)
omit hF in
theorem param_kw (i : Nat) : Kw i (paramP l i) := by
  intro t j h
  unfold paramP at h
  obtain ⟨_, i1, h1, h⟩ := binds h
  cases h
  have := name_eq h1
  rw [ill_mk, ills_nil]; first | omega | (simp [ar, need] <;> omega) | (simp [ar, need] at * <;> omega)
omit hF in
theorem params_kw {i j : Nat} {t : Tr} (h : paramsP l F i = .ok t j) : t.ill ≤ 0 := by
  unfold paramsP at h
  obtain ⟨ts, i1, h1, h⟩ := binds h
  cases h
  have := list_kw param_kw h1
  rw [ill_mk]; first | omega | (simp [ar, need] <;> omega) | (simp [ar, need] at * <;> omega)
theorem arg_kw (d i : Nat) : Kw i (argP l F d i) := deep_kw (hF.vl _ _)
theorem prop_kw (d i : Nat) : Kw i (propP l F d i) := by
  intro t j h
  unfold propP at h
  obtain ⟨_, i1, h1, h⟩ := binds h
  obtain ⟨_, i2, h2, h⟩ := binds h
  obtain ⟨u, i3, h3, h⟩ := binds h
  cases h
  have e1 := name_eq h1
  have e2 := must_eq h2
  have e3 := deep_kw (l := l) (hF.vl _ _) u _ h3
  rw [ill_mk, ills_cons, ills_nil]; first | omega | (simp [ar, need] <;> omega) | (simp [ar, need] at * <;> omega)
theorem inPar_kw (d i : Nat) : Kw i (inParP l F d i) := by
  intro t j h
  unfold inParP at h
  obtain ⟨_, i1, h1, h⟩ := binds h
  obtain ⟨u, i2, h2, h⟩ := binds h
  obtain ⟨_, i3, h3, h⟩ := binds h
  cases h
  have e1 := must_eq h1
  have e2 := deep_kw (l := l) (hF.vl _ _) _ _ h2
  have e3 := must_eq h3
  first | omega | (simp [ar, need] <;> omega) | (simp [ar, need] at * <;> omega)
theorem object_kw (d i : Nat) : Kw i (objectP l F d i) := by
  intro t j h
  unfold objectP at h
  obtain ⟨ts, i1, h1, h⟩ := binds h
  cases h
  have := list_kw (prop_kw hF d) h1
  rw [ill_mk]; first | omega | (simp [ar, need] <;> omega) | (simp [ar, need] at * <;> omega)
theorem tail_kw {kd : Int} {s : ByteArray} {d i j : Nat} {t : Tr} (h : funcTail l F kd s d i = .ok t j) : t.ill ≤ 0 := by
  unfold funcTail at h
  obtain ⟨ps, i1, h1, h⟩ := binds h
  obtain ⟨b, i2, h2, h⟩ := binds h
  cases h
  have e1 := params_kw h1
  have e2 := block_kw hF h2
  rw [ill_mk, ills_cons, ills_cons, ills_nil, code_ill, ar_two _ _ (by simp)]; omega
theorem lambda_kw (d i : Nat) : Kw i (lambdaP l F d i) := by
  intro t j h
  unfold lambdaP at h
  obtain ⟨_, i1, h1, h⟩ := binds h
  have e1 := must_eq h1
  split at h
  · obtain ⟨_, i2, h2, h⟩ := binds h
    have e2 := name_eq h2
    have := tail_kw hF h
    first | omega | (simp [ar, need] <;> omega) | (simp [ar, need] at * <;> omega)
  · have := tail_kw hF h
    first | omega | (simp [ar, need] <;> omega) | (simp [ar, need] at * <;> omega)
theorem func_kw (d i : Nat) : Kw i (funcP l F d i) := by
  intro t j h
  unfold funcP at h
  obtain ⟨_, i1, h1, h⟩ := binds h
  obtain ⟨_, i2, h2, h⟩ := binds h
  have e1 := must_eq h1
  have e2 := name_eq h2
  have := tail_kw hF h
  first | omega | (simp [ar, need] <;> omega) | (simp [ar, need] at * <;> omega)
theorem alone_kw (d i : Nat) : Kw i (aloneP l F d i) := by
  unfold aloneP
  split
  · exact inPar_kw hF d i
  · exact object_kw hF d i
  · exact lambda_kw hF d i
  · split
    · rename_i hsg; intro t j h; cases h; have h0 := sgP_ar0 hsg; rw [ill_mk, ills_nil]; show ar _ 0 + 0 ≤ 0; omega
    · split
      · intro t j h; cases h; rw [ill_mk, ills_nil]; first | omega | (simp [ar, need] <;> omega) | (simp [ar, need] at * <;> omega)
      · split
        · intro t j h; cases h; rw [ill_mk, ills_nil]; first | omega | (simp [ar, need] <;> omega) | (simp [ar, need] at * <;> omega)
        · split
          · intro t j h; cases h; rw [ill_mk, ills_nil]; first | omega | (simp [ar, need] <;> omega) | (simp [ar, need] at * <;> omega)
          · intro t j h; cases h
theorem askedLoop_kw {d : Nat} : ∀ k u i t j, askedLoop l F d k u i = .ok t j → t.ill ≤ u.ill := by
  intro k
  induction k with
  | zero => intro u i t j h; cases h
  | succ k ih =>
    intro u i t j h
    unfold askedLoop at h
    split at h
    · obtain ⟨s, i1, h1, h⟩ := binds h
      have e1 := name_eq h1
      have e2 := ih _ _ _ _ h
      rw [ill_mk, ills_cons, ills_nil] at e2
      have hk36 : ∀ n, ar 36 n = 0 := ar_small (by decide); rw [hk36] at e2
      omega
    · split at h
      · obtain ⟨ts, i1, h1, h⟩ := binds h
        have e1 := list_kw (arg_kw hF d) h1
        have e2 := ih _ _ _ _ h
        rw [ill_mk, ills_cons] at e2
        have hk35 : ∀ n, ar 35 (n + 1) = 0 := (fun n => by simp [ar, need]); rw [List.length_cons, hk35] at e2
        omega
      · cases h; first | omega | (simp [ar, need] <;> omega) | (simp [ar, need] at * <;> omega)
theorem asked_kw (d i : Nat) : Kw i (askedP l F d i) := by
  intro t j h
  unfold askedP at h
  obtain ⟨u, i1, h1, h⟩ := binds h
  have e1 := alone_kw hF d i u i1 h1
  have e2 := askedLoop_kw hF _ _ _ _ _ h
  first | omega | (simp [ar, need] <;> omega) | (simp [ar, need] at * <;> omega)
theorem single_kw (d i : Nat) : Kw i (singleP l F d i) := by
  unfold singleP
  split
  · rename_i hsg
    intro t j h
    obtain ⟨u, i1, h1, h⟩ := binds h
    cases h
    have := deep_kw (l := l) (hF.sg _ _) u _ h1
    have h0 := sgP_ar1 hsg; rw [ill_mk, ills_cons, ills_nil]; show ar _ 1 + _ ≤ 0; omega
  · exact asked_kw hF d i
theorem pairLoop_kw {b : Int} {d : Nat} : ∀ k u i t j, pairLoop l F b d k u i = .ok t j → t.ill ≤ u.ill := by
  intro k
  induction k with
  | zero => intro u i t j h; cases h
  | succ k ih =>
    intro u i t j h
    unfold pairLoop at h
    split at h
    · cases h; first | omega | (simp [ar, need] <;> omega) | (simp [ar, need] at * <;> omega)
    · rename_i hsg
      split at h
      · cases h; first | omega | (simp [ar, need] <;> omega) | (simp [ar, need] at * <;> omega)
      · obtain ⟨v, i1, h1, h⟩ := binds h
        have e1 := hF.pr _ _ _ v i1 h1
        have e2 := ih _ _ _ _ h
        rw [ill_mk, ills_cons, ills_cons, ills_nil, ar_two _ _ (by simp)] at e2
        omega
theorem pair_kw (b : Int) (d i : Nat) : Kw i (pairP l F b d i) := by
  intro t j h
  unfold pairP at h
  obtain ⟨u, i1, h1, h⟩ := binds h
  have e1 := hF.sg _ _ u i1 h1
  have e2 := pairLoop_kw hF _ _ _ _ _ h
  first | omega | (simp [ar, need] <;> omega) | (simp [ar, need] at * <;> omega)
theorem value_kw (d i : Nat) : Kw i (valueP l F d i) := by
  intro t j h
  unfold valueP at h
  obtain ⟨u, i1, h1, h⟩ := binds h
  have e1 := hF.pr _ _ _ u i1 h1
  split at h
  · split at h
    · obtain ⟨v, i2, h2, h⟩ := binds h
      cases h
      have e2 := deep_kw (l := l) (hF.vl _ _) v _ h2
      rw [ill_mk, ills_cons, ills_cons, ills_nil]; first | omega | (simp [ar, need] <;> omega) | (simp [ar, need] at * <;> omega)
    · cases h
  · cases h; exact e1
theorem part_kw (d q i : Nat) : Kw i (partP l F d q i) := by
  intro t j h
  unfold partP at h
  split at h
  · unfold declP at h
    obtain ⟨s, i1, h1, h⟩ := binds h
    have e1 := name_eq h1
    split at h
    · cases h
    · split at h
      · obtain ⟨v, i2, h2, h⟩ := binds h
        obtain ⟨_, i3, h3, h⟩ := binds h
        cases h
        have e2 := deep_kw (l := l) (hF.vl _ _) v _ h2
        have e3 := must_eq h3
        rw [ill_mk, ills_cons, ills_nil, hd_kw]; omega
      · obtain ⟨_, i3, h3, h⟩ := binds h
        cases h
        have e3 := must_eq h3
        rw [ill_mk, ills_nil, hd_kw]; omega
  · exact func_kw hF d i t j h
  · have := block_kw hF h; first | omega | (simp [ar, need] <;> omega) | (simp [ar, need] at * <;> omega)
  · obtain ⟨_, i3, h3, h⟩ := binds h
    cases h
    have e3 := must_eq h3
    rw [ill_mk, ills_nil]; first | omega | (simp [ar, need] <;> omega) | (simp [ar, need] at * <;> omega)
  · unfold choiceP at h
    obtain ⟨v, i1, h1, h⟩ := binds h
    obtain ⟨s, i2, h2, h⟩ := binds h
    have e1 := inPar_kw hF d _ v i1 h1
    have e2 := deep_kw (l := l) (hF.st _ _) s _ h2
    split at h
    · obtain ⟨s2, i3, h3, h⟩ := binds h
      cases h
      have e3 := deep_kw (l := l) (hF.st _ _) s2 _ h3
      rw [ill_mk, ills_cons, ills_cons, ills_cons, ills_nil, hd_kw]; omega
    · cases h
      rw [ill_mk, ills_cons, ills_cons, ills_nil, hd_kw]; omega
  · unfold behindP at h
    obtain ⟨v, i1, h1, h⟩ := binds h
    obtain ⟨s, i2, h2, h⟩ := binds h
    cases h
    have e1 := inPar_kw hF d _ v i1 h1
    have e2 := deep_kw (l := l) (hF.st _ _) s _ h2
    rw [ill_mk, ills_cons, ills_cons, ills_nil, hd_kw]; omega
  · unfold givingP at h
    split at h
    · obtain ⟨v, i1, h1, h⟩ := binds h
      obtain ⟨_, i2, h2, h⟩ := binds h
      cases h
      have e1 := deep_kw (l := l) (hF.vl _ _) v _ h1
      have e2 := must_eq h2
      rw [ill_mk, ills_cons, ills_nil, hd_kw]; omega
    · obtain ⟨_, i2, h2, h⟩ := binds h
      cases h
      have e2 := must_eq h2
      rw [ill_mk, ills_nil, hd_kw]; omega
  · unfold attemptP at h
    obtain ⟨_, i0, h0, h⟩ := binds h
    obtain ⟨b, i1, h1, h⟩ := binds h
    obtain ⟨c, i2, h2, h⟩ := binds h
    obtain ⟨f, i3, h3, h⟩ := binds h
    have e0 := must_eq h0
    have e1 := block_kw hF h1
    have e2 : Tr.ills c ≤ 0 := by
      unfold catchP at h2
      split at h2
      · obtain ⟨_, k1, g1, h2⟩ := binds h2
        obtain ⟨_, k2, g2, h2⟩ := binds h2
        obtain ⟨_, k3, g3, h2⟩ := binds h2
        obtain ⟨bb, k4, g4, h2⟩ := binds h2
        cases h2
        have := must_eq g1
        have := name_eq g2
        have := must_eq g3
        have := block_kw hF g4
        rw [ills_cons, ill_mk, ills_cons, ills_nil]; first | omega | (simp [ar, need] <;> omega) | (simp [ar, need] at * <;> omega)
      · cases h2; rw [ills_nil]; first | omega | (simp [ar, need] <;> omega) | (simp [ar, need] at * <;> omega)
    have e3 : Tr.ills f ≤ 0 := by
      unfold finallyP at h3
      split at h3
      · obtain ⟨bb, k4, g4, h3⟩ := binds h3
        cases h3
        have := block_kw hF g4
        rw [ills_cons, ill_mk, ills_cons, ills_nil]; first | omega | (simp [ar, need] <;> omega) | (simp [ar, need] at * <;> omega)
      · cases h3; rw [ills_nil]; first | omega | (simp [ar, need] <;> omega) | (simp [ar, need] at * <;> omega)
    split at h
    · cases h
    · cases h
      rw [ill_mk, ills_cons, ills_app]; first | omega | (simp [ar, need] <;> omega) | (simp [ar, need] at * <;> omega)
theorem statement_kw (d i : Nat) : Kw i (statementP l F d i) := by
  unfold statementP
  split
  · exact part_kw hF d _ i
  · intro t j h
    unfold exprP at h
    obtain ⟨v, i1, h1, h⟩ := binds h
    obtain ⟨_, i2, h2, h⟩ := binds h
    cases h
    have e1 := deep_kw (l := l) (hF.vl _ _) v _ h1
    have e2 := must_eq h2
    rw [ill_mk, ills_cons, ills_nil]; first | omega | (simp [ar, need] <;> omega) | (simp [ar, need] at * <;> omega)
omit hF in
theorem fns_kw : ∀ k, FKw (fns l k) := by
  intro k
  induction k with
  | zero => exact ⟨fun _ _ _ _ h => by (cases h), fun _ _ _ _ h => by (cases h), fun _ _ _ _ _ h => by (cases h), fun _ _ _ _ h => by (cases h)⟩
  | succ k ih => exact ⟨statement_kw ih, value_kw ih, pair_kw ih, single_kw ih⟩
theorem progLoop_kw : ∀ k acc i t j, progLoop l F k acc i = .ok t j → Tr.ills t ≤ Tr.ills acc := by
  intro k
  induction k with
  | zero => intro acc i t j h; cases h
  | succ k ih =>
    intro acc i t j h
    unfold progLoop at h
    split at h
    · cases h; first | omega | (simp [ar, need] <;> omega) | (simp [ar, need] at * <;> omega)
    · obtain ⟨u, i1, h1, h⟩ := binds h
      have h2 := deep_kw (l := l) (hF.st _ _) u i1 h1
      have h4 := ih _ _ _ _ h
      rw [ills_app, ills_cons, ills_nil] at h4
      first | omega | (simp [ar, need] <;> omega) | (simp [ar, need] at * <;> omega)
theorem prog_kw {t : Tr} {j : Nat} (h : progP l F = .ok t j) : t.ill ≤ 0 := by
  unfold progP at h
  obtain ⟨ts, i1, h1, h⟩ := binds h
  cases h
  have := progLoop_kw hF _ _ _ _ _ h1
  rw [ills_nil] at this
  rw [code_ill, ill_mk]; first | omega | (simp [ar, need] <;> omega) | (simp [ar, need] at * <;> omega)
end
theorem ills_all : ∀ (ks : List Tr), Tr.ills ks = 0 → ∀ k ∈ ks, k.ill = 0
  | [], _ => fun k hk => absurd hk (by simp)
  | t :: ts, h => fun k hk => by
    rw [ills_cons] at h
    rcases List.mem_cons.1 hk with rfl | hk
    · omega
    · exact ills_all ts (by omega) k hk
theorem ill_of (t : Tr) (h : t.ill = 0) : need t.kd ≤ t.kids.length ∧ ∀ k ∈ t.kids, k.ill = 0 := by
  cases t with
  | mk kd tx n ks =>
    rw [ill_mk] at h
    refine ⟨?_, ills_all ks (by omega)⟩
    have h1 : ar kd ks.length = 0 := by omega
    unfold ar at h1
    split at h1
    · assumption
    · omega
theorem prog_ill {l : List Tk} {t : Tr} {j k : Nat} (h : progP l (fns l k) = .ok t j) : t.ill = 0 := by
  have h1 : t.ill ≤ 0 := prog_kw (fns_kw k) h
  exact Nat.le_zero.1 h1
theorem parse_ill {ws gs : List ByteArray} {s : ByteArray} {t : Tr} (h : parseS ws gs s = .ok t) : t.ill = 0 := by
  unfold parseS at h
  split at h
  · cases h
  · split at h
    · cases h
    · rename_i l _
      cases hp : progP l (fns l KK) with
      | out => rw [hp] at h; cases h
      | bad er p => rw [hp] at h; cases h
      | ok t2 j =>
        rw [hp] at h
        simp only at h
        split at h
        · cases h
        · cases h
          exact prog_ill hp
end Go.Proofs.YtodmgaikhbmlnaaGreatDoor
