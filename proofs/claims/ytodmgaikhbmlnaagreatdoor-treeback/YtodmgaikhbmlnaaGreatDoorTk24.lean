/-
  The shape of programs: which nodes the grammar makes, and of what parts.
-/
import Derived.Test.YtodmgaikhbmlnaaGreatDoorTk23
import Derived.Test.YtodmgaikhbmlnaaGreatDoorTk4
import Derived.Lib.Builder
import Derived.Lib.OthersKept
import Derived.Lib.AppendStr
import Derived.Lib.UnsafeStr
namespace Go.Proofs.YtodmgaikhbmlnaaGreatDoor

/-- 0: values; 1: statements; 2: properties; 3: blocks; 4: a function's block; 5, 6: parameters; 7: catch; 8: finally; 9: a program. -/
inductive Shp (Nm : ByteArray → Prop) : Nat → Tr → Prop
  | name {s} (h : Nm s) : Shp Nm 0 (.mk 23 s 0 [])
  | str (s : ByteArray) : Shp Nm 0 (.mk 18 s 0 [])
  | num (n : Int) : Shp Nm 0 (.mk 17 noText n [])
  | lit {kd} (hk : kd = 19 ∨ kd = 20 ∨ kd = 21 ∨ kd = 22) : Shp Nm 0 (.mk kd noText 0 [])
  | memb {s t} (h : Nm s) (ht : Shp Nm 0 t) : Shp Nm 0 (.mk 36 s 0 [t])
  | call {t ts} (ht : Shp Nm 0 t) (hs : ∀ u ∈ ts, Shp Nm 0 u) (hl : ts.length ≤ 8) : Shp Nm 0 (.mk 35 noText 0 (t :: ts))
  | one {kd t} (hk : kd = 32 ∨ kd = 33 ∨ kd = 34) (ht : Shp Nm 0 t) : Shp Nm 0 (.mk kd noText 0 [t])
  | two {kd a b} (hk : 25 ≤ kd ∧ kd ≤ 31) (ha : Shp Nm 0 a) (hb : Shp Nm 0 b) : Shp Nm 0 (.mk kd noText 0 [a, b])
  | asg {a b} (hk : a.kd = 23 ∨ a.kd = 36) (ha : Shp Nm 0 a) (hb : Shp Nm 0 b) : Shp Nm 0 (.mk 24 noText 0 [a, b])
  | obj {ps} (hs : ∀ u ∈ ps, Shp Nm 2 u) (hl : ps.length ≤ 8) : Shp Nm 0 (.mk 38 noText 0 ps)
  | lam {s p b} (h : s = noText ∨ Nm s) (hp : Shp Nm 5 p) (hb : Shp Nm 4 b) : Shp Nm 0 (.mk 37 s 0 [p, b])
  | prop {s v} (h : Nm s) (hv : Shp Nm 0 v) : Shp Nm 2 (.mk 39 s 0 [v])
  | par {s} (h : Nm s) : Shp Nm 6 (.mk 23 s 0 [])
  | pars {ps} (hs : ∀ u ∈ ps, Shp Nm 6 u) (hl : ps.length ≤ 8) : Shp Nm 5 (.mk 40 noText 0 ps)
  | blk {ts} (hs : ∀ u ∈ ts, Shp Nm 1 u) : Shp Nm 3 (.mk 6 noText 0 ts)
  | body {tx ts} (ht : tx = noText ∨ tx = tStrict) (hs : ∀ u ∈ ts, Shp Nm 1 u) : Shp Nm 4 (.mk 6 tx 0 ts)
  | decl {kd s v} (hk : kd = 2 ∨ kd = 3 ∨ kd = 4) (h : Nm s) (hv : ∀ u ∈ v, Shp Nm 0 u) (hl : v.length ≤ 1) (hc : kd = 4 → v.length = 1) : Shp Nm 1 (.mk kd s 0 v)
  | func {s p b} (h : Nm s) (hp : Shp Nm 5 p) (hb : Shp Nm 4 b) : Shp Nm 1 (.mk 5 s 0 [p, b])
  | sblk {t} (h : Shp Nm 3 t) : Shp Nm 1 t
  | sif {v s} (hv : Shp Nm 0 v) (hs : Shp Nm 1 s) : Shp Nm 1 (.mk 7 noText 0 [v, s])
  | sife {v s e} (hv : Shp Nm 0 v) (hs : Shp Nm 1 s) (he : Shp Nm 1 e) : Shp Nm 1 (.mk 7 noText 0 [v, s, e])
  | loop {kd v s} (hk : kd = 8 ∨ kd = 9) (hv : Shp Nm 0 v) (hs : Shp Nm 1 s) : Shp Nm 1 (.mk kd noText 0 [v, s])
  | give {kd v} (hk : kd = 10 ∨ kd = 11) (hv : ∀ u ∈ v, Shp Nm 0 u) (hl : v.length ≤ 1) (hc : kd = 11 → v.length = 1) : Shp Nm 1 (.mk kd noText 0 v)
  | atm {b c f} (hb : Shp Nm 3 b) (hc : ∀ u ∈ c, Shp Nm 7 u) (hf : ∀ u ∈ f, Shp Nm 8 u) (hl : c.length ≤ 1 ∧ f.length ≤ 1 ∧ 0 < c.length + f.length) : Shp Nm 1 (.mk 12 noText 0 (b :: (c ++ f)))
  | cat {s b} (h : Nm s) (hb : Shp Nm 3 b) : Shp Nm 7 (.mk 13 s 0 [b])
  | fin {b} (hb : Shp Nm 3 b) : Shp Nm 8 (.mk 14 noText 0 [b])
  | empty : Shp Nm 1 (.mk 16 noText 0 [])
  | expr {v} (hv : Shp Nm 0 v) : Shp Nm 1 (.mk 15 noText 0 [v])
  | prog {tx ts} (ht : tx = noText ∨ tx = tStrict) (hs : ∀ u ∈ ts, Shp Nm 1 u) : Shp Nm 9 (.mk 1 tx 0 ts)

theorem codeT_mk (kd : Int) (n : Int) (ts : List Tr) : ∃ tx, (tx = noText ∨ tx = tStrict) ∧ codeT (.mk kd noText n ts) = .mk kd tx n ts := by
  unfold codeT
  split
  · rename_i h; cases h; split
    · exact ⟨_, Or.inr rfl, rfl⟩
    · exact ⟨_, Or.inl rfl, rfl⟩
  · exact ⟨_, Or.inl rfl, rfl⟩
theorem Shp.toBody {Nm : ByteArray → Prop} {t : Tr} (h : Shp Nm 3 t) : Shp Nm 4 (codeT t) := by
  cases h with
  | blk hs => obtain ⟨tx, h1, h2⟩ := codeT_mk 6 0 _; rw [h2]; exact .body h1 hs
theorem sgP_mem {k : Int} {x : ByteArray} {s : Sg} (h : sgP k x = some s) : s ∈ sgs ∧ s.parts = k := by
  unfold sgP at h
  have h1 := Option.filter_eq_some_iff.1 h
  exact ⟨List.mem_of_find?_eq_some h1.1, by simpa using h1.2⟩
def keyOk (q : Nat) (k : Int) : Bool := match q with
  | 0 => k == 2 || k == 3 || k == 4
  | 4 => k == 7
  | 5 => k == 8 || k == 9
  | 6 => k == 10 || k == 11
  | _ => true

section
variable {l : List Tk}
def NmL (l : List Tk) (s : ByteArray) : Prop := ∃ i, (tkA l i).kd = 1 ∧ (tkA l i).tx = s
theorem name_nm {i j : Nat} {s : ByteArray} (h : nameP l i = .ok s j) : NmL l s := by
  unfold nameP at h
  split at h
  · rename_i h1; cases h; exact ⟨i, h1, rfl⟩
  · cases h
theorem key_hd {q i : Nat} (h : look2 stKeys (fx l i) = some q) : keyOk q (hdKind (tkA l i).tx) = true := by
  unfold look2 at h
  cases hf : stKeys.find? (fun e => decide (fx l i = e.1)) with
  | none => rw [hf] at h; cases h
  | some e =>
    rw [hf] at h
    have h1 := List.mem_of_find?_eq_some hf
    have h2 : fx l i = e.1 := by simpa using List.find?_some hf
    have h3 : ∀ e ∈ stKeys, keyOk e.2 (hdKind e.1) = true ∧ e.1 ≠ noText := by decide +kernel
    have h4 : (tkA l i).tx = e.1 := by
      unfold fx at h2
      split at h2
      · exact h2
      · exact absurd h2.symm (h3 e h1).2
    cases h
    rw [h4]
    exact (h3 e h1).1
abbrev Kh (l : List Tk) (c : Nat) (r : PR Tr) : Prop := ∀ t j, r = .ok t j → Shp (NmL l) c t
theorem deep_kh {c : Nat} {f : Nat → Nat → PR Tr} {d i : Nat} (h : Kh l c (f (d + 1) i)) : Kh l c (deepP l f d i) := by
  unfold deepP
  split
  · intro t j e; cases e
  · exact h
theorem mem_app {P : Tr → Prop} {acc : List Tr} {u : Tr} (ha : ∀ x ∈ acc, P x) (hu : P u) : ∀ x ∈ acc ++ [u], P x := by
  intro x hx
  rcases List.mem_append.1 hx with h | h
  · exact ha x h
  · rw [List.mem_singleton.1 h]; exact hu
theorem listLoop_kh {c : Nat} {shut : ByteArray} {begins : Nat → Bool} {part : Nat → PR Tr} (hb : ∀ i t j, part i = .ok t j → begins i = true) (hp : ∀ i, Kh l c (part i)) : ∀ k acc i t j, (∀ x ∈ acc, Shp (NmL l) c x) → acc.length ≤ 8 → listLoop l shut begins part k acc i = .ok t j → (∀ x ∈ t, Shp (NmL l) c x) ∧ t.length ≤ 8 := by
  intro k
  induction k with
  | zero => intro acc i t j _ _ h; cases h
  | succ k ih =>
    intro acc i t j ha hl h
    unfold listLoop at h
    split at h
    · cases h
    · rename_i hn
      obtain ⟨u, i1, h1, h⟩ := binds h
      have hu := mem_app ha (hp i u i1 h1)
      have hl2 : (acc ++ [u]).length ≤ 8 := by
        have : acc.length ≠ 8 := fun e => hn ⟨e, hb _ _ _ h1⟩
        simp; omega
      split at h
      · cases h; exact ⟨hu, hl2⟩
      · obtain ⟨_, i2, h2, h⟩ := binds h
        exact ih _ _ _ _ hu hl2 h
theorem list_kh {c : Nat} {opn shut : ByteArray} {begins : Nat → Bool} {part : Nat → PR Tr} (hb : ∀ i t j, part i = .ok t j → begins i = true) (hp : ∀ i, Kh l c (part i)) {k i j : Nat} {t : List Tr} (h : listP l opn shut begins part k i = .ok t j) : (∀ x ∈ t, Shp (NmL l) c x) ∧ t.length ≤ 8 := by
  unfold listP at h
  obtain ⟨_, i1, h1, h⟩ := binds h
  split at h
  · cases h; exact ⟨fun _ h => (by cases h), by simp⟩
  · exact listLoop_kh hb hp _ _ _ _ _ (fun _ h => by cases h) (by simp) h
theorem isName_name {i j : Nat} {s : ByteArray} (h : nameP l i = .ok s j) : isName l i = true := by
  unfold nameP at h
  split at h
  · rename_i h1; unfold isName; rw [h1]; rfl
  · cases h
structure FKh (l : List Tk) (F : Fns) : Prop where
  st : ∀ d i, Kh l 1 (F.st d i)
  vl : ∀ d i, Kh l 0 (F.vl d i)
  pr : ∀ b d i, Kh l 0 (F.pr b d i)
  sg : ∀ d i, Kh l 0 (F.sg d i)
  bg : ∀ d i t j, F.vl d i = .ok t j → isVal l i = true
  bp : ∀ b d i t j, F.pr b d i = .ok t j → isVal l i = true
  bs : ∀ d i t j, F.sg d i = .ok t j → isVal l i = true
variable {F : Fns} (hF : FKh l F)
include hF
theorem blockLoop_kh {d : Nat} : ∀ k acc i t j, (∀ x ∈ acc, Shp (NmL l) 1 x) → blockLoop l F d k acc i = .ok t j → ∀ x ∈ t, Shp (NmL l) 1 x := by
  intro k
  induction k with
  | zero => intro acc i t j _ h; cases h
  | succ k ih =>
    intro acc i t j ha h
    unfold blockLoop at h
    split at h
    · cases h; exact ha
    · obtain ⟨u, i1, h1, h⟩ := binds h
      exact ih _ _ _ _ (mem_app ha (deep_kh (hF.st _ _) u i1 h1)) h
theorem block_kh {d i : Nat} : Kh l 3 (blockP l F d i) := by
  intro t j h
  unfold blockP at h
  obtain ⟨_, i1, h1, h⟩ := binds h
  obtain ⟨ts, i2, h2, h⟩ := binds h
  cases h
  exact .blk (blockLoop_kh hF _ _ _ _ _ (fun _ h => by cases h) h2)
omit hF in
theorem params_kh {i : Nat} : Kh l 5 (paramsP l F i) := by
  intro t j h
  unfold paramsP at h
  obtain ⟨ts, i1, h1, h⟩ := binds h
  cases h
  have := list_kh (c := 6) (fun i t j h => by unfold paramP at h; obtain ⟨_, _, h1, _⟩ := binds h; exact isName_name h1) (fun i t j h => by unfold paramP at h; obtain ⟨_, _, h1, h⟩ := binds h; cases h; exact .par (name_nm h1)) h1
  exact .pars this.1 this.2
theorem inPar_kh (d i : Nat) : Kh l 0 (inParP l F d i) := by
  intro t j h
  unfold inParP at h
  obtain ⟨_, i1, h1, h⟩ := binds h
  obtain ⟨u, i2, h2, h⟩ := binds h
  obtain ⟨_, i3, h3, h⟩ := binds h
  cases h
  exact deep_kh (hF.vl _ _) _ _ h2
theorem object_kh (d i : Nat) : Kh l 0 (objectP l F d i) := by
  intro t j h
  unfold objectP at h
  obtain ⟨ts, i1, h1, h⟩ := binds h
  cases h
  have := list_kh (c := 2) (fun i t j h => by unfold propP at h; obtain ⟨_, _, h1, _⟩ := binds h; exact isName_name h1) (fun i t j h => by
    unfold propP at h; obtain ⟨_, _, h1, h⟩ := binds h; obtain ⟨_, _, _, h⟩ := binds h; obtain ⟨_, _, h3, h⟩ := binds h; cases h; exact .prop (name_nm h1) (deep_kh (hF.vl _ _) _ _ h3)) h1
  exact .obj this.1 this.2
theorem tail_kh {kd : Int} {s : ByteArray} {d i j : Nat} {t : Tr} (h : funcTail l F kd s d i = .ok t j) : ∃ p b, t = .mk kd s 0 [p, b] ∧ Shp (NmL l) 5 p ∧ Shp (NmL l) 4 b := by
  unfold funcTail at h
  obtain ⟨ps, i1, h1, h⟩ := binds h
  obtain ⟨b, i2, h2, h⟩ := binds h
  cases h
  exact ⟨_, _, rfl, params_kh _ _ h1, (block_kh hF _ _ h2).toBody⟩
theorem lambda_kh (d i : Nat) : Kh l 0 (lambdaP l F d i) := by
  intro t j h
  unfold lambdaP at h
  obtain ⟨_, i1, h1, h⟩ := binds h
  split at h
  · obtain ⟨s, i2, h2, h⟩ := binds h
    obtain ⟨p, b, rfl, hp, hb⟩ := tail_kh hF h
    exact .lam (Or.inr (name_nm h2)) hp hb
  · obtain ⟨p, b, rfl, hp, hb⟩ := tail_kh hF h
    exact .lam (Or.inl rfl) hp hb
theorem alone_kh (d i : Nat) : Kh l 0 (aloneP l F d i) := by
  unfold aloneP
  split
  · exact inPar_kh hF d i
  · exact object_kh hF d i
  · exact lambda_kh hF d i
  · split
    · rename_i hsg; intro t j h; cases h
      have h2 : ∀ s ∈ sgs, s.parts = 0 → s.kd = 19 ∨ s.kd = 20 ∨ s.kd = 21 ∨ s.kd = 22 := by decide +kernel
      exact .lit (h2 _ (sgP_mem hsg).1 (sgP_mem hsg).2)
    · split
      · rename_i h1; intro t j h; cases h; exact .name ⟨i, h1, rfl⟩
      · split
        · intro t j h; cases h; exact .str _
        · split
          · intro t j h; cases h; exact .num _
          · intro t j h; cases h
omit hF in
theorem alone_bg {d i j : Nat} {t : Tr} (h : aloneP l F d i = .ok t j) : isVal l i = true := by
  unfold isVal
  unfold aloneP at h
  cases hk : look2 vlKeys (fx l i) with
  | some q => simp
  | none =>
    rw [hk] at h
    simp only at h
    cases hs : sgP 0 (fx l i) with
    | some s =>
      have h1 := sgP_mem hs
      have h3 : ((sgOf (fx l i)).filter (fun e => decide (e.parts < 2))).isSome = true := by
        unfold sgP at hs
        have h2 := Option.filter_eq_some_iff.1 hs
        rw [h2.1]
        simp [Option.filter, h1.2]
      rw [h3]; simp
    | none =>
      rw [hs] at h
      simp only at h
      split at h
      · rename_i h1; simp [h1]
      · split at h
        · rename_i h1; simp [h1]
        · split at h
          · rename_i h1; simp [h1]
          · cases h
theorem askedLoop_kh {d : Nat} : ∀ k u i t j, Shp (NmL l) 0 u → askedLoop l F d k u i = .ok t j → Shp (NmL l) 0 t := by
  intro k
  induction k with
  | zero => intro u i t j _ h; cases h
  | succ k ih =>
    intro u i t j hu h
    unfold askedLoop at h
    split at h
    · obtain ⟨s, i1, h1, h⟩ := binds h
      exact ih _ _ _ _ (.memb (name_nm h1) hu) h
    · split at h
      · obtain ⟨ts, i1, h1, h⟩ := binds h
        have := list_kh (c := 0) (fun i t j h => by
          unfold deepP at h
          split at h
          · cases h
          · exact hF.bg _ _ _ _ h) (fun i => deep_kh (hF.vl _ _)) h1
        exact ih _ _ _ _ (.call hu this.1 this.2) h
      · cases h; exact hu
theorem single_kh (d i : Nat) : Kh l 0 (singleP l F d i) := by
  unfold singleP
  split
  · rename_i hsg
    intro t j h
    obtain ⟨u, i1, h1, h⟩ := binds h
    cases h
    have h2 : ∀ s ∈ sgs, s.parts = 1 → s.kd = 32 ∨ s.kd = 33 ∨ s.kd = 34 := by decide +kernel
    exact .one (h2 _ (sgP_mem hsg).1 (sgP_mem hsg).2) (deep_kh (hF.sg _ _) u _ h1)
  · intro t j h
    unfold askedP at h
    obtain ⟨u, i1, h1, h⟩ := binds h
    exact askedLoop_kh hF _ _ _ _ _ (alone_kh hF d i u i1 h1) h
omit hF in
theorem single_bg (d i : Nat) (t : Tr) (j : Nat) (h : singleP l F d i = .ok t j) : isVal l i = true := by
  unfold singleP at h
  cases hs : sgP 1 (fx l i) with
  | some s =>
    have h1 := sgP_mem hs
    have h3 : ((sgOf (fx l i)).filter (fun e => decide (e.parts < 2))).isSome = true := by
      unfold sgP at hs
      have h2 := Option.filter_eq_some_iff.1 hs
      rw [h2.1]
      simp [Option.filter, h1.2]
    unfold isVal
    rw [h3]; simp
  | none =>
    rw [hs] at h
    simp only at h
    unfold askedP at h
    obtain ⟨u, i1, h1, _⟩ := binds h
    exact alone_bg h1
theorem pairLoop_kh {b : Int} {d : Nat} : ∀ k u i t j, Shp (NmL l) 0 u → pairLoop l F b d k u i = .ok t j → Shp (NmL l) 0 t := by
  intro k
  induction k with
  | zero => intro u i t j _ h; cases h
  | succ k ih =>
    intro u i t j hu h
    unfold pairLoop at h
    split at h
    · cases h; exact hu
    · rename_i hsg
      split at h
      · cases h; exact hu
      · obtain ⟨v, i1, h1, h⟩ := binds h
        have h2 : ∀ s ∈ sgs, s.parts = 2 → 25 ≤ s.kd ∧ s.kd ≤ 31 := by decide +kernel
        exact ih _ _ _ _ (.two (h2 _ (sgP_mem hsg).1 (sgP_mem hsg).2) hu (hF.pr _ _ _ v i1 h1)) h
theorem pair_kh (b : Int) (d i : Nat) : Kh l 0 (pairP l F b d i) := by
  intro t j h
  unfold pairP at h
  obtain ⟨u, i1, h1, h⟩ := binds h
  exact pairLoop_kh hF _ _ _ _ _ (hF.sg _ _ u i1 h1) h
theorem value_kh (d i : Nat) : Kh l 0 (valueP l F d i) := by
  intro t j h
  unfold valueP at h
  obtain ⟨u, i1, h1, h⟩ := binds h
  have e1 := hF.pr _ _ _ u i1 h1
  split at h
  · split at h
    · rename_i hk
      obtain ⟨v, i2, h2, h⟩ := binds h
      cases h
      exact .asg hk e1 (deep_kh (hF.vl _ _) v _ h2)
    · cases h
  · cases h; exact e1
theorem part_kh (d q i : Nat) (hq : keyOk q (hdKind (tkA l i).tx) = true) : Kh l 1 (partP l F d q i) := by
  intro t j h
  unfold partP at h
  split at h
  · have hk : hdKind (tkA l i).tx = 2 ∨ hdKind (tkA l i).tx = 3 ∨ hdKind (tkA l i).tx = 4 := by simpa [keyOk, or_assoc] using hq
    unfold declP at h
    obtain ⟨s, i1, h1, h⟩ := binds h
    split at h
    · cases h
    · rename_i hn
      split at h
      · obtain ⟨v, i2, h2, h⟩ := binds h
        obtain ⟨_, i3, h3, h⟩ := binds h
        cases h
        have e2 := deep_kh (hF.vl _ _) v _ h2
        exact .decl hk (name_nm h1) (fun u hu => by rw [List.mem_singleton.1 hu]; exact e2) (by simp) (by simp)
      · rename_i hx
        obtain ⟨_, i3, h3, h⟩ := binds h
        cases h
        exact .decl hk (name_nm h1) (fun u hu => by cases hu) (by simp) (fun e => absurd ⟨e, hx⟩ hn)
  · unfold funcP at h
    obtain ⟨_, i1, h1, h⟩ := binds h
    obtain ⟨s, i2, h2, h⟩ := binds h
    obtain ⟨p, b, rfl, hp, hb⟩ := tail_kh hF h
    exact .func (name_nm h2) hp hb
  · exact .sblk (block_kh hF _ _ h)
  · obtain ⟨_, i3, h3, h⟩ := binds h
    cases h
    exact .empty
  · have hk : hdKind (tkA l i).tx = 7 := by simpa [keyOk] using hq
    unfold choiceP at h
    rw [hk] at h
    obtain ⟨v, i1, h1, h⟩ := binds h
    obtain ⟨s, i2, h2, h⟩ := binds h
    have e1 := inPar_kh hF d _ v i1 h1
    have e2 := deep_kh (hF.st _ _) s _ h2
    split at h
    · obtain ⟨s2, i3, h3, h⟩ := binds h
      cases h
      exact .sife e1 e2 (deep_kh (hF.st _ _) s2 _ h3)
    · cases h
      exact .sif e1 e2
  · have hk : hdKind (tkA l i).tx = 8 ∨ hdKind (tkA l i).tx = 9 := by simpa [keyOk] using hq
    unfold behindP at h
    obtain ⟨v, i1, h1, h⟩ := binds h
    obtain ⟨s, i2, h2, h⟩ := binds h
    cases h
    exact .loop hk (inPar_kh hF d _ v i1 h1) (deep_kh (hF.st _ _) s _ h2)
  · have hk : hdKind (tkA l i).tx = 10 ∨ hdKind (tkA l i).tx = 11 := by simpa [keyOk] using hq
    unfold givingP at h
    split at h
    · obtain ⟨v, i1, h1, h⟩ := binds h
      obtain ⟨_, i2, h2, h⟩ := binds h
      cases h
      have e1 := deep_kh (hF.vl _ _) v _ h1
      exact .give hk (fun u hu => by rw [List.mem_singleton.1 hu]; exact e1) (by simp) (by simp)
    · rename_i hn
      obtain ⟨_, i2, h2, h⟩ := binds h
      cases h
      exact .give hk (fun u hu => by cases hu) (by simp) (fun e => absurd (Or.inl e) hn)
  · unfold attemptP at h
    obtain ⟨_, i0, h0, h⟩ := binds h
    obtain ⟨b, i1, h1, h⟩ := binds h
    obtain ⟨c, i2, h2, h⟩ := binds h
    obtain ⟨f, i3, h3, h⟩ := binds h
    have e2 : (∀ u ∈ c, Shp (NmL l) 7 u) ∧ c.length ≤ 1 := by
      unfold catchP at h2
      split at h2
      · obtain ⟨_, k1, g1, h2⟩ := binds h2
        obtain ⟨_, k2, g2, h2⟩ := binds h2
        obtain ⟨_, k3, g3, h2⟩ := binds h2
        obtain ⟨bb, k4, g4, h2⟩ := binds h2
        cases h2
        exact ⟨fun u hu => by rw [List.mem_singleton.1 hu]; exact .cat (name_nm g2) (block_kh hF _ _ g4), by simp⟩
      · cases h2; exact ⟨fun u hu => (by cases hu), by simp⟩
    have e3 : (∀ u ∈ f, Shp (NmL l) 8 u) ∧ f.length ≤ 1 := by
      unfold finallyP at h3
      split at h3
      · obtain ⟨bb, k4, g4, h3⟩ := binds h3
        cases h3
        exact ⟨fun u hu => by rw [List.mem_singleton.1 hu]; exact .fin (block_kh hF _ _ g4), by simp⟩
      · cases h3; exact ⟨fun u hu => (by cases hu), by simp⟩
    split at h
    · cases h
    · rename_i hn
      cases h
      exact .atm (block_kh hF _ _ h1) e2.1 e3.1 ⟨e2.2, e3.2, by omega⟩
theorem statement_kh (d i : Nat) : Kh l 1 (statementP l F d i) := by
  unfold statementP
  split
  · rename_i hq; exact part_kh hF d _ i (key_hd hq)
  · intro t j h
    unfold exprP at h
    obtain ⟨v, i1, h1, h⟩ := binds h
    obtain ⟨_, i2, h2, h⟩ := binds h
    cases h
    exact .expr (deep_kh (hF.vl _ _) v _ h1)
omit hF in
theorem fns_kh : ∀ k, FKh l (fns l k) := by
  intro k
  induction k with
  | zero => exact ⟨fun _ _ _ _ h => by (cases h), fun _ _ _ _ h => by (cases h), fun _ _ _ _ _ h => by (cases h), fun _ _ _ _ h => by (cases h), fun _ _ _ _ h => by (cases h), fun _ _ _ _ _ h => by (cases h), fun _ _ _ _ h => by (cases h)⟩
  | succ k ih => exact ⟨statement_kh ih, value_kh ih, pair_kh ih, single_kh ih, fun d i t j h => by
      change valueP l (fns l k) d i = _ at h; unfold valueP at h; obtain ⟨u, i1, h1, _⟩ := binds h; exact ih.bp _ _ _ _ _ h1, fun b d i t j h => by
      change pairP l (fns l k) b d i = _ at h; unfold pairP at h; obtain ⟨u, i1, h1, _⟩ := binds h; exact ih.bs _ _ _ _ h1, single_bg⟩
theorem progLoop_kh : ∀ k acc i t j, (∀ x ∈ acc, Shp (NmL l) 1 x) → progLoop l F k acc i = .ok t j → ∀ x ∈ t, Shp (NmL l) 1 x := by
  intro k
  induction k with
  | zero => intro acc i t j _ h; cases h
  | succ k ih =>
    intro acc i t j ha h
    unfold progLoop at h
    split at h
    · cases h; exact ha
    · obtain ⟨u, i1, h1, h⟩ := binds h
      exact ih _ _ _ _ (mem_app ha (deep_kh (hF.st _ _) u i1 h1)) h
theorem prog_kh : Kh l 9 (progP l F) := by
  intro t j h
  unfold progP at h
  obtain ⟨ts, i1, h1, h⟩ := binds h
  cases h
  obtain ⟨tx, h2, h3⟩ := codeT_mk 1 0 ts
  rw [h3]
  exact .prog h2 (progLoop_kh hF _ _ _ _ _ (fun _ h => by cases h) h1)
end
theorem parse_sh {ws signs : List ByteArray} {s : ByteArray} {t : Tr} (h : parseS ws signs s = .ok t) : ∃ l, toksR ws signs s (pastN gapB s 0) [] = .ok l ∧ Shp (NmL l) 9 t := by
  unfold parseS at h
  split at h
  · cases h
  · split at h
    · cases h
    · rename_i l hl
      refine ⟨l, hl, ?_⟩
      cases hp : progP l (fns l KK) with
      | out => rw [hp] at h; cases h
      | bad er p => rw [hp] at h; cases h
      | ok t2 j =>
        rw [hp] at h
        simp only at h
        split at h
        · cases h
        · cases h; exact prog_kh (fns_kh _) _ _ hp
end Go.Proofs.YtodmgaikhbmlnaaGreatDoor
set_option maxRecDepth 100000
set_option maxHeartbeats 16000000
namespace Go.Proofs.YtodmgaikhbmlnaaGreatDoor
open Go.RowKit

/-- The writer's block: the builder (its own address, once used; its bytes' row), the token that was put last, the signs. -/
abbrev wrObj (a v : Value) (last : ByteArray) (m : Nat) : Obj := .cells #[a, v, .string last, .map (some m)] 87 (0, 0)
abbrev wPtr (b : Nat) : Value := .pointer (some ⟨b, 0, none⟩)

/-- The builder's row, and the writer's block around it. -/
def WrAt (B b m : Nat) (out : List UInt8) (last : ByteArray) (a : Value) (w : World) : Prop :=
  B ≤ b ∧ ∃ v, w.heap[b]? = some (wrObj a v last m) ∧ w.ownsRow B 5 1 v out.length (Lib.byteCells out) ∧ v.ownBlock ≠ some b
/-- A writer: fresh or used. -/
def Wrt (B b m : Nat) (out : List UInt8) (last : ByteArray) (w : World) : Prop := WrAt B b m out last (.pointer none) w ∨ WrAt B b m out last (wPtr b) w

/-- What a writer's call leaves as it was. -/
structure Kp (B b : Nat) (w w' : World) : Prop where
  below : Below B w w'
  kept : Lib.OthersKept 5 (some b) w w'
theorem Kp.refl (B b : Nat) (w : World) : Kp B b w w := ⟨Below.refl _ _, Lib.OthersKept.refl _ _ _⟩
theorem Kp.trans {B b : Nat} {x y z : World} (h : Kp B b x y) (k : Kp B b y z) : Kp B b x z := ⟨h.below.trans k.below, h.kept.trans k.kept⟩
theorem Kp.drew {B b : Nat} {x y : World} (h : Kp B b x y) : Kp B b x y.drew := ⟨h.below.drew, h.kept.drew⟩
theorem Kp.alloc {B b : Nat} {x y : World} (h : Kp B b x y) (hB : B ≤ y.heap.size) (o : Obj) : Kp B b x (y.alloc o) := ⟨h.below.alloc hB o, h.kept.alloc o⟩
theorem Kp.setCell {B b : Nat} {x y : World} (h : Kp B b x y) (hB : B ≤ b) (j : Nat) (v : Value) : Kp B b x (y.setCell ⟨b, j, none⟩ v) := ⟨h.below.setCell (p := ⟨b, j, none⟩) hB v, h.kept.setCell ⟨b, j, none⟩ rfl v⟩

theorem WrAt.lt {B b m : Nat} {out : List UInt8} {last : ByteArray} {a : Value} {w : World} (h : WrAt B b m out last a w) : b < w.heap.size := by
  obtain ⟨_, v, hb, _⟩ := h
  exact lt_of_heap hb
theorem Wrt.lt {B b m : Nat} {out : List UInt8} {last : ByteArray} {w : World} (h : Wrt B b m out last w) : b < w.heap.size := by
  rcases h with h | h <;> exact h.lt
theorem Wrt.lo {B b m : Nat} {out : List UInt8} {last : ByteArray} {w : World} (h : Wrt B b m out last w) : B ≤ b := by
  rcases h with h | h <;> exact h.1
theorem Wrt.cells {B b m : Nat} {out : List UInt8} {last : ByteArray} {w : World} (h : Wrt B b m out last w) : w.cell? ⟨b, 2, none⟩ = some (.string last) ∧ w.cell? ⟨b, 3, none⟩ = some (.map (some m)) ∧ ∀ j, w.frozen? ⟨b, j, none⟩ = false := by
  rcases h with h | h <;>
  · obtain ⟨_, v, hb, _⟩ := h
    refine ⟨?_, ?_, fun j => Lib.frozen_of_heap hb j⟩
    · rw [Lib.cell_of_heap hb]; rfl
    · rw [Lib.cell_of_heap hb]; rfl

theorem owns_set {w : World} {B b j : Nat} {v u : Value} {n : Nat} {xs : List Value} (h : w.ownsRow B 5 1 v n xs) (hne : v.ownBlock ≠ some b) : (w.setCell ⟨b, j, none⟩ u).ownsRow B 5 1 v n xs :=
  h.kept (row := some b) ⟨rfl, rfl, rfl, by simp [World.setCell], fun k _ hk => Below.heap_setCell _ _ _ _ (fun e => hk (by simp [e]))⟩ (Or.inr hne)

theorem WrAt.used {B b m : Nat} {out : List UInt8} {last : ByteArray} {a : Value} {w : World} (h : WrAt B b m out last a w) (q : Value) : WrAt B b m out last q (w.setCell ⟨b, 0, none⟩ q) := by
  obtain ⟨hB, v, hb, hown, hne⟩ := h
  exact ⟨hB, v, by simp [World.setCell, Array.getElem?_modify, hb], owns_set hown hne, hne⟩
theorem WrAt.last {B b m : Nat} {out : List UInt8} {last : ByteArray} {a : Value} {w : World} (h : WrAt B b m out last a w) (t : ByteArray) : WrAt B b m out t a (w.setCell ⟨b, 2, none⟩ (.string t)) := by
  obtain ⟨hB, v, hb, hown, hne⟩ := h
  exact ⟨hB, v, by simp [World.setCell, Array.getElem?_modify, hb], owns_set hown hne, hne⟩
theorem Wrt.last {B b m : Nat} {out : List UInt8} {last : ByteArray} {w : World} (h : Wrt B b m out last w) (t : ByteArray) : Wrt B b m out t (w.setCell ⟨b, 2, none⟩ (.string t)) := by
  rcases h with h | h
  · exact Or.inl (h.last t)
  · exact Or.inr (h.last t)
/-- A new block, or a draw, leaves a writer as it is. -/
theorem WrAt.stay {B b m : Nat} {out : List UInt8} {last : ByteArray} {a : Value} {w w' : World} (h : WrAt B b m out last a w) (hs : ∀ k, k < w.heap.size → w'.heap[k]? = w.heap[k]?) : WrAt B b m out last a w' := by
  obtain ⟨hB, v, hb, hown, hne⟩ := h
  exact ⟨hB, v, by rw [hs b (lt_of_heap hb)]; exact hb, owns_stay (I := fun _ => True) (fun k _ hk => hs k hk) (fun _ _ => trivial) hown, hne⟩
theorem Wrt.stay {B b m : Nat} {out : List UInt8} {last : ByteArray} {w w' : World} (h : Wrt B b m out last w) (hs : ∀ k, k < w.heap.size → w'.heap[k]? = w.heap[k]?) : Wrt B b m out last w' := by
  rcases h with h | h
  · exact Or.inl (h.stay hs)
  · exact Or.inr (h.stay hs)
theorem Wrt.alloc {B b m : Nat} {out : List UInt8} {last : ByteArray} {w : World} (h : Wrt B b m out last w) (o : Obj) : Wrt B b m out last (w.alloc o) := h.stay fun k hk => Below.heap_alloc w o k hk
theorem Wrt.drew {B b m : Nat} {out : List UInt8} {last : ByteArray} {w : World} (h : Wrt B b m out last w) : Wrt B b m out last w.drew := h.stay fun _ _ => rfl
theorem Wrt.below {B b m : Nat} {out : List UInt8} {last : ByteArray} {w w' : World} (h : Wrt B b m out last w) (hb : Below w.heap.size w w') : Wrt B b m out last w' := h.stay fun k hk => hb.block k hk

theorem size84 : (Tryz.prog.info? 84).map (·.size) = some 2 := by kernel_rfl
theorem lies84 : liesAt Tryz.prog Tryz.prog.depth 87 (4 / Tryz.prog.cellsOf 87) 0 84 1 = true := by kernel_rfl

theorem copyCheck_used (b : Nat) (w : World) (h0 : w.cell? ⟨b, 0, none⟩ = some (wPtr b)) :
    Calls Tryz.prog 180 #[wPtr b] w fun e w' => e = .returned (.tuple #[]) ∧ w' = w := by
  obtain ⟨j, hj, _⟩ := Option.map_eq_some_iff.1 size84
  go_enter Tryz.func180, Tryz.ntmps180
  go_wp2
  rw [Lib.run_neq_ptr_same w _ Tryz.underlying81 hj]
  go_wp2
  go_end0
  exact ⟨rfl, rfl⟩

theorem copyCheck_fresh (b : Nat) (w : World) (h0 : w.cell? ⟨b, 0, none⟩ = some (.pointer none)) (hsh : w.shape? b = some (87, 4)) (hfz : w.frozen? ⟨b, 0, none⟩ = false) :
    Calls Tryz.prog 180 #[wPtr b] w fun e w' => e = .returned (.tuple #[]) ∧ w' = w.setCell ⟨b, 0, none⟩ (wPtr b) := by
  obtain ⟨j, hj, hjs⟩ := Option.map_eq_some_iff.1 size84
  go_enter Tryz.func180, Tryz.ntmps180
  go_wp2
  rw [Lib.run_to_unsafe w ⟨b, 0, none⟩ Tryz.underlying81 Tryz.underlying143 hj (by rw [hjs]; decide) hsh (Nat.zero_lt_succ 3)]
  simp only [Result.andThen]
  rw [Oper.upon_value]
  go_wp2
  rw [run_callFunc_extern Tryz.func233 (by kernel_rfl) (by kernel_rfl) (by kernel_rfl) (e := Extern.AbiNoEscape.same) (by kernel_rfl)]
  rw [Lib.run_noEscape]
  simp only [Result.andThen]
  rw [Oper.upon_value]
  go_wp2
  rw [Lib.run_from_unsafe w ⟨b, 0, none⟩ Tryz.underlying143 Tryz.underlying81 hj hsh lies84]
  simp only [Result.andThen]
  rw [Oper.upon_value]
  go_wp2
  go_end0
  exact ⟨rfl, rfl⟩

theorem copyCheck_any {B b m : Nat} {out : List UInt8} {last : ByteArray} {w : World} (h : Wrt B b m out last w) :
    Calls Tryz.prog 180 #[wPtr b] w fun e w' => e = .returned (.tuple #[]) ∧ WrAt B b m out last (wPtr b) w' ∧ Kp B b w w' := by
  rcases h with h | h
  · obtain ⟨hB, v, hb, hown, hne⟩ := h
    refine (copyCheck_fresh b w (by rw [Lib.cell_of_heap hb]; rfl) (by simp [World.shape?, hb]) (Lib.frozen_of_heap hb 0)).mono ?_
    rintro e w' ⟨rfl, rfl⟩
    exact ⟨rfl, WrAt.used ⟨hB, v, hb, hown, hne⟩ _, (Kp.refl B b w).setCell hB 0 _⟩
  · obtain ⟨hB, v, hb, hown, hne⟩ := h
    refine (copyCheck_used b w (by rw [Lib.cell_of_heap hb]; rfl)).mono ?_
    rintro e w' ⟨rfl, rfl⟩
    exact ⟨rfl, ⟨hB, v, hb, hown, hne⟩, Kp.refl _ _ _⟩

theorem slice_of {w : World} {B e sz : Nat} {v : Value} {n : Nat} {xs : List Value} (h : w.ownsRow B e sz v n xs) : ∃ ao n' cap, v = .slice ao n' cap := by
  rcases h.2 with ⟨hv, _⟩ | ⟨g, cap, cur, hv, _⟩
  · exact ⟨_, _, _, hv⟩
  · exact ⟨_, _, _, hv⟩

theorem own_kind {w : World} {B : Nat} {v : Value} {n : Nat} {xs : List Value} (h : w.ownsRow B 5 1 v n xs) : ∀ g, v.ownBlock = some g → ∃ c fz, w.heap[g]? = some (.cells c 5 fz) := by
  intro g hg
  rcases h.2 with ⟨rfl, _⟩ | ⟨g', cap, cur, rfl, _, hgg, _⟩
  · simp [Value.ownBlock] at hg
  · simp [Value.ownBlock] at hg
    subst hg
    exact ⟨cur, _, hgg⟩

theorem WrAt.put {B b m : Nat} {out : List UInt8} {last : ByteArray} {a v v' : Value} {w : World} (hB : B ≤ b) (hb : w.heap[b]? = some (wrObj a v last m)) (hown : w.ownsRow B 5 1 v' out.length (Lib.byteCells out)) : WrAt B b m out last a (w.setCell ⟨b, 1, none⟩ v') := by
  have hne := Lib.ownBlock_ne hown hb (by decide)
  exact ⟨hB, v', by simp [World.setCell, Array.getElem?_modify, hb], owns_set hown hne, hne⟩

theorem writeByte_any {B b m : Nat} {out : List UInt8} {last : ByteArray} {w : World} (c : UInt8) (h : Wrt B b m out last w) (hlen : out.length + 1 ≤ 100000000) :
    Calls Tryz.prog 124 #[wPtr b, .int .u8 (c.toNat : Int)] w fun e w' => e = .returned .nilIface ∧ Wrt B b m (out ++ [c]) last w' ∧ Kp B b w w' := by
  obtain ⟨i0, hi, hz0, hz1, hz2⟩ := info_parts info5
  have HLT := hide h.lt
  have HLO := hide h.lo
  have HC := hide (copyCheck_any h)
  clear h
  go_enter Tryz.func124, Tryz.ntmps124
  go_wp2_with fail
  refine Calls.mono HC.out ?_
  rintro e w1 ⟨rfl, h1, hk1⟩
  obtain ⟨hB, v, hbk, hown, hne⟩ := h1
  have hsz : B ≤ w1.heap.size := by have := lt_of_heap hbk; omega
  have c0 : w1.cell? ⟨b, 0, none⟩ = some (wPtr b) := by rw [Lib.cell_of_heap hbk]; rfl
  have c1 : w1.cell? ⟨b, 1, none⟩ = some v := by rw [Lib.cell_of_heap hbk]; rfl
  have HOWN := hide hown
  have HK1 := hide hk1
  have HBK := hide hbk
  have HNE := hide hne
  clear hown hk1 hbk hne HC
  go_wp2_with (at_builtin; refine wpList_append_own _ rfl _ _ 82 rfl B 5 i0 (.int .u8 0) 1 1 Tryz.underlying82 hi hz0 hz1 hz2 rfl (by decide) _ _ _ rfl ((unhide HOWN).alloc _) ⟨w1.heap.size, 0, none⟩ 1 1 [.int .u8 (c.toNat : Int)] rfl rfl ?c1 ?c2 ?c3 ?c4 ?c5 ?_)
  case c1 =>
    intro j u hj
    match j, hj with
    | 0, hj => simp at hj; subst hj; simp [Addr.add]
  case c2 => intro u hu; simp at hu; subst hu; rfl
  case c3 => unfold maxLen; omega
  case c4 => omega
  case c5 => simp; omega
  intro v' w2 hown' hgrow _
  have hlt : b < w1.heap.size := lt_of_heap (unhide HBK)
  have hb2 : w2.heap[b]? = some (wrObj (wPtr b) v last m) := by
    rw [hgrow.block b (by simp; omega) (fun e => (unhide HNE) e.symm), Below.heap_alloc w1 _ b hlt]
    exact unhide HBK
  have d0 : w2.cell? ⟨b, 0, none⟩ = some (wPtr b) := by rw [Lib.cell_of_heap hb2]; rfl
  have d1 : w2.cell? ⟨b, 1, none⟩ = some v := by rw [Lib.cell_of_heap hb2]; rfl
  have f1 : w2.frozen? ⟨b, 1, none⟩ = false := Lib.frozen_of_heap hb2 1
  obtain ⟨ao, n', cap, rfl⟩ := slice_of hown'
  have hown2 : w2.ownsRow B 5 1 (.slice ao n' cap) (out ++ [c]).length (Lib.byteCells (out ++ [c])) := by
    rw [Lib.byteCells_append]
    simpa [Lib.byteCells] using hown'
  have HW := hide (WrAt.put hB hb2 hown2)
  have HK2 : Hid (Kp B b w (w2.setCell ⟨b, 1, none⟩ (.slice ao n' cap))) := by
    have hk := (unhide HK1).alloc (by omega) (.cells #[.int .u8 (c.toNat : Int)] 5)
    refine Kp.setCell ⟨hk.below.grown hgrow (by simp; omega) (fun k hk => ((unhide HOWN).lt k hk).1), hk.kept.grown hgrow (own_kind ((unhide HOWN).alloc _))⟩ hB 1 _
  clear hown' hgrow hown2 hb2
  go_wp2_with fail
  go_ret
  exact ⟨rfl, Or.inr (unhide HW), unhide HK2⟩

theorem writeString_any {B b m : Nat} {out : List UInt8} {last : ByteArray} {w : World} (s : ByteArray) (h : Wrt B b m out last w) (hlen : out.length + s.size ≤ 100000000) :
    Calls Tryz.prog 129 #[wPtr b, .string s] w fun e w' => e = .returned (.tuple #[.int .i64 (s.size : Int), .nilIface]) ∧ Wrt B b m (out ++ s.data.toList) last w' ∧ Kp B b w w' := by
  obtain ⟨i0, hi, hz0, hz1, hz2⟩ := info_parts info5
  have HLT := hide h.lt
  have HLO := hide h.lo
  have HC := hide (copyCheck_any h)
  clear h
  go_enter Tryz.func129, Tryz.ntmps129
  go_wp2_with fail
  refine Calls.mono HC.out ?_
  rintro e w1 ⟨rfl, h1, hk1⟩
  obtain ⟨hB, v, hbk, hown, hne⟩ := h1
  have hsz : B ≤ w1.heap.size := by have := lt_of_heap hbk; omega
  have c0 : w1.cell? ⟨b, 0, none⟩ = some (wPtr b) := by rw [Lib.cell_of_heap hbk]; rfl
  have c1 : w1.cell? ⟨b, 1, none⟩ = some v := by rw [Lib.cell_of_heap hbk]; rfl
  have HOWN := hide hown
  have HK1 := hide hk1
  have HBK := hide hbk
  have HNE := hide hne
  clear hown hk1 hbk hne HC
  go_wp2_with (at_builtin; refine Lib.wpList_append_own_string _ rfl _ _ 82 9 rfl B 5 i0 Tryz.underlying82 Tryz.underlying9 hi hz0 hz1 hz2 _ _ _ rfl (unhide HOWN) s rfl ?c3 ?c4 ?c5 ?_)
  case c3 => unfold maxLen; omega
  case c4 => omega
  case c5 => omega
  intro v' w2 hown' hgrow _
  have hlt : b < w1.heap.size := lt_of_heap (unhide HBK)
  have hb2 : w2.heap[b]? = some (wrObj (wPtr b) v last m) := by
    rw [hgrow.block b hlt (fun e => (unhide HNE) e.symm)]
    exact unhide HBK
  have d0 : w2.cell? ⟨b, 0, none⟩ = some (wPtr b) := by rw [Lib.cell_of_heap hb2]; rfl
  have d1 : w2.cell? ⟨b, 1, none⟩ = some v := by rw [Lib.cell_of_heap hb2]; rfl
  have f1 : w2.frozen? ⟨b, 1, none⟩ = false := Lib.frozen_of_heap hb2 1
  obtain ⟨ao, n', cap, rfl⟩ := slice_of hown'
  have hown2 : w2.ownsRow B 5 1 (.slice ao n' cap) (out ++ s.data.toList).length (Lib.byteCells (out ++ s.data.toList)) := by
    rw [Lib.byteCells_append]
    simpa [Lib.byteCells, Lib.strCells] using hown'
  have HW := hide (WrAt.put hB hb2 hown2)
  have HK2 : Hid (Kp B b w (w2.setCell ⟨b, 1, none⟩ (.slice ao n' cap))) :=
    Kp.setCell ⟨(unhide HK1).below.grown hgrow hsz (fun k hk => ((unhide HOWN).lt k hk).1), (unhide HK1).kept.grown hgrow (own_kind (unhide HOWN))⟩ hB 1 _
  clear hown' hgrow hown2 hb2
  go_wp2_with fail
  go_ret2
  exact ⟨rfl, Or.inr (unhide HW), unhide HK2⟩

theorem string_any {B b m : Nat} {l : List UInt8} {last : ByteArray} {w : World} (h : Wrt B b m l last w) (h0 : l ≠ []) (hlen : l.length ≤ 100000000) :
    Calls Tryz.prog 57 #[wPtr b] w fun e w' => e = .returned (.string ⟨l.toArray⟩) ∧ Below B w w' := by
  obtain ⟨p, hB, v, hbk, hown, hne⟩ : ∃ p, WrAt B b m l last p w := by
    rcases h with h | h
    · exact ⟨_, h⟩
    · exact ⟨_, h⟩
  have hl0 : l.length ≠ 0 := by simpa using h0
  obtain ⟨g, cap, cur, rfl, hbg, hg, hnc, hcm, hcs, htake⟩ : ∃ g cap cur, v = .slice (some ⟨g, 0, none⟩) l.length cap ∧ B ≤ g ∧ w.heap[g]? = some (.cells cur 5 (0, 0)) ∧ l.length ≤ cap ∧ cap ≤ maxLen ∧ cur.size = cap * 1 ∧ cur.toList.take (l.length * 1) = Lib.byteCells l := by
    rcases hown.2 with ⟨_, hz⟩ | ⟨g, cap, cur, hv, r⟩
    · exact absurd hz hl0
    · exact ⟨g, cap, cur, hv, r⟩
  have c1 : w.drew.cell? ⟨b, 1, none⟩ = some (.slice (some ⟨g, 0, none⟩) l.length cap) := by
    have : w.drew.heap[b]? = some (wrObj p (.slice (some ⟨g, 0, none⟩) l.length cap) last m) := hbk
    rw [Lib.cell_of_heap this]; rfl
  have hSD : (Builtin.unsafeSliceData_ #[82] 141 #[.slice (some ⟨g, 0, none⟩) l.length cap]).run Tryz.prog w.drew = .ok (.pointer (some ⟨g, 0, none⟩)) w.drew :=
    Lib.run_unsafeSliceData_row _ _ _ _ _ _ (by omega)
  have hUS : (Builtin.unsafeString_ #[141, 3] 9 #[.pointer (some ⟨g, 0, none⟩), .int .i64 l.length]).run Tryz.prog w.drew = .ok (.string ⟨l.toArray⟩) (w.drew.freeze ⟨g, 0, none⟩ l.length) := by
    refine Lib.run_unsafeString_row w.drew 141 3 9 5 Tryz.underlying141 (by kernel_rfl) g cur.size (by have hg' : w.drew.heap[g]? = some (.cells cur 5 (0, 0)) := hg; simp [World.shape?, hg']) l h0 (by omega) (by unfold maxLen at hcm; omega) ?_
    intro j x hx
    have := hown.cells (g := g) rfl j (.int .u8 x.toNat) (by simp [Lib.byteCells, hx])
    exact this
  clear hown hbk hne hg htake h
  go_enter Tryz.func57, Tryz.ntmps57
  go_wp2
  go_region
  all_goals (go_wp2; go_ret; exact ⟨rfl, Lib.below_freeze (Below.drew (Below.refl B w)) (p := ⟨g, 0, none⟩) hbg _⟩)
end Go.Proofs.YtodmgaikhbmlnaaGreatDoor
