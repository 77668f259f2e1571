/-
  The shape of programs: which nodes the grammar makes, and of what parts.
-/
import Derived.Test.YtoimgcjbcbhclaaGreatDoorAo24
namespace Go.Proofs.YtoimgcjbcbhclaaGreatDoor
inductive Shp (Nm : ByteArray → Prop) : Nat → Tr → Prop
 | name {s} (h : Nm s) : Shp Nm 0 (.mk 23 s 0 [])
 | str (s : ByteArray) : Shp Nm 0 (.mk 18 s 0 [])
 | num (n : Int) : Shp Nm 0 (.mk 17 noText n [])
 | lit {kd} (hk : kd = 19 ∨ kd = 20 ∨ kd = 21 ∨ kd = 22) : Shp Nm 0 (.mk kd noText 0 [])
 | memb {s t} (h : Nm s) (ht : Shp Nm 0 t) : Shp Nm 0 (.mk 36 s 0 [t])
 | call {t ts} (ht : Shp Nm 0 t) (hs : ∀ u ∈ ts, Shp Nm 0 u) (hl : ts.length ≤ 8) : Shp Nm 0 (.mk 35 noText 0 (t :: ts))
 | one {kd t} (hk : kd = 32 ∨ kd = 33 ∨ kd = 34) (ht : Shp Nm 0 t) : Shp Nm 0 (.mk kd noText 0 [t])
 | two {kd a b} (hk : 25 ≤ kd ∧ kd ≤ 31) (ha : Shp Nm 0 a) (hb : Shp Nm 0 b) : Shp Nm 0 (.mk kd noText 0 [a, b])
 | asg {a b} (hk : a.kd = 23 ∨ a.kd = 36) (ha : Shp Nm 0 a) (hb : Shp Nm 0 b) : Shp Nm 0 (.mk 24 noText 0 [a, b])
 | obj {ps} (hs : ∀ u ∈ ps, Shp Nm 2 u) (hl : ps.length ≤ 8) : Shp Nm 0 (.mk 38 noText 0 ps)
 | lam {s p b} (h : s = noText ∨ Nm s) (hp : Shp Nm 5 p) (hb : Shp Nm 4 b) : Shp Nm 0 (.mk 37 s 0 [p, b])
 | prop {s v} (h : Nm s) (hv : Shp Nm 0 v) : Shp Nm 2 (.mk 39 s 0 [v])
 | par {s} (h : Nm s) : Shp Nm 6 (.mk 23 s 0 [])
 | pars {ps} (hs : ∀ u ∈ ps, Shp Nm 6 u) (hl : ps.length ≤ 8) : Shp Nm 5 (.mk 40 noText 0 ps)
 | blk {ts} (hs : ∀ u ∈ ts, Shp Nm 1 u) : Shp Nm 3 (.mk 6 noText 0 ts)
 | body {tx ts} (ht : tx = noText ∨ tx = tStrict) (hs : ∀ u ∈ ts, Shp Nm 1 u) : Shp Nm 4 (.mk 6 tx 0 ts)
 | decl {kd s v} (hk : kd = 2 ∨ kd = 3 ∨ kd = 4) (h : Nm s) (hv : ∀ u ∈ v, Shp Nm 0 u) (hl : v.length ≤ 1) (hc : kd = 4 → v.length = 1) : Shp Nm 1 (.mk kd s 0 v)
 | func {s p b} (h : Nm s) (hp : Shp Nm 5 p) (hb : Shp Nm 4 b) : Shp Nm 1 (.mk 5 s 0 [p, b])
 | sblk {t} (h : Shp Nm 3 t) : Shp Nm 1 t
 | sif {v s} (hv : Shp Nm 0 v) (hs : Shp Nm 1 s) : Shp Nm 1 (.mk 7 noText 0 [v, s])
 | sife {v s e} (hv : Shp Nm 0 v) (hs : Shp Nm 1 s) (he : Shp Nm 1 e) : Shp Nm 1 (.mk 7 noText 0 [v, s, e])
 | loop {kd v s} (hk : kd = 8 ∨ kd = 9) (hv : Shp Nm 0 v) (hs : Shp Nm 1 s) : Shp Nm 1 (.mk kd noText 0 [v, s])
 | give {kd v} (hk : kd = 10 ∨ kd = 11) (hv : ∀ u ∈ v, Shp Nm 0 u) (hl : v.length ≤ 1) (hc : kd = 11 → v.length = 1) : Shp Nm 1 (.mk kd noText 0 v)
 | atm {b c f} (hb : Shp Nm 3 b) (hc : ∀ u ∈ c, Shp Nm 7 u) (hf : ∀ u ∈ f, Shp Nm 8 u) (hl : c.length ≤ 1 ∧ f.length ≤ 1 ∧ 0 < c.length + f.length) : Shp Nm 1 (.mk 12 noText 0 (b :: (c ++ f)))
 | cat {s b} (h : Nm s) (hb : Shp Nm 3 b) : Shp Nm 7 (.mk 13 s 0 [b])
 | fin {b} (hb : Shp Nm 3 b) : Shp Nm 8 (.mk 14 noText 0 [b])
 | empty : Shp Nm 1 (.mk 16 noText 0 [])
 | expr {v} (hv : Shp Nm 0 v) : Shp Nm 1 (.mk 15 noText 0 [v])
 | prog {tx ts} (ht : tx = noText ∨ tx = tStrict) (hs : ∀ u ∈ ts, Shp Nm 1 u) : Shp Nm 9 (.mk 1 tx 0 ts)
theorem codeT_mk (kd : Int) (n : Int) (ts : List Tr) : ∃ tx, (tx = noText ∨ tx = tStrict) ∧ codeT (.mk kd noText n ts) = .mk kd tx n ts := by
 unfold codeT
 split
 ·
  rename_i h; cases h; split
  ·
   exact ⟨_, Or.inr rfl, rfl⟩
  ·
   exact ⟨_, Or.inl rfl, rfl⟩
 ·
  exact ⟨_, Or.inl rfl, rfl⟩
theorem Shp.toBody {Nm : ByteArray → Prop} {t : Tr} (h : Shp Nm 3 t) : Shp Nm 4 (codeT t) := by
 cases h with
 | blk hs => obtain ⟨tx, h1, h2⟩ := codeT_mk 6 0 _; rw [h2]; exact .body h1 hs
theorem sgP_mem {k : Int} {x : ByteArray} {s : Sg} (h : sgP k x = some s) : s ∈ sgs ∧ s.parts = k := by
 unfold sgP at h
 have h1 := Option.filter_eq_some_iff.1 h
 exact ⟨List.mem_of_find?_eq_some h1.1, by simpa using h1.2⟩
def keyOk (q : Nat) (k : Int) : Bool := match q with
 | 0 => k == 2 || k == 3 || k == 4
 | 4 => k == 7
 | 5 => k == 8 || k == 9
 | 6 => k == 10 || k == 11
 | _ => true
section
variable {l : List Tk}
def NmL (l : List Tk) (s : ByteArray) : Prop := ∃ i, (tkA l i).kd = 1 ∧ (tkA l i).tx = s
theorem name_nm {i j : Nat} {s : ByteArray} (h : nameP l i = .ok s j) : NmL l s := by
 unfold nameP at h
 split at h
 ·
  rename_i h1; cases h; exact ⟨i, h1, rfl⟩
 ·
  cases h
theorem key_hd {q i : Nat} (h : look2 stKeys (fx l i) = some q) : keyOk q (hdKind (tkA l i).tx) = true := by
 unfold look2 at h
 cases hf : stKeys.find? (fun e => decide (fx l i = e.1)) with
 | none => rw [hf] at h; cases h
 | some e =>
  rw [hf] at h; have h1 := List.mem_of_find?_eq_some hf; have h2 : fx l i = e.1 := by simpa using List.find?_some hf
  have h3 : ∀ e ∈ stKeys, keyOk e.2 (hdKind e.1) = true ∧ e.1 ≠ noText := by decide +kernel
  have h4 : (tkA l i).tx = e.1 := by
   unfold fx at h2
   split at h2
   ·
    exact h2
   ·
    exact absurd h2.symm (h3 e h1).2
  cases h; rw [h4]; exact (h3 e h1).1
abbrev Kh (l : List Tk) (c : Nat) (r : PR Tr) : Prop := ∀ t j, r = .ok t j → Shp (NmL l) c t
theorem deep_kh {c : Nat} {f : Nat → Nat → PR Tr} {d i : Nat} (h : Kh l c (f (d + 1) i)) : Kh l c (deepP l f d i) := by
 unfold deepP
 split
 ·
  intro t j e; cases e
 ·
  exact h
theorem mem_app {P : Tr → Prop} {acc : List Tr} {u : Tr} (ha : ∀ x ∈ acc, P x) (hu : P u) : ∀ x ∈ acc ++ [u], P x := by
 intro x hx
 rcases List.mem_append.1 hx with h | h
 ·
  exact ha x h
 ·
  rw [List.mem_singleton.1 h]; exact hu
theorem listLoop_kh {c : Nat} {shut : ByteArray} {begins : Nat → Bool} {part : Nat → PR Tr} (hb : ∀ i t j, part i = .ok t j → begins i = true) (hp : ∀ i, Kh l c (part i)) : ∀ k acc i t j, (∀ x ∈ acc, Shp (NmL l) c x) → acc.length ≤ 8 → listLoop l shut begins part k acc i = .ok t j → (∀ x ∈ t, Shp (NmL l) c x) ∧ t.length ≤ 8 := by
 intro k
 induction k with
 | zero => intro acc i t j _ _ h; cases h
 | succ k ih =>
  intro acc i t j ha hl h; unfold listLoop at h
  split at h
  ·
   cases h
  ·
   rename_i hn
   obtain ⟨u, i1, h1, h⟩ := binds h; have hu := mem_app ha (hp i u i1 h1); have hl2 : (acc ++ [u]).length ≤ 8 := by
    have : acc.length ≠ 8 := fun e => hn ⟨e, hb _ _ _ h1⟩; simp; omega
   split at h
   ·
    cases h; exact ⟨hu, hl2⟩
   ·
    obtain ⟨_, i2, h2, h⟩ := binds h; exact ih _ _ _ _ hu hl2 h
theorem list_kh {c : Nat} {opn shut : ByteArray} {begins : Nat → Bool} {part : Nat → PR Tr} (hb : ∀ i t j, part i = .ok t j → begins i = true) (hp : ∀ i, Kh l c (part i)) {k i j : Nat} {t : List Tr} (h : listP l opn shut begins part k i = .ok t j) : (∀ x ∈ t, Shp (NmL l) c x) ∧ t.length ≤ 8 := by
 unfold listP at h
 obtain ⟨_, i1, h1, h⟩ := binds h
 split at h
 ·
  cases h; exact ⟨fun _ h => (by cases h), by simp⟩
 ·
  exact listLoop_kh hb hp _ _ _ _ _ (fun _ h => by cases h) (by simp) h
theorem isName_name {i j : Nat} {s : ByteArray} (h : nameP l i = .ok s j) : isName l i = true := by
 unfold nameP at h
 split at h
 ·
  rename_i h1; unfold isName; rw [h1]; rfl
 ·
  cases h
structure FKh (l : List Tk) (F : Fns) : Prop where
 st : ∀ d i, Kh l 1 (F.st d i)
 vl : ∀ d i, Kh l 0 (F.vl d i)
 pr : ∀ b d i, Kh l 0 (F.pr b d i)
 sg : ∀ d i, Kh l 0 (F.sg d i)
 bg : ∀ d i t j, F.vl d i = .ok t j → isVal l i = true
 bp : ∀ b d i t j, F.pr b d i = .ok t j → isVal l i = true
 bs : ∀ d i t j, F.sg d i = .ok t j → isVal l i = true
variable {F : Fns} (hF : FKh l F)
include hF
theorem blockLoop_kh {d : Nat} : ∀ k acc i t j, (∀ x ∈ acc, Shp (NmL l) 1 x) → blockLoop l F d k acc i = .ok t j → ∀ x ∈ t, Shp (NmL l) 1 x := by
 intro k
 induction k with
 | zero => intro acc i t j _ h; cases h
 | succ k ih =>
  intro acc i t j ha h; unfold blockLoop at h; exact zbfq
theorem block_kh {d i : Nat} : Kh l 3 (blockP l F d i) := by
 intro t j h
 unfold blockP at h
 obtain ⟨_, i1, h1, h⟩ := binds h
 obtain ⟨ts, i2, h2, h⟩ := binds h
 cases h
 exact .blk (blockLoop_kh hF _ _ _ _ _ (fun _ h => by cases h) h2)
omit hF in
theorem params_kh {i : Nat} : Kh l 5 (paramsP l F i) := by
 intro t j h
 unfold paramsP at h
 obtain ⟨ts, i1, h1, h⟩ := binds h
 cases h
 have := list_kh (c := 6) (fun i t j h => by unfold paramP at h; obtain ⟨_, _, h1, _⟩ := binds h; exact isName_name h1) (fun i t j h => by unfold paramP at h; obtain ⟨_, _, h1, h⟩ := binds h; cases h; exact .par (name_nm h1)) h1
 exact .pars this.1 this.2
theorem inPar_kh (d i : Nat) : Kh l 0 (inParP l F d i) := by
 intro t j h
 unfold inParP at h
 obtain ⟨_, i1, h1, h⟩ := binds h
 obtain ⟨u, i2, h2, h⟩ := binds h
 obtain ⟨_, i3, h3, h⟩ := binds h
 cases h
 exact deep_kh (hF.vl _ _) _ _ h2
theorem object_kh (d i : Nat) : Kh l 0 (objectP l F d i) := by
 intro t j h
 unfold objectP at h
 obtain ⟨ts, i1, h1, h⟩ := binds h
 cases h
 have := list_kh (c := 2) (fun i t j h => by unfold propP at h; obtain ⟨_, _, h1, _⟩ := binds h; exact isName_name h1) (fun i t j h => by
  unfold propP at h; obtain ⟨_, _, h1, h⟩ := binds h; obtain ⟨_, _, _, h⟩ := binds h; obtain ⟨_, _, h3, h⟩ := binds h; cases h; exact .prop (name_nm h1) (deep_kh (hF.vl _ _) _ _ h3)) h1
 exact .obj this.1 this.2
theorem tail_kh {kd : Int} {s : ByteArray} {d i j : Nat} {t : Tr} (h : funcTail l F kd s d i = .ok t j) : ∃ p b, t = .mk kd s 0 [p, b] ∧ Shp (NmL l) 5 p ∧ Shp (NmL l) 4 b := by
 unfold funcTail at h
 obtain ⟨ps, i1, h1, h⟩ := binds h
 obtain ⟨b, i2, h2, h⟩ := binds h
 cases h
 exact ⟨_, _, rfl, params_kh _ _ h1, (block_kh hF _ _ h2).toBody⟩
theorem lambda_kh (d i : Nat) : Kh l 0 (lambdaP l F d i) := by
 intro t j h
 unfold lambdaP at h
 obtain ⟨_, i1, h1, h⟩ := binds h
 split at h
 ·
  obtain ⟨s, i2, h2, h⟩ := binds h; obtain ⟨p, b, rfl, hp, hb⟩ := tail_kh hF h; exact .lam (Or.inr (name_nm h2)) hp hb
 ·
  obtain ⟨p, b, rfl, hp, hb⟩ := tail_kh hF h; exact .lam (Or.inl rfl) hp hb
theorem alone_kh (d i : Nat) : Kh l 0 (aloneP l F d i) := by
 unfold aloneP
 split
 ·
  exact inPar_kh hF d i
 ·
  exact object_kh hF d i
 ·
  exact lambda_kh hF d i
 ·
  split
  ·
   rename_i hsg; intro t j h; cases h
   have h2 : ∀ s ∈ sgs, s.parts = 0 → s.kd = 19 ∨ s.kd = 20 ∨ s.kd = 21 ∨ s.kd = 22 := by decide +kernel
   exact .lit (h2 _ (sgP_mem hsg).1 (sgP_mem hsg).2)
  ·
   split
   ·
    rename_i h1; intro t j h; cases h; exact .name ⟨i, h1, rfl⟩
   ·
    split
    ·
     intro t j h; cases h; exact .str _
    ·
     split
     ·
      intro t j h; cases h; exact .num _
     ·
      intro t j h; cases h
omit hF in
theorem alone_bg {d i j : Nat} {t : Tr} (h : aloneP l F d i = .ok t j) : isVal l i = true := by
 unfold isVal
 unfold aloneP at h
 cases hk : look2 vlKeys (fx l i) with
 | some q => simp
 | none =>
  rw [hk] at h; simp only at h
  cases hs : sgP 0 (fx l i) with
  | some s =>
   have h1 := sgP_mem hs; have h3 : ((sgOf (fx l i)).filter (fun e => decide (e.parts < 2))).isSome = true := by
    unfold sgP at hs; have h2 := Option.filter_eq_some_iff.1 hs; rw [h2.1]; simp [Option.filter, h1.2]
   rw [h3]; simp
  | none =>
   rw [hs] at h; simp only at h
   split at h
   ·
    rename_i h1; simp [h1]
   ·
    split at h
    ·
     rename_i h1; simp [h1]
    ·
     split at h
     ·
      rename_i h1; simp [h1]
     ·
      cases h
theorem askedLoop_kh {d : Nat} : ∀ k u i t j, Shp (NmL l) 0 u → askedLoop l F d k u i = .ok t j → Shp (NmL l) 0 t := by
 intro k
 induction k with
 | zero => intro u i t j _ h; cases h
 | succ k ih =>
  intro u i t j hu h; unfold askedLoop at h
  split at h
  ·
   obtain ⟨s, i1, h1, h⟩ := binds h; exact ih _ _ _ _ (.memb (name_nm h1) hu) h
  ·
   split at h
   ·
    obtain ⟨ts, i1, h1, h⟩ := binds h; have := list_kh (c := 0) (fun i t j h => by
     unfold deepP at h
     split at h
     ·
      cases h
     ·
      exact hF.bg _ _ _ _ h) (fun i => deep_kh (hF.vl _ _)) h1
    exact ih _ _ _ _ (.call hu this.1 this.2) h
   ·
    cases h; exact hu
theorem single_kh (d i : Nat) : Kh l 0 (singleP l F d i) := by
 unfold singleP
 split
 ·
  rename_i hsg
  intro t j h; obtain ⟨u, i1, h1, h⟩ := binds h; cases h; have h2 : ∀ s ∈ sgs, s.parts = 1 → s.kd = 32 ∨ s.kd = 33 ∨ s.kd = 34 := by decide +kernel
  exact .one (h2 _ (sgP_mem hsg).1 (sgP_mem hsg).2) (deep_kh (hF.sg _ _) u _ h1)
 ·
  intro t j h; unfold askedP at h; obtain ⟨u, i1, h1, h⟩ := binds h; exact askedLoop_kh hF _ _ _ _ _ (alone_kh hF d i u i1 h1) h
omit hF in
theorem single_bg (d i : Nat) (t : Tr) (j : Nat) (h : singleP l F d i = .ok t j) : isVal l i = true := by
 unfold singleP at h
 cases hs : sgP 1 (fx l i) with
 | some s =>
  have h1 := sgP_mem hs; have h3 : ((sgOf (fx l i)).filter (fun e => decide (e.parts < 2))).isSome = true := by
   unfold sgP at hs; have h2 := Option.filter_eq_some_iff.1 hs; rw [h2.1]; simp [Option.filter, h1.2]
  unfold isVal; rw [h3]; simp
 | none =>
  rw [hs] at h; simp only at h; unfold askedP at h; obtain ⟨u, i1, h1, _⟩ := binds h; exact alone_bg h1
theorem pairLoop_kh {b : Int} {d : Nat} : ∀ k u i t j, Shp (NmL l) 0 u → pairLoop l F b d k u i = .ok t j → Shp (NmL l) 0 t := by
 intro k
 induction k with
 | zero => intro u i t j _ h; cases h
 | succ k ih =>
  intro u i t j hu h; unfold pairLoop at h
  split at h
  ·
   cases h; exact hu
  ·
   rename_i hsg
   split at h
   ·
    cases h; exact hu
   ·
    obtain ⟨v, i1, h1, h⟩ := binds h; have h2 : ∀ s ∈ sgs, s.parts = 2 → 25 ≤ s.kd ∧ s.kd ≤ 31 := by decide +kernel
    exact ih _ _ _ _ (.two (h2 _ (sgP_mem hsg).1 (sgP_mem hsg).2) hu (hF.pr _ _ _ v i1 h1)) h
theorem pair_kh (b : Int) (d i : Nat) : Kh l 0 (pairP l F b d i) := by
 intro t j h
 unfold pairP at h
 obtain ⟨u, i1, h1, h⟩ := binds h
 exact pairLoop_kh hF _ _ _ _ _ (hF.sg _ _ u i1 h1) h
theorem value_kh (d i : Nat) : Kh l 0 (valueP l F d i) := by
 intro t j h
 unfold valueP at h
 obtain ⟨u, i1, h1, h⟩ := binds h
 have e1 := hF.pr _ _ _ u i1 h1
 split at h
 ·
  split at h
  ·
   rename_i hk
   obtain ⟨v, i2, h2, h⟩ := binds h; cases h; exact .asg hk e1 (deep_kh (hF.vl _ _) v _ h2)
  ·
   cases h
 ·
  cases h; exact e1
theorem part_kh (d q i : Nat) (hq : keyOk q (hdKind (tkA l i).tx) = true) : Kh l 1 (partP l F d q i) := by
 intro t j h
 unfold partP at h
 split at h
 ·
  have hk : hdKind (tkA l i).tx = 2 ∨ hdKind (tkA l i).tx = 3 ∨ hdKind (tkA l i).tx = 4 := by simpa [keyOk, or_assoc] using hq
  unfold declP at h; obtain ⟨s, i1, h1, h⟩ := binds h
  split at h
  ·
   cases h
  ·
   rename_i hn
   split at h
   ·
    obtain ⟨v, i2, h2, h⟩ := binds h; obtain ⟨_, i3, h3, h⟩ := binds h; cases h; have e2 := deep_kh (hF.vl _ _) v _ h2
    exact .decl hk (name_nm h1) (fun u hu => by rw [List.mem_singleton.1 hu]; exact e2) (by simp) (by simp)
   ·
    rename_i hx
    obtain ⟨_, i3, h3, h⟩ := binds h; cases h; exact .decl hk (name_nm h1) (fun u hu => by cases hu) (by simp) (fun e => absurd ⟨e, hx⟩ hn)
 ·
  unfold funcP at h; obtain ⟨_, i1, h1, h⟩ := binds h; obtain ⟨s, i2, h2, h⟩ := binds h; obtain ⟨p, b, rfl, hp, hb⟩ := tail_kh hF h; exact .func (name_nm h2) hp hb
 ·
  exact .sblk (block_kh hF _ _ h)
 ·
  obtain ⟨_, i3, h3, h⟩ := binds h; cases h; exact .empty
 ·
  have hk : hdKind (tkA l i).tx = 7 := by simpa [keyOk] using hq
  unfold choiceP at h; rw [hk] at h; obtain ⟨v, i1, h1, h⟩ := binds h; obtain ⟨s, i2, h2, h⟩ := binds h; have e1 := inPar_kh hF d _ v i1 h1; have e2 := deep_kh (hF.st _ _) s _ h2
  split at h
  ·
   obtain ⟨s2, i3, h3, h⟩ := binds h; cases h; exact .sife e1 e2 (deep_kh (hF.st _ _) s2 _ h3)
  ·
   cases h; exact .sif e1 e2
 ·
  have hk : hdKind (tkA l i).tx = 8 ∨ hdKind (tkA l i).tx = 9 := by simpa [keyOk] using hq
  unfold behindP at h; obtain ⟨v, i1, h1, h⟩ := binds h; obtain ⟨s, i2, h2, h⟩ := binds h; cases h; exact .loop hk (inPar_kh hF d _ v i1 h1) (deep_kh (hF.st _ _) s _ h2)
 ·
  have hk : hdKind (tkA l i).tx = 10 ∨ hdKind (tkA l i).tx = 11 := by simpa [keyOk] using hq
  unfold givingP at h
  split at h
  ·
   obtain ⟨v, i1, h1, h⟩ := binds h; obtain ⟨_, i2, h2, h⟩ := binds h; cases h; have e1 := deep_kh (hF.vl _ _) v _ h1; exact .give hk (fun u hu => by rw [List.mem_singleton.1 hu]; exact e1) (by simp) (by simp)
  ·
   rename_i hn
   obtain ⟨_, i2, h2, h⟩ := binds h; cases h; exact .give hk (fun u hu => by cases hu) (by simp) (fun e => absurd (Or.inl e) hn)
 ·
  unfold attemptP at h; obtain ⟨_, i0, h0, h⟩ := binds h; obtain ⟨b, i1, h1, h⟩ := binds h; obtain ⟨c, i2, h2, h⟩ := binds h; obtain ⟨f, i3, h3, h⟩ := binds h; have e2 : (∀ u ∈ c, Shp (NmL l) 7 u) ∧ c.length ≤ 1 := by
   unfold catchP at h2
   split at h2
   ·
    obtain ⟨_, k1, g1, h2⟩ := binds h2; obtain ⟨_, k2, g2, h2⟩ := binds h2; obtain ⟨_, k3, g3, h2⟩ := binds h2; obtain ⟨bb, k4, g4, h2⟩ := binds h2; cases h2
    exact ⟨fun u hu => by rw [List.mem_singleton.1 hu]; exact .cat (name_nm g2) (block_kh hF _ _ g4), by simp⟩
   ·
    cases h2; exact ⟨fun u hu => (by cases hu), by simp⟩
  have e3 : (∀ u ∈ f, Shp (NmL l) 8 u) ∧ f.length ≤ 1 := by
   unfold finallyP at h3
   split at h3
   ·
    obtain ⟨bb, k4, g4, h3⟩ := binds h3; cases h3; exact ⟨fun u hu => by rw [List.mem_singleton.1 hu]; exact .fin (block_kh hF _ _ g4), by simp⟩
   ·
    cases h3; exact ⟨fun u hu => (by cases hu), by simp⟩
  split at h
  ·
   cases h
  ·
   rename_i hn
   cases h; exact .atm (block_kh hF _ _ h1) e2.1 e3.1 ⟨e2.2, e3.2, by omega⟩
theorem statement_kh (d i : Nat) : Kh l 1 (statementP l F d i) := by
 unfold statementP
 split
 ·
  rename_i hq; exact part_kh hF d _ i (key_hd hq)
 ·
  intro t j h; unfold exprP at h; obtain ⟨v, i1, h1, h⟩ := binds h; obtain ⟨_, i2, h2, h⟩ := binds h; cases h; exact .expr (deep_kh (hF.vl _ _) v _ h1)
omit hF in
theorem fns_kh : ∀ k, FKh l (fns l k) := by
 intro k
 induction k with
 | zero => exact ⟨fun _ _ _ _ h => by (cases h), fun _ _ _ _ h => by (cases h), fun _ _ _ _ _ h => by (cases h), fun _ _ _ _ h => by (cases h), fun _ _ _ _ h => by (cases h), fun _ _ _ _ _ h => by (cases h), fun _ _ _ _ h => by (cases h)⟩
 | succ k ih => exact ⟨statement_kh ih, value_kh ih, pair_kh ih, single_kh ih, fun d i t j h => by
   change valueP l (fns l k) d i = _ at h; unfold valueP at h; obtain ⟨u, i1, h1, _⟩ := binds h; exact ih.bp _ _ _ _ _ h1, fun b d i t j h => by
   change pairP l (fns l k) b d i = _ at h; unfold pairP at h; obtain ⟨u, i1, h1, _⟩ := binds h; exact ih.bs _ _ _ _ h1, single_bg⟩
theorem progLoop_kh : ∀ k acc i t j, (∀ x ∈ acc, Shp (NmL l) 1 x) → progLoop l F k acc i = .ok t j → ∀ x ∈ t, Shp (NmL l) 1 x := by
 intro k
 induction k with
 | zero => intro acc i t j _ h; cases h
 | succ k ih =>
  intro acc i t j ha h; unfold progLoop at h; exact zbfq
theorem prog_kh : Kh l 9 (progP l F) := by
 intro t j h
 unfold progP at h
 obtain ⟨ts, i1, h1, h⟩ := binds h
 cases h
 obtain ⟨tx, h2, h3⟩ := codeT_mk 1 0 ts
 rw [h3]
 exact .prog h2 (progLoop_kh hF _ _ _ _ _ (fun _ h => by cases h) h1)
end
theorem parse_sh {ws signs : List ByteArray} {s : ByteArray} {t : Tr} (h : parseS ws signs s = .ok t) : ∃ l, toksR ws signs s (pastN gapB s 0) [] = .ok l ∧ Shp (NmL l) 9 t := by
 unfold parseS at h
 split at h
 ·
  cases h
 ·
  split at h
  ·
   cases h
  ·
   rename_i l hl
   refine ⟨l, hl, ?_⟩
   cases hp : progP l (fns l KK) with
   | out => rw [hp] at h; cases h
   | bad er p => rw [hp] at h; cases h
   | ok t2 j =>
    rw [hp] at h; simp only at h
    split at h
    ·
     cases h
    ·
     cases h; exact prog_kh (fns_kh _) _ _ hp
end Go.Proofs.YtoimgcjbcbhclaaGreatDoor
set_option maxRecDepth 100000
set_option maxHeartbeats 16000000
namespace Go.Proofs.YtoimgcjbcbhclaaGreatDoor
open Go.RowKit
section
variable {Nm : ByteArray → Prop} {c : Nat} {t : Tr} (h : Shp Nm c t)
include Nm c t h
theorem shp_kids : ∀ k ∈ t.kids, ∃ c', Shp Nm c' k := by
 induction h with
 | sblk h ih => exact ih
 | name h => intro k hk; cases hk
 | str s => intro k hk; cases hk
 | num n => intro k hk; cases hk
 | lit hk => intro k hk; cases hk
 | memb h ht => intro k hk; rw [List.mem_singleton.1 hk]; exact ⟨_, ht⟩
 | call ht hs hl =>
  intro k hk
  rcases List.mem_cons.1 hk with rfl | hk
  ·
   exact ⟨_, ht⟩
  ·
   exact ⟨_, hs k hk⟩
 | one hk ht => intro k hk; rw [List.mem_singleton.1 hk]; exact ⟨_, ht⟩
 | two hk ha hb =>
  exact zbge
 | asg hk ha hb =>
  exact zbge
 | obj hs hl => exact fun k hk => ⟨_, hs k hk⟩
 | lam h hp hb =>
  exact zbgd
 | prop h hv => intro k hk; rw [List.mem_singleton.1 hk]; exact ⟨_, hv⟩
 | par h => intro k hk; cases hk
 | pars hs hl => exact fun k hk => ⟨_, hs k hk⟩
 | blk hs => exact fun k hk => ⟨_, hs k hk⟩
 | body ht hs => exact fun k hk => ⟨_, hs k hk⟩
 | decl hk h hv hl hc => exact fun k hk => ⟨_, hv k hk⟩
 | func h hp hb =>
  exact zbgd
 | sif hv hs =>
  exact zbgc
 | sife hv hs he =>
  intro k hk
  rcases List.mem_cons.1 hk with rfl | hk
  ·
   exact ⟨_, hv⟩
  ·
   rcases List.mem_cons.1 hk with rfl | hk
   ·
    exact ⟨_, hs⟩
   ·
    rw [List.mem_singleton.1 hk]; exact ⟨_, he⟩
 | loop hk hv hs =>
  exact zbgc
 | give hk hv hl hc => exact fun k hk => ⟨_, hv k hk⟩
 | atm hb hc hf hl =>
  intro k hk
  rcases List.mem_cons.1 hk with rfl | hk
  ·
   exact ⟨_, hb⟩
  ·
   rcases List.mem_append.1 hk with hk | hk
   ·
    exact ⟨_, hc k hk⟩
   ·
    exact ⟨_, hf k hk⟩
 | cat h hb => intro k hk; rw [List.mem_singleton.1 hk]; exact ⟨_, hb⟩
 | fin hb => intro k hk; rw [List.mem_singleton.1 hk]; exact ⟨_, hb⟩
 | empty => intro k hk; cases hk
 | expr hv => intro k hk; rw [List.mem_singleton.1 hk]; exact ⟨_, hv⟩
 | prog ht hs => exact fun k hk => ⟨_, hs k hk⟩
theorem shp_fun (hf : isFunT t = true) : ∃ p b, t.kids = [p, b] ∧ Shp Nm 5 p ∧ Shp Nm 4 b := by
 induction h with
 | sblk h ih => exact ih hf
 | lam h hp hb => exact ⟨_, _, rfl, hp, hb⟩
 | func h hp hb => exact ⟨_, _, rfl, hp, hb⟩
 | lit hk => rcases hk with rfl | rfl | rfl | rfl <;> cases hf
 | one hk ht => rcases hk with rfl | rfl | rfl <;> cases hf
 | two hk ha hb =>
  unfold isFunT at hf; simp [Tr.kd] at hf; omega
 | decl hk h hv hl hc => rcases hk with rfl | rfl | rfl <;> cases hf
 | loop hk hv hs => rcases hk with rfl | rfl <;> cases hf
 | give hk hv hl hc => rcases hk with rfl | rfl <;> cases hf
 | _ => cases hf
end
theorem shp_par {Nm : ByteArray → Prop} {t : Tr} (h : Shp Nm 5 t ∨ Shp Nm 6 t) : isFunT t = false ∧ ∀ k ∈ t.kids, Shp Nm 5 k ∨ Shp Nm 6 k := by
 rcases h with h | h
 ·
  cases h with
  | pars hs hl => exact ⟨rfl, fun k hk => Or.inr (hs k hk)⟩
 ·
  cases h with
  | par h => exact ⟨rfl, fun k hk => by cases hk⟩
def FS (t : Ad) : Prop := ∀ x ∈ t.all, isFunT x.tr = true → ∃ y z, x.ks = [y, z] ∧ z.kd = 6 ∧ ∀ v ∈ y.all, isFunT v.tr = false
theorem fs_of {Nm : ByteArray → Prop} {c : Nat} {t : Ad} (h : Shp Nm c t.tr) : FS t := by
 intro x hx hf
 obtain ⟨c', hs⟩ := all_ind (P := fun x => ∃ c', Shp Nm c' x.tr) (fun a ⟨c', ha⟩ k hk => shp_kids ha k.tr (by rw [a.tr_eq.2.2]; exact List.mem_map_of_mem hk)) t.cnt t (Nat.le_refl _) ⟨c, h⟩ x hx
 obtain ⟨p, b, hk, hp, hb⟩ := shp_fun hs hf
 rw [x.tr_eq.2.2] at hk
 match hks : x.ks, hk with
 | [y, z], hk =>
  have hk1 : y.tr = p := by simp at hk; exact hk.1
  have hk2 : z.tr = b := by simp at hk; exact hk.2
  subst hk1 hk2; refine ⟨y, z, rfl, ?_, fun v hv => ?_⟩
  ·
   rw [← z.tr_eq.1]
   generalize z.tr = zt at hb
   cases hb with
   | body ht hs => rfl
  ·
   have h1 := all_ind (P := fun v => Shp Nm 5 v.tr ∨ Shp Nm 6 v.tr) (fun a ha k hk => (shp_par ha).2 k.tr (by rw [a.tr_eq.2.2]; exact List.mem_map_of_mem hk)) y.cnt y (Nat.le_refl _) (Or.inl hp) v hv
   exact (shp_par h1).1
 | [], hk => simp at hk
 | [_], hk => simp at hk
 | _ :: _ :: _ :: _, hk => simp at hk
def fltS : Nat → Option Nat → List Ad → List (Nat × Ad)
 | _, _, [] => []
 | i, b, a :: l => (if keepA (bodyP b a) a then [(i, a)] else []) ++ fltS (i + 1) (bodyP b a) l
theorem fltS_app : ∀ (l m : List Ad) (i : Nat) (b : Option Nat), fltS i b (l ++ m) = fltS i b l ++ fltS (i + l.length) (l.foldl bodyP b) m
 | [], m, i, b => by simp [fltS]
 | a :: l, m, i, b => by
  rw [List.cons_append, fltS, fltS, fltS_app l m, List.append_assoc, List.foldl_cons, List.length_cons]
  congr 3
  omega
mutual
theorem wk_os : ∀ (a : Ad) (s : OSt), wk osF s a = (s.1 + a.all.length, a.all.foldl bodyP s.2.1, s.2.2 ++ fltS s.1 s.2.1 a.all)
 | .mk p kd tx n ks, s => by
  rw [wk, Ad.all]; have e : (osF s (.mk p kd tx n ks)).2 = true := rfl; rw [if_pos e, wks_os ks]; simp only [osF, fltS, List.foldl_cons, List.length_cons]; refine Prod.ext (by simp only []; omega) (Prod.ext rfl ?_)
  simp only []
  split
  ·
   rw [List.append_assoc]
  ·
   rw [List.nil_append]
theorem wks_os : ∀ (es : List Ad) (s : OSt), wks osF s es = (s.1 + (Ad.alls es).length, (Ad.alls es).foldl bodyP s.2.1, s.2.2 ++ fltS s.1 s.2.1 (Ad.alls es))
 | [], s => by rw [wks, Ad.alls]; simp [fltS]
 | a :: es, s => by
  rw [wks, wk_os a s, wks_os es, Ad.alls, fltS_app, List.length_append, List.foldl_append]; simp only [List.append_assoc]; refine Prod.ext (by simp only []; omega) rfl
end
theorem scopesL_eq (t : Ad) : scopesL t = fltS 0 none t.all := by
 unfold scopesL
 rw [wk_os]
 simp
theorem flt_low (at' : Int) : ∀ (l : List Ad) (i : Nat) (b : Option Nat), at' < (i : Int) → (fltS i b l).find? (fun e => decide (at' = (e.1 : Int))) = none
 | [], _, _, _ => rfl
 | a :: l, i, b, h => by
  rw [fltS, List.find?_append, flt_low at' l (i + 1) _ (by omega)]
  split
  ·
   rw [List.find?_cons, decide_eq_false (by simp only []; omega)]; rfl
  ·
   rfl
theorem flt_high (at' : Int) : ∀ (l : List Ad) (i : Nat) (b : Option Nat), (i : Int) + l.length ≤ at' → (fltS i b l).find? (fun e => decide (at' = (e.1 : Int))) = none
 | [], _, _, _ => rfl
 | a :: l, i, b, h => by
  rw [List.length_cons] at h; rw [fltS, List.find?_append, flt_high at' l (i + 1) _ (by omega)]
  split
  ·
   rw [List.find?_cons, decide_eq_false (by simp only []; omega)]; rfl
  ·
   rfl
theorem flt_mid : ∀ (l : List Ad) (i k : Nat) (b : Option Nat) (hk : k < l.length), (fltS i b l).find? (fun e => decide (((i + k : Nat) : Int) = (e.1 : Int))) = if keepA ((l.take (k + 1)).foldl bodyP b) l[k] then some (i + k, l[k]) else none
 | [], _, _, _, hk => by cases hk
 | a :: l, i, 0, b, _ => by
  rw [fltS, List.find?_append, flt_low _ l (i + 1) _ (by omega)]
  by_cases hk : keepA (bodyP b a) a = true
  ·
   rw [if_pos hk, if_pos (show keepA (((a :: l).take (0 + 1)).foldl bodyP b) (a :: l)[0] = true from hk)]; simp
  ·
   rw [if_neg hk, if_neg (show ¬ keepA (((a :: l).take (0 + 1)).foldl bodyP b) (a :: l)[0] = true from hk)]; rfl
 | a :: l, i, k + 1, b, hk => by
  rw [List.length_cons] at hk; have h := flt_mid l (i + 1) k (bodyP b a) (by omega); have e : i + 1 + k = i + (k + 1) := by omega
  rw [e] at h; rw [fltS, List.find?_append, h, List.take_succ_cons, List.foldl_cons, List.getElem_cons_succ]
  split
  ·
   rw [List.find?_cons, decide_eq_false (by simp only []; omega)]; rfl
  ·
   rfl
theorem body_some : ∀ (l : List Ad) (b : Option Nat) (q : Nat), l.foldl bodyP b = some q → b = some q ∨ ∃ y ∈ l, bodyOf y q = true
 | [], b, q, h => Or.inl h
 | a :: l, b, q, h => by
  rcases body_some l _ q h with h1 | ⟨y, h1, h2⟩
  ·
   unfold bodyP at h1
   split at h1
   ·
    rename_i hf
    split at h1
    ·
     rename_i x y ks hks
     refine Or.inr ⟨a, by simp, ?_⟩; unfold bodyOf; rw [hf, hks]; simpa using h1
    ·
     exact Or.inl h1
   ·
    exact Or.inl h1
  ·
   exact Or.inr ⟨y, by simp [h1], h2⟩
theorem body_none : ∀ (l : List Ad) (b : Option Nat), (∀ v ∈ l, isFunT v.tr = false) → l.foldl bodyP b = b
 | [], _, _ => rfl
 | a :: l, b, h => by
  rw [List.foldl_cons]; have e : bodyP b a = b := by unfold bodyP; rw [h a (by simp)]; rfl
  rw [e]; exact body_none l b fun v hv => h v (by simp [hv])
theorem all_split (t : Ad) : ∀ x ∈ t.all, ∃ pre post, t.all = pre ++ x.all ++ post := by
 refine all_ind (P := fun x => ∃ pre post, t.all = pre ++ x.all ++ post) (fun a ⟨pre, post, ha⟩ k hk => ?_) t.cnt t (Nat.le_refl _) ⟨[], [], by simp⟩
 obtain ⟨s1, s2, hs⟩ := List.append_of_mem hk
 refine ⟨pre ++ a :: Ad.alls s1, Ad.alls s2 ++ post, ?_⟩
 rw [ha, all_eq a, hs, alls_app, Ad.alls]
 simp
theorem nodup_at {l : List Ad} (hd : (l.map Ad.p).Nodup) {i j : Nat} (hi : i < l.length) (hj : j < l.length) (h : (l[i]).p = (l[j]).p) : i = j := by
 have h1 := (List.getElem_inj (h₀ := by rw [List.length_map]; exact hi) (h₁ := by rw [List.length_map]; exact hj) hd).1 (by simpa using h)
 exact h1
theorem body_at {t : Ad} (hd : t.ads.Nodup) (hF : FS t) {k : Nat} (hk : k < t.all.length) {y : Ad} (hy : y ∈ t.all) (hb : bodyOf y (t.all[k]).p = true) :
  (t.all[k]).kd = 6 ∧ (t.all.take (k + 1)).foldl bodyP none = some (t.all[k]).p := by
 have hf : isFunT y.tr = true := by
  unfold bodyOf at hb; rw [Bool.and_eq_true] at hb; exact hb.1
 obtain ⟨a, z, hks, hz6, hnf⟩ := hF y hy hf
 have hp : z.p = (t.all[k]).p := by
  unfold bodyOf at hb; rw [hf, hks] at hb; simpa using hb
 obtain ⟨pre, post, hsp⟩ := all_split t y hy
 have hs2 : t.all = (pre ++ y :: a.all) ++ z :: (Ad.alls z.ks ++ post) := by
  rw [hsp, all_eq y, hks, Ad.alls, Ad.alls, Ad.alls, all_eq z]; simp
 have hl : (pre ++ y :: a.all).length < t.all.length := by rw [hs2]; simp
 have hm : t.all[(pre ++ y :: a.all).length] = z := by
  exact zbef
 have hkk : (pre ++ y :: a.all).length = k := nodup_at (by rw [all_ads]; exact hd) hl hk (by rw [hm]; exact hp)
 subst hkk
 rw [hm]
 refine ⟨hz6, ?_⟩
 have ht : t.all.take ((pre ++ y :: a.all).length + 1) = pre ++ y :: a.all ++ [z] := by
  rw [List.take_succ_eq_append_getElem hl, hm]
  congr 1
  have := List.take_left' (l₁ := pre ++ y :: a.all) (l₂ := z :: (Ad.alls z.ks ++ post)) rfl; rw [← hs2] at this; exact this
 rw [ht, List.foldl_append, List.foldl_append, List.foldl_cons, List.foldl_cons, List.foldl_nil, body_none a.all _ hnf]
 have e1 : ∀ b, bodyP b y = some z.p := by intro b; unfold bodyP; rw [hf, hks]; rfl
 have e2 : ∀ b, bodyP b z = b := by
  intro b; unfold bodyP; have : isFunT z.tr = false := by unfold isFunT; rw [z.tr_eq.1, hz6]; rfl
  rw [this]; rfl
 rw [e1, e2]
theorem once_nil_iff (l : List ByteArray) : 0 < (onceL l).length ↔ 0 < l.length := by
 rw [List.length_pos_iff_exists_mem, List.length_pos_iff_exists_mem]
 exact ⟨fun ⟨x, h⟩ => ⟨x, once_mem.1 h⟩, fun ⟨x, h⟩ => ⟨x, once_mem.2 h⟩⟩
theorem owns_eq {t : Ad} (hd : t.ads.Nodup) (hF : FS t) (at' : Int) : ownsN t at' = rownsN t at' ∧ (ownsL t at').isSome = decide (0 < (rownsN t at').length) := by
 unfold ownsN ownsL
 rw [scopesL_eq]
 have rn : ∀ k (hk : k < t.all.length), rownsN t (k : Int) = rown t.all t.all[k] := fun k hk => by
  unfold rownsN; rw [dif_pos ⟨by omega, by simpa using hk⟩]; rfl
 have r0 : ¬ (0 ≤ at' ∧ at'.toNat < t.all.length) → rownsN t at' = [] := fun h => by
  unfold rownsN; rw [dif_neg h]
 by_cases h0 : at' < 0
 ·
  rw [flt_low at' t.all 0 none (by omega), r0 (by omega)]; exact ⟨rfl, rfl⟩
 ·
  by_cases h1 : (t.all.length : Int) ≤ at'
  ·
   rw [flt_high at' t.all 0 none (by omega), r0 (by omega)]; exact ⟨rfl, rfl⟩
  ·
   obtain ⟨k, rfl⟩ : ∃ k : Nat, at' = (k : Int) := ⟨at'.toNat, by omega⟩; have hk : k < t.all.length := by omega
   have hm := flt_mid t.all 0 k none hk; rw [Nat.zero_add] at hm; rw [hm, rn k hk]; obtain ⟨b, hb⟩ : ∃ b, (t.all.take (k + 1)).foldl bodyP none = b := ⟨_, rfl⟩; rw [hb]
   by_cases hbx : b = some (t.all[k]).p
   ·
    have hkeep : keepA b (t.all[k]) = false := by unfold keepA; rw [hbx]; simp
    rw [hkeep]; subst hbx
    rcases body_some _ _ _ hb with h2 | ⟨y, h2, h3⟩
    ·
     cases h2
    ·
     have hy : y ∈ t.all := List.mem_of_mem_take h2; have h6 := (body_at hd hF hk hy h3).1; have hr : rown t.all (t.all[k]) = [] := by
      unfold rown; rw [if_pos ⟨h6, List.any_eq_true.2 ⟨y, hy, h3⟩⟩]
     generalize rown t.all (t.all[k]) = R at hr ⊢
     subst hr; exact ⟨rfl, rfl⟩
   ·
    have hr : rown t.all (t.all[k]) = onceL ((declT (t.all[k]).tr).map Tr.tx) := by
     unfold rown; rw [if_neg]; rintro ⟨_, h3⟩; obtain ⟨y, hy, h4⟩ := List.any_eq_true.1 h3; exact hbx (hb.symm.trans (body_at hd hF hk hy h4).2)
    generalize rown t.all (t.all[k]) = R at hr ⊢
    subst hr; have hne : (!(b == some (t.all[k]).p)) = true := by
     rw [Bool.not_eq_true', beq_eq_false_iff_ne]; exact hbx
    unfold keepA; rw [hne, Bool.true_and]
    by_cases hl : 0 < (declT (t.all[k]).tr).length
    ·
     rw [decide_eq_true hl, if_pos rfl]; refine ⟨rfl, ?_⟩; rw [decide_eq_true ((once_nil_iff _).2 (by rw [List.length_map]; exact hl))]
     rfl
    ·
     rw [decide_eq_false hl]; have hz : declT (t.all[k]).tr = [] := List.length_eq_zero_iff.1 (by omega); rw [hz]; exact ⟨rfl, rfl⟩
end Go.Proofs.YtoimgcjbcbhclaaGreatDoor
