/-
  The shape of programs: which nodes the grammar makes, and of what parts.
-/
import Derived.Test.YtodmgaikhbmlnaaGreatDoorHf32
namespace Go.Proofs.YtodmgaikhbmlnaaGreatDoor
inductive Shp (Nm : ByteArray → Prop) : Nat → Tr → Prop
 | name {s} (h : Nm s) : Shp Nm 0 (.mk 23 s 0 [])
 | str (s : ByteArray) : Shp Nm 0 (.mk 18 s 0 [])
 | num (n : Int) : Shp Nm 0 (.mk 17 noText n [])
 | lit {kd} (hk : kd = 19 ∨ kd = 20 ∨ kd = 21 ∨ kd = 22) : Shp Nm 0 (.mk kd noText 0 [])
 | memb {s t} (h : Nm s) (ht : Shp Nm 0 t) : Shp Nm 0 (.mk 36 s 0 [t])
 | call {t ts} (ht : Shp Nm 0 t) (hs : ∀ u ∈ ts, Shp Nm 0 u) (hl : ts.length ≤ 8) : Shp Nm 0 (.mk 35 noText 0 (t :: ts))
 | one {kd t} (hk : kd = 32 ∨ kd = 33 ∨ kd = 34) (ht : Shp Nm 0 t) : Shp Nm 0 (.mk kd noText 0 [t])
 | two {kd a b} (hk : 25 ≤ kd ∧ kd ≤ 31) (ha : Shp Nm 0 a) (hb : Shp Nm 0 b) : Shp Nm 0 (.mk kd noText 0 [a, b])
 | asg {a b} (hk : a.kd = 23 ∨ a.kd = 36) (ha : Shp Nm 0 a) (hb : Shp Nm 0 b) : Shp Nm 0 (.mk 24 noText 0 [a, b])
 | obj {ps} (hs : ∀ u ∈ ps, Shp Nm 2 u) (hl : ps.length ≤ 8) : Shp Nm 0 (.mk 38 noText 0 ps)
 | lam {s p b} (h : s = noText ∨ Nm s) (hp : Shp Nm 5 p) (hb : Shp Nm 4 b) : Shp Nm 0 (.mk 37 s 0 [p, b])
 | prop {s v} (h : Nm s) (hv : Shp Nm 0 v) : Shp Nm 2 (.mk 39 s 0 [v])
 | par {s} (h : Nm s) : Shp Nm 6 (.mk 23 s 0 [])
 | pars {ps} (hs : ∀ u ∈ ps, Shp Nm 6 u) (hl : ps.length ≤ 8) : Shp Nm 5 (.mk 40 noText 0 ps)
 | blk {ts} (hs : ∀ u ∈ ts, Shp Nm 1 u) : Shp Nm 3 (.mk 6 noText 0 ts)
 | body {tx ts} (ht : tx = noText ∨ tx = tStrict) (hs : ∀ u ∈ ts, Shp Nm 1 u) : Shp Nm 4 (.mk 6 tx 0 ts)
 | decl {kd s v} (hk : kd = 2 ∨ kd = 3 ∨ kd = 4) (h : Nm s) (hv : ∀ u ∈ v, Shp Nm 0 u) (hl : v.length ≤ 1) (hc : kd = 4 → v.length = 1) : Shp Nm 1 (.mk kd s 0 v)
 | func {s p b} (h : Nm s) (hp : Shp Nm 5 p) (hb : Shp Nm 4 b) : Shp Nm 1 (.mk 5 s 0 [p, b])
 | sblk {t} (h : Shp Nm 3 t) : Shp Nm 1 t
 | sif {v s} (hv : Shp Nm 0 v) (hs : Shp Nm 1 s) : Shp Nm 1 (.mk 7 noText 0 [v, s])
 | sife {v s e} (hv : Shp Nm 0 v) (hs : Shp Nm 1 s) (he : Shp Nm 1 e) : Shp Nm 1 (.mk 7 noText 0 [v, s, e])
 | loop {kd v s} (hk : kd = 8 ∨ kd = 9) (hv : Shp Nm 0 v) (hs : Shp Nm 1 s) : Shp Nm 1 (.mk kd noText 0 [v, s])
 | give {kd v} (hk : kd = 10 ∨ kd = 11) (hv : ∀ u ∈ v, Shp Nm 0 u) (hl : v.length ≤ 1) (hc : kd = 11 → v.length = 1) : Shp Nm 1 (.mk kd noText 0 v)
 | atm {b c f} (hb : Shp Nm 3 b) (hc : ∀ u ∈ c, Shp Nm 7 u) (hf : ∀ u ∈ f, Shp Nm 8 u) (hl : c.length ≤ 1 ∧ f.length ≤ 1 ∧ 0 < c.length + f.length) : Shp Nm 1 (.mk 12 noText 0 (b :: (c ++ f)))
 | cat {s b} (h : Nm s) (hb : Shp Nm 3 b) : Shp Nm 7 (.mk 13 s 0 [b])
 | fin {b} (hb : Shp Nm 3 b) : Shp Nm 8 (.mk 14 noText 0 [b])
 | empty : Shp Nm 1 (.mk 16 noText 0 [])
 | expr {v} (hv : Shp Nm 0 v) : Shp Nm 1 (.mk 15 noText 0 [v])
 | prog {tx ts} (ht : tx = noText ∨ tx = tStrict) (hs : ∀ u ∈ ts, Shp Nm 1 u) : Shp Nm 9 (.mk 1 tx 0 ts)
theorem codeT_mk (kd : Int) (n : Int) (ts : List Tr) : ∃ tx, (tx = noText ∨ tx = tStrict) ∧ codeT (.mk kd noText n ts) = .mk kd tx n ts := by
 unfold codeT
 split
 ·
  rename_i h; cases h; split
  ·
   exact ⟨_, Or.inr rfl, rfl⟩
  ·
   exact ⟨_, Or.inl rfl, rfl⟩
 ·
  exact ⟨_, Or.inl rfl, rfl⟩
theorem Shp.toBody {Nm : ByteArray → Prop} {t : Tr} (h : Shp Nm 3 t) : Shp Nm 4 (codeT t) := by
 cases h with
 | blk hs => obtain ⟨tx, h1, h2⟩ := codeT_mk 6 0 _; rw [h2]; exact .body h1 hs
theorem sgP_mem {k : Int} {x : ByteArray} {s : Sg} (h : sgP k x = some s) : s ∈ sgs ∧ s.parts = k := by
 unfold sgP at h
 have h1 := Option.filter_eq_some_iff.1 h
 exact ⟨List.mem_of_find?_eq_some h1.1, by simpa using h1.2⟩
def keyOk (q : Nat) (k : Int) : Bool := match q with
 | 0 => k == 2 || k == 3 || k == 4
 | 4 => k == 7
 | 5 => k == 8 || k == 9
 | 6 => k == 10 || k == 11
 | _ => true
section
variable {l : List Tk}
def NmL (l : List Tk) (s : ByteArray) : Prop := ∃ i, (tkA l i).kd = 1 ∧ (tkA l i).tx = s
theorem name_nm {i j : Nat} {s : ByteArray} (h : nameP l i = .ok s j) : NmL l s := by
 unfold nameP at h
 split at h
 ·
  rename_i h1; cases h; exact ⟨i, h1, rfl⟩
 ·
  cases h
theorem key_hd {q i : Nat} (h : look2 stKeys (fx l i) = some q) : keyOk q (hdKind (tkA l i).tx) = true := by
 unfold look2 at h
 cases hf : stKeys.find? (fun e => decide (fx l i = e.1)) with
 | none => rw [hf] at h; cases h
 | some e =>
  rw [hf] at h; have h1 := List.mem_of_find?_eq_some hf; have h2 : fx l i = e.1 := by simpa using List.find?_some hf
  have h3 : ∀ e ∈ stKeys, keyOk e.2 (hdKind e.1) = true ∧ e.1 ≠ noText := by decide +kernel
  have h4 : (tkA l i).tx = e.1 := by
   unfold fx at h2
   split at h2
   ·
    exact h2
   ·
    exact absurd h2.symm (h3 e h1).2
  cases h; rw [h4]; exact (h3 e h1).1
abbrev Kh (l : List Tk) (c : Nat) (r : PR Tr) : Prop := ∀ t j, r = .ok t j → Shp (NmL l) c t
theorem deep_kh {c : Nat} {f : Nat → Nat → PR Tr} {d i : Nat} (h : Kh l c (f (d + 1) i)) : Kh l c (deepP l f d i) := by
 unfold deepP
 split
 ·
  intro t j e; cases e
 ·
  exact h
theorem mem_app {P : Tr → Prop} {acc : List Tr} {u : Tr} (ha : ∀ x ∈ acc, P x) (hu : P u) : ∀ x ∈ acc ++ [u], P x := by
 intro x hx
 rcases List.mem_append.1 hx with h | h
 ·
  exact ha x h
 ·
  rw [List.mem_singleton.1 h]; exact hu
theorem listLoop_kh {c : Nat} {shut : ByteArray} {begins : Nat → Bool} {part : Nat → PR Tr} (hb : ∀ i t j, part i = .ok t j → begins i = true) (hp : ∀ i, Kh l c (part i)) : ∀ k acc i t j, (∀ x ∈ acc, Shp (NmL l) c x) → acc.length ≤ 8 → listLoop l shut begins part k acc i = .ok t j → (∀ x ∈ t, Shp (NmL l) c x) ∧ t.length ≤ 8 := by
 intro k
 induction k with
 | zero => intro acc i t j _ _ h; cases h
 | succ k ih =>
  intro acc i t j ha hl h; unfold listLoop at h
  split at h
  ·
   cases h
  ·
   rename_i hn
   obtain ⟨u, i1, h1, h⟩ := binds h; have hu := mem_app ha (hp i u i1 h1); have hl2 : (acc ++ [u]).length ≤ 8 := by
    have : acc.length ≠ 8 := fun e => hn ⟨e, hb _ _ _ h1⟩; simp; omega
   split at h
   ·
    cases h; exact ⟨hu, hl2⟩
   ·
    obtain ⟨_, i2, h2, h⟩ := binds h; exact ih _ _ _ _ hu hl2 h
theorem list_kh {c : Nat} {opn shut : ByteArray} {begins : Nat → Bool} {part : Nat → PR Tr} (hb : ∀ i t j, part i = .ok t j → begins i = true) (hp : ∀ i, Kh l c (part i)) {k i j : Nat} {t : List Tr} (h : listP l opn shut begins part k i = .ok t j) : (∀ x ∈ t, Shp (NmL l) c x) ∧ t.length ≤ 8 := by
 unfold listP at h
 obtain ⟨_, i1, h1, h⟩ := binds h
 split at h
 ·
  cases h; exact ⟨fun _ h => (by cases h), by simp⟩
 ·
  exact listLoop_kh hb hp _ _ _ _ _ (fun _ h => by cases h) (by simp) h
theorem isName_name {i j : Nat} {s : ByteArray} (h : nameP l i = .ok s j) : isName l i = true := by
 unfold nameP at h
 split at h
 ·
  rename_i h1; unfold isName; rw [h1]; rfl
 ·
  cases h
structure FKh (l : List Tk) (F : Fns) : Prop where
 st : ∀ d i, Kh l 1 (F.st d i)
 vl : ∀ d i, Kh l 0 (F.vl d i)
 pr : ∀ b d i, Kh l 0 (F.pr b d i)
 sg : ∀ d i, Kh l 0 (F.sg d i)
 bg : ∀ d i t j, F.vl d i = .ok t j → isVal l i = true
 bp : ∀ b d i t j, F.pr b d i = .ok t j → isVal l i = true
 bs : ∀ d i t j, F.sg d i = .ok t j → isVal l i = true
variable {F : Fns} (hF : FKh l F)
include hF
theorem blockLoop_kh {d : Nat} : ∀ k acc i t j, (∀ x ∈ acc, Shp (NmL l) 1 x) → blockLoop l F d k acc i = .ok t j → ∀ x ∈ t, Shp (NmL l) 1 x := by
 intro k
 induction k with
 | zero => intro acc i t j _ h; cases h
 | succ k ih =>
  intro acc i t j ha h; unfold blockLoop at h; exact zbfm
theorem block_kh {d i : Nat} : Kh l 3 (blockP l F d i) := by
 intro t j h
 unfold blockP at h
 obtain ⟨_, i1, h1, h⟩ := binds h
 obtain ⟨ts, i2, h2, h⟩ := binds h
 cases h
 exact .blk (blockLoop_kh hF _ _ _ _ _ (fun _ h => by cases h) h2)
omit hF in
theorem params_kh {i : Nat} : Kh l 5 (paramsP l F i) := by
 intro t j h
 unfold paramsP at h
 obtain ⟨ts, i1, h1, h⟩ := binds h
 cases h
 have := list_kh (c := 6) (fun i t j h => by unfold paramP at h; obtain ⟨_, _, h1, _⟩ := binds h; exact isName_name h1) (fun i t j h => by unfold paramP at h; obtain ⟨_, _, h1, h⟩ := binds h; cases h; exact .par (name_nm h1)) h1
 exact .pars this.1 this.2
theorem inPar_kh (d i : Nat) : Kh l 0 (inParP l F d i) := by
 intro t j h
 unfold inParP at h
 obtain ⟨_, i1, h1, h⟩ := binds h
 obtain ⟨u, i2, h2, h⟩ := binds h
 obtain ⟨_, i3, h3, h⟩ := binds h
 cases h
 exact deep_kh (hF.vl _ _) _ _ h2
theorem object_kh (d i : Nat) : Kh l 0 (objectP l F d i) := by
 intro t j h
 unfold objectP at h
 obtain ⟨ts, i1, h1, h⟩ := binds h
 cases h
 have := list_kh (c := 2) (fun i t j h => by unfold propP at h; obtain ⟨_, _, h1, _⟩ := binds h; exact isName_name h1) (fun i t j h => by
  unfold propP at h; obtain ⟨_, _, h1, h⟩ := binds h; obtain ⟨_, _, _, h⟩ := binds h; obtain ⟨_, _, h3, h⟩ := binds h; cases h; exact .prop (name_nm h1) (deep_kh (hF.vl _ _) _ _ h3)) h1
 exact .obj this.1 this.2
theorem tail_kh {kd : Int} {s : ByteArray} {d i j : Nat} {t : Tr} (h : funcTail l F kd s d i = .ok t j) : ∃ p b, t = .mk kd s 0 [p, b] ∧ Shp (NmL l) 5 p ∧ Shp (NmL l) 4 b := by
 unfold funcTail at h
 obtain ⟨ps, i1, h1, h⟩ := binds h
 obtain ⟨b, i2, h2, h⟩ := binds h
 cases h
 exact ⟨_, _, rfl, params_kh _ _ h1, (block_kh hF _ _ h2).toBody⟩
theorem lambda_kh (d i : Nat) : Kh l 0 (lambdaP l F d i) := by
 intro t j h
 unfold lambdaP at h
 obtain ⟨_, i1, h1, h⟩ := binds h
 split at h
 ·
  obtain ⟨s, i2, h2, h⟩ := binds h; obtain ⟨p, b, rfl, hp, hb⟩ := tail_kh hF h; exact .lam (Or.inr (name_nm h2)) hp hb
 ·
  obtain ⟨p, b, rfl, hp, hb⟩ := tail_kh hF h; exact .lam (Or.inl rfl) hp hb
theorem alone_kh (d i : Nat) : Kh l 0 (aloneP l F d i) := by
 unfold aloneP
 split
 ·
  exact inPar_kh hF d i
 ·
  exact object_kh hF d i
 ·
  exact lambda_kh hF d i
 ·
  split
  ·
   rename_i hsg; intro t j h; cases h
   have h2 : ∀ s ∈ sgs, s.parts = 0 → s.kd = 19 ∨ s.kd = 20 ∨ s.kd = 21 ∨ s.kd = 22 := by decide +kernel
   exact .lit (h2 _ (sgP_mem hsg).1 (sgP_mem hsg).2)
  ·
   split
   ·
    rename_i h1; intro t j h; cases h; exact .name ⟨i, h1, rfl⟩
   ·
    split
    ·
     intro t j h; cases h; exact .str _
    ·
     split
     ·
      intro t j h; cases h; exact .num _
     ·
      intro t j h; cases h
omit hF in
theorem alone_bg {d i j : Nat} {t : Tr} (h : aloneP l F d i = .ok t j) : isVal l i = true := by
 unfold isVal
 unfold aloneP at h
 cases hk : look2 vlKeys (fx l i) with
 | some q => simp
 | none =>
  rw [hk] at h; simp only at h
  cases hs : sgP 0 (fx l i) with
  | some s =>
   have h1 := sgP_mem hs; have h3 : ((sgOf (fx l i)).filter (fun e => decide (e.parts < 2))).isSome = true := by
    unfold sgP at hs; have h2 := Option.filter_eq_some_iff.1 hs; rw [h2.1]; simp [Option.filter, h1.2]
   rw [h3]; simp
  | none =>
   rw [hs] at h; simp only at h
   split at h
   ·
    rename_i h1; simp [h1]
   ·
    split at h
    ·
     rename_i h1; simp [h1]
    ·
     split at h
     ·
      rename_i h1; simp [h1]
     ·
      cases h
theorem askedLoop_kh {d : Nat} : ∀ k u i t j, Shp (NmL l) 0 u → askedLoop l F d k u i = .ok t j → Shp (NmL l) 0 t := by
 intro k
 induction k with
 | zero => intro u i t j _ h; cases h
 | succ k ih =>
  intro u i t j hu h; unfold askedLoop at h
  split at h
  ·
   obtain ⟨s, i1, h1, h⟩ := binds h; exact ih _ _ _ _ (.memb (name_nm h1) hu) h
  ·
   split at h
   ·
    obtain ⟨ts, i1, h1, h⟩ := binds h; have := list_kh (c := 0) (fun i t j h => by
     unfold deepP at h
     split at h
     ·
      cases h
     ·
      exact hF.bg _ _ _ _ h) (fun i => deep_kh (hF.vl _ _)) h1
    exact ih _ _ _ _ (.call hu this.1 this.2) h
   ·
    cases h; exact hu
theorem single_kh (d i : Nat) : Kh l 0 (singleP l F d i) := by
 unfold singleP
 split
 ·
  rename_i hsg
  intro t j h; obtain ⟨u, i1, h1, h⟩ := binds h; cases h; have h2 : ∀ s ∈ sgs, s.parts = 1 → s.kd = 32 ∨ s.kd = 33 ∨ s.kd = 34 := by decide +kernel
  exact .one (h2 _ (sgP_mem hsg).1 (sgP_mem hsg).2) (deep_kh (hF.sg _ _) u _ h1)
 ·
  intro t j h; unfold askedP at h; obtain ⟨u, i1, h1, h⟩ := binds h; exact askedLoop_kh hF _ _ _ _ _ (alone_kh hF d i u i1 h1) h
omit hF in
theorem single_bg (d i : Nat) (t : Tr) (j : Nat) (h : singleP l F d i = .ok t j) : isVal l i = true := by
 unfold singleP at h
 cases hs : sgP 1 (fx l i) with
 | some s =>
  have h1 := sgP_mem hs; have h3 : ((sgOf (fx l i)).filter (fun e => decide (e.parts < 2))).isSome = true := by
   unfold sgP at hs; have h2 := Option.filter_eq_some_iff.1 hs; rw [h2.1]; simp [Option.filter, h1.2]
  unfold isVal; rw [h3]; simp
 | none =>
  rw [hs] at h; simp only at h; unfold askedP at h; obtain ⟨u, i1, h1, _⟩ := binds h; exact alone_bg h1
theorem pairLoop_kh {b : Int} {d : Nat} : ∀ k u i t j, Shp (NmL l) 0 u → pairLoop l F b d k u i = .ok t j → Shp (NmL l) 0 t := by
 intro k
 induction k with
 | zero => intro u i t j _ h; cases h
 | succ k ih =>
  intro u i t j hu h; unfold pairLoop at h
  split at h
  ·
   cases h; exact hu
  ·
   rename_i hsg
   split at h
   ·
    cases h; exact hu
   ·
    obtain ⟨v, i1, h1, h⟩ := binds h; have h2 : ∀ s ∈ sgs, s.parts = 2 → 25 ≤ s.kd ∧ s.kd ≤ 31 := by decide +kernel
    exact ih _ _ _ _ (.two (h2 _ (sgP_mem hsg).1 (sgP_mem hsg).2) hu (hF.pr _ _ _ v i1 h1)) h
theorem pair_kh (b : Int) (d i : Nat) : Kh l 0 (pairP l F b d i) := by
 intro t j h
 unfold pairP at h
 obtain ⟨u, i1, h1, h⟩ := binds h
 exact pairLoop_kh hF _ _ _ _ _ (hF.sg _ _ u i1 h1) h
theorem value_kh (d i : Nat) : Kh l 0 (valueP l F d i) := by
 intro t j h
 unfold valueP at h
 obtain ⟨u, i1, h1, h⟩ := binds h
 have e1 := hF.pr _ _ _ u i1 h1
 split at h
 ·
  split at h
  ·
   rename_i hk
   obtain ⟨v, i2, h2, h⟩ := binds h; cases h; exact .asg hk e1 (deep_kh (hF.vl _ _) v _ h2)
  ·
   cases h
 ·
  cases h; exact e1
theorem part_kh (d q i : Nat) (hq : keyOk q (hdKind (tkA l i).tx) = true) : Kh l 1 (partP l F d q i) := by
 intro t j h
 unfold partP at h
 split at h
 ·
  have hk : hdKind (tkA l i).tx = 2 ∨ hdKind (tkA l i).tx = 3 ∨ hdKind (tkA l i).tx = 4 := by simpa [keyOk, or_assoc] using hq
  unfold declP at h; obtain ⟨s, i1, h1, h⟩ := binds h
  split at h
  ·
   cases h
  ·
   rename_i hn
   split at h
   ·
    obtain ⟨v, i2, h2, h⟩ := binds h; obtain ⟨_, i3, h3, h⟩ := binds h; cases h; have e2 := deep_kh (hF.vl _ _) v _ h2
    exact .decl hk (name_nm h1) (fun u hu => by rw [List.mem_singleton.1 hu]; exact e2) (by simp) (by simp)
   ·
    rename_i hx
    obtain ⟨_, i3, h3, h⟩ := binds h; cases h; exact .decl hk (name_nm h1) (fun u hu => by cases hu) (by simp) (fun e => absurd ⟨e, hx⟩ hn)
 ·
  unfold funcP at h; obtain ⟨_, i1, h1, h⟩ := binds h; obtain ⟨s, i2, h2, h⟩ := binds h; obtain ⟨p, b, rfl, hp, hb⟩ := tail_kh hF h; exact .func (name_nm h2) hp hb
 ·
  exact .sblk (block_kh hF _ _ h)
 ·
  obtain ⟨_, i3, h3, h⟩ := binds h; cases h; exact .empty
 ·
  have hk : hdKind (tkA l i).tx = 7 := by simpa [keyOk] using hq
  unfold choiceP at h; rw [hk] at h; obtain ⟨v, i1, h1, h⟩ := binds h; obtain ⟨s, i2, h2, h⟩ := binds h; have e1 := inPar_kh hF d _ v i1 h1; have e2 := deep_kh (hF.st _ _) s _ h2
  split at h
  ·
   obtain ⟨s2, i3, h3, h⟩ := binds h; cases h; exact .sife e1 e2 (deep_kh (hF.st _ _) s2 _ h3)
  ·
   cases h; exact .sif e1 e2
 ·
  have hk : hdKind (tkA l i).tx = 8 ∨ hdKind (tkA l i).tx = 9 := by simpa [keyOk] using hq
  unfold behindP at h; obtain ⟨v, i1, h1, h⟩ := binds h; obtain ⟨s, i2, h2, h⟩ := binds h; cases h; exact .loop hk (inPar_kh hF d _ v i1 h1) (deep_kh (hF.st _ _) s _ h2)
 ·
  have hk : hdKind (tkA l i).tx = 10 ∨ hdKind (tkA l i).tx = 11 := by simpa [keyOk] using hq
  unfold givingP at h
  split at h
  ·
   obtain ⟨v, i1, h1, h⟩ := binds h; obtain ⟨_, i2, h2, h⟩ := binds h; cases h; have e1 := deep_kh (hF.vl _ _) v _ h1; exact .give hk (fun u hu => by rw [List.mem_singleton.1 hu]; exact e1) (by simp) (by simp)
  ·
   rename_i hn
   obtain ⟨_, i2, h2, h⟩ := binds h; cases h; exact .give hk (fun u hu => by cases hu) (by simp) (fun e => absurd (Or.inl e) hn)
 ·
  unfold attemptP at h; obtain ⟨_, i0, h0, h⟩ := binds h; obtain ⟨b, i1, h1, h⟩ := binds h; obtain ⟨c, i2, h2, h⟩ := binds h; obtain ⟨f, i3, h3, h⟩ := binds h; have e2 : (∀ u ∈ c, Shp (NmL l) 7 u) ∧ c.length ≤ 1 := by
   unfold catchP at h2
   split at h2
   ·
    obtain ⟨_, k1, g1, h2⟩ := binds h2; obtain ⟨_, k2, g2, h2⟩ := binds h2; obtain ⟨_, k3, g3, h2⟩ := binds h2; obtain ⟨bb, k4, g4, h2⟩ := binds h2; cases h2
    exact ⟨fun u hu => by rw [List.mem_singleton.1 hu]; exact .cat (name_nm g2) (block_kh hF _ _ g4), by simp⟩
   ·
    cases h2; exact ⟨fun u hu => (by cases hu), by simp⟩
  have e3 : (∀ u ∈ f, Shp (NmL l) 8 u) ∧ f.length ≤ 1 := by
   unfold finallyP at h3
   split at h3
   ·
    obtain ⟨bb, k4, g4, h3⟩ := binds h3; cases h3; exact ⟨fun u hu => by rw [List.mem_singleton.1 hu]; exact .fin (block_kh hF _ _ g4), by simp⟩
   ·
    cases h3; exact ⟨fun u hu => (by cases hu), by simp⟩
  split at h
  ·
   cases h
  ·
   rename_i hn
   cases h; exact .atm (block_kh hF _ _ h1) e2.1 e3.1 ⟨e2.2, e3.2, by omega⟩
theorem statement_kh (d i : Nat) : Kh l 1 (statementP l F d i) := by
 unfold statementP
 split
 ·
  rename_i hq; exact part_kh hF d _ i (key_hd hq)
 ·
  intro t j h; unfold exprP at h; obtain ⟨v, i1, h1, h⟩ := binds h; obtain ⟨_, i2, h2, h⟩ := binds h; cases h; exact .expr (deep_kh (hF.vl _ _) v _ h1)
omit hF in
theorem fns_kh : ∀ k, FKh l (fns l k) := by
 intro k
 induction k with
 | zero => exact ⟨fun _ _ _ _ h => by (cases h), fun _ _ _ _ h => by (cases h), fun _ _ _ _ _ h => by (cases h), fun _ _ _ _ h => by (cases h), fun _ _ _ _ h => by (cases h), fun _ _ _ _ _ h => by (cases h), fun _ _ _ _ h => by (cases h)⟩
 | succ k ih => exact ⟨statement_kh ih, value_kh ih, pair_kh ih, single_kh ih, fun d i t j h => by
   change valueP l (fns l k) d i = _ at h; unfold valueP at h; obtain ⟨u, i1, h1, _⟩ := binds h; exact ih.bp _ _ _ _ _ h1, fun b d i t j h => by
   change pairP l (fns l k) b d i = _ at h; unfold pairP at h; obtain ⟨u, i1, h1, _⟩ := binds h; exact ih.bs _ _ _ _ h1, single_bg⟩
theorem progLoop_kh : ∀ k acc i t j, (∀ x ∈ acc, Shp (NmL l) 1 x) → progLoop l F k acc i = .ok t j → ∀ x ∈ t, Shp (NmL l) 1 x := by
 intro k
 induction k with
 | zero => intro acc i t j _ h; cases h
 | succ k ih =>
  intro acc i t j ha h; unfold progLoop at h; exact zbfm
theorem prog_kh : Kh l 9 (progP l F) := by
 intro t j h
 unfold progP at h
 obtain ⟨ts, i1, h1, h⟩ := binds h
 cases h
 obtain ⟨tx, h2, h3⟩ := codeT_mk 1 0 ts
 rw [h3]
 exact .prog h2 (progLoop_kh hF _ _ _ _ _ (fun _ h => by cases h) h1)
end
theorem parse_sh {ws signs : List ByteArray} {s : ByteArray} {t : Tr} (h : parseS ws signs s = .ok t) : ∃ l, toksR ws signs s (pastN gapB s 0) [] = .ok l ∧ Shp (NmL l) 9 t := by
 unfold parseS at h
 split at h
 ·
  cases h
 ·
  split at h
  ·
   cases h
  ·
   rename_i l hl
   refine ⟨l, hl, ?_⟩
   cases hp : progP l (fns l KK) with
   | out => rw [hp] at h; cases h
   | bad er p => rw [hp] at h; cases h
   | ok t2 j =>
    rw [hp] at h; simp only at h
    split at h
    ·
     cases h
    ·
     cases h; exact prog_kh (fns_kh _) _ _ hp
end Go.Proofs.YtodmgaikhbmlnaaGreatDoor
namespace Go.Proofs.YtodmgaikhbmlnaaGreatDoor
def need (kd : Int) : Nat := if kd = 5 ∨ kd = 37 then 2 else if kd = 13 ∨ kd = 24 ∨ kd = 34 ∨ kd = 35 then 1 else 0
def ar (kd : Int) (n : Nat) : Nat := if need kd ≤ n then 0 else 1
mutual
def Tr.ill : Tr → Nat
 | .mk kd _ _ ks => ar kd ks.length + Tr.ills ks
def Tr.ills : List Tr → Nat
 | [] => 0
 | t :: ts => t.ill + Tr.ills ts
end
theorem ill_mk (kd : Int) (tx : ByteArray) (n : Int) (ks : List Tr) : (Tr.mk kd tx n ks).ill = ar kd ks.length + Tr.ills ks := by rw [Tr.ill]
theorem need_two (kd : Int) : need kd ≤ 2 := by
 unfold need
 split
 ·
  omega
 ·
  split <;> omega
theorem ar_two (kd : Int) (n : Nat) (h : 2 ≤ n) : ar kd n = 0 := by
 unfold ar
 rw [if_pos (Nat.le_trans (need_two kd) h)]
theorem ills_nil : Tr.ills [] = 0 := by rw [Tr.ills]
theorem ills_cons (t : Tr) (ts : List Tr) : Tr.ills (t :: ts) = t.ill + Tr.ills ts := by rw [Tr.ills]
theorem ills_all : ∀ (ks : List Tr), Tr.ills ks = 0 → ∀ k ∈ ks, k.ill = 0
 | [], _ => fun k hk => absurd hk (by simp)
 | t :: ts, h => fun k hk => by
  rw [ills_cons] at h
  rcases List.mem_cons.1 hk with rfl | hk
  ·
   omega
  ·
   exact ills_all ts (by omega) k hk
theorem ill_of (t : Tr) (h : t.ill = 0) : need t.kd ≤ t.kids.length ∧ ∀ k ∈ t.kids, k.ill = 0 := by
 cases t with
 | mk kd tx n ks =>
  rw [ill_mk] at h; refine ⟨?_, ills_all ks (by omega)⟩; have h1 : ar kd ks.length = 0 := by omega
  unfold ar at h1
  split at h1
  ·
   assumption
  ·
   omega
theorem ills_zero : ∀ ts : List Tr, (∀ u ∈ ts, u.ill = 0) → Tr.ills ts = 0
 | [], _ => ills_nil
 | t :: ts, h => by rw [ills_cons, h t (List.mem_cons_self ..), ills_zero ts (fun u hu => h u (List.mem_cons_of_mem _ hu))]
theorem Shp.ill {Nm : ByteArray → Prop} {c : Nat} {t : Tr} (h : Shp Nm c t) : t.ill = 0 := by
 induction h with
 | sblk _ ih => exact ih
 | call _ _ _ ih ihs => rw [ill_mk, ills_cons, ih, ills_zero _ ihs]; rfl
 | decl hk _ _ _ _ ihs => rw [ill_mk, ills_zero _ ihs]; rcases hk with rfl | rfl | rfl <;> simp [ar, need]
 | give hk _ _ _ ihs => rw [ill_mk, ills_zero _ ihs]; rcases hk with rfl | rfl <;> simp [ar, need]
 | atm _ _ _ _ ih ihc ihf =>
  rw [ill_mk, ills_cons, ih, ills_zero _ (fun u hu => (List.mem_append.1 hu).elim (ihc u) (ihf u))]; simp [ar, need]
 | obj _ _ ihs => rw [ill_mk, ills_zero _ ihs]; simp [ar, need]
 | pars _ _ ihs => rw [ill_mk, ills_zero _ ihs]; simp [ar, need]
 | blk _ ihs => rw [ill_mk, ills_zero _ ihs]; simp [ar, need]
 | body _ _ ihs => rw [ill_mk, ills_zero _ ihs]; simp [ar, need]
 | prog _ _ ihs => rw [ill_mk, ills_zero _ ihs]; simp [ar, need]
 | lit hk => rw [ill_mk, ills_nil]; rcases hk with rfl | rfl | rfl | rfl <;> simp [ar, need]
 | one hk _ ih => rw [ill_mk, ills_cons, ills_nil, ih]; rcases hk with rfl | rfl | rfl <;> simp [ar, need]
 | two hk _ _ ih ih2 => rw [ill_mk, ills_cons, ills_cons, ills_nil, ih, ih2, ar_two _ _ (by simp)]
 | loop hk _ _ ih ih2 => rw [ill_mk, ills_cons, ills_cons, ills_nil, ih, ih2]; rcases hk with rfl | rfl <;> simp [ar, need]
 | _ => simp [ill_mk, ills_cons, ills_nil, ar, need, *]
theorem parse_ill {ws gs : List ByteArray} {s : ByteArray} {t : Tr} (h : parseS ws gs s = .ok t) : t.ill = 0 := by
 obtain ⟨_, _, h⟩ := parse_sh h
 exact h.ill
end Go.Proofs.YtodmgaikhbmlnaaGreatDoor
set_option maxRecDepth 100000
set_option maxHeartbeats 16000000
namespace Go.Proofs.YtodmgaikhbmlnaaGreatDoor
open Go.RowKit
theorem step_app_row {P : Program} {w : World} {ops : Array Oper} {o : Oper} {a : Act} {K : Act → World → Prop} {Q : Exit → Act → World → Prop} {E : Prop} (hgd : o.guard = none) (s x : Operand) (t : TypeId)
  (ho : o.op = .call { callee := .builtin .append, args := #[s, x], argTypes := #[t, t] })
  (base B2 : Nat) (e : TypeId) (i : TypeInfo) (z : Value) (bytes : Nat) (ht : P.underlying t = some (.slice e)) (hi : P.info? e = some i) (hz : i.zero = some z)
  (hsize : i.size = 1) (hby : i.bytes = bytes) (hzs : z.cells.size = 1)
  (v : Value) (n : Nat) (xs : List Value) (hs : a.eval s = v) (hown : w.ownsRow base e 1 v n xs)
  (v2 : Value) (m : Nat) (news : List Value) (hx : a.eval x = v2) (hown2 : w.ownsRow B2 e 1 v2 m news) (h1 : ∀ u ∈ news, u.oneCell' = true)
  (h63 : n + m ≤ maxLen) (hbytes : (n + m) * bytes ≤ 140737488355328) (hbase : base ≤ w.heap.size)
  (h : ∀ v' w', w'.ownsRow base e 1 v' (n + m) (xs ++ news) → w.grownBy w' v.ownBlock → K (a.put o.dst v') w') : if Region.wanted o (yielded ops a.tmps) = true then Oper.wp P o a w K Q else E := by
 rcases Nat.eq_zero_or_pos m with rfl | hm
 ·
  have hw : Region.wanted o (yielded ops a.tmps) = true := by simp [Region.wanted, hgd]
  rw [if_pos hw]; have hnews : news = [] := List.length_eq_zero_iff.1 (by rw [hown2.1]); subst hnews; obtain ⟨ad, k, rfl⟩ := srow_form hown2
  have hk := h v w (by rw [List.append_nil]; exact hown) ⟨rfl, rfl, rfl, Nat.le_refl _, fun _ _ _ => rfl⟩
  have hrun := run_app_none (P := P) (w := w) base t o.type e i 1 ht hi v n xs hown ad k; unfold Oper.wp; simp [execOp, ho, resolve, invoke, builtin, hs, hx, hrun, Result.andThen]; exact hk
 ·
  obtain ⟨g, cap, rfl, _, _⟩ := hown2.form hm
  refine step_append_lies w hgd s x t ho base e i z 1 bytes ht hi hz hsize hby hzs (by decide) v n xs hs hown ⟨g, 0, none⟩ m cap news hx hown2.1 (fun j u hj => ?_) h1 hm h63 hbytes hbase _ rfl (fun g' cap' w' a b _ _ => h _ _ a b)
  exact zbeh
theorem kid_at {I : Nat → Prop} {w : World} {t : Tr} {p g n cap k q : Nat} (h : NAt I w t p) (c3 : w.cell? ⟨p, 3, none⟩ = some (.slice (some ⟨g, 0, none⟩) n cap)) (ck : w.cell? ⟨g, k, none⟩ = some (nPtr q)) (hk : k < t.kids.length) : NAt I w t.kids[k] q := by
 obtain ⟨u, ps, hb, hr, _, hks⟩ := h.opens2
 have hl := NAts.length _ _ hks
 obtain ⟨_, _, _, c3', _⟩ := node_cells hb
 rw [c3] at c3'
 have hu := Option.some.inj c3'
 obtain ⟨g', cap', hv, hcell⟩ := row_open hr (by omega)
 rw [← hu] at hv
 simp only [Value.slice.injEq, Option.some.injEq, Addr.mk.injEq] at hv
 obtain ⟨⟨rfl, _, _⟩, _, rfl⟩ := hv
 obtain ⟨hkp, hn⟩ := NAts.get _ _ hks k hk
 have h1 := hcell k hkp
 rw [ck] at h1
 have h2 : q = ps[k] := by injection (Option.some.inj h1) with h3; injection h3 with h4; injection h4
 rw [h2]; exact hn
abbrev tArgF : ByteArray := ⟨#[97, 114, 103, 117, 109, 101, 110, 116, 115]⟩
def kidF (t : Tr) (k : Nat) : Tr := t.kids.getD k t
theorem kidF_eq (t : Tr) (k : Nat) (h : k < t.kids.length) : kidF t k = t.kids[k] := by simp [kidF, List.getD, h]
def declF (t : Tr) : List ByteArray := namesT (kidF t 1) true ++ (kidF t 0).kids.map Tr.tx ++ [tArgF] ++ (if t.kd == 37 then [t.tx] else [])
theorem namesF_len (t : Tr) (body : Bool) : (namesT t body).length ≤ 3 * t.count := by
 have htc : t.count = 1 + Tr.counts t.kids := by cases t with | mk kd tx nn ks => exact count_mk _ _ _ _
 have h1 := once_len ((if body then varsT t else []) ++ (fnsT t).map Tr.tx ++ (letsT t).map Tr.tx)
 have h2 := fns_len t
 have h3 := lets_len t
 have h4 := vars_len t
 have h5 := counts_len t.kids
 have h6 : (if body then varsT t else []).length ≤ Tr.counts t.kids := by
  split
  ·
   exact h4
  ·
   simp
 show (onceL _).length ≤ _
 simp only [List.length_append, List.length_map] at h1
 omega
theorem declFn_any (t : Tr) (p : Nat) (w : World) (h : NTr w t p) (hk : 2 ≤ t.kids.length) (hc : t.count ≤ 1500) :
  Calls Tryz.prog 135 #[nPtr p] w fun e w' => (∃ u q, e = .returned (.tuple #[u, nPtr q]) ∧ SRow w.heap.size w' u (declF t) ∧ (∀ I : Nat → Prop, NAt I w t p → NAt I w (kidF t 1) q)) ∧ Below w.heap.size w w' := by
 obtain ⟨i0, hi0, hz0, hz1, hz2⟩ := info_parts info9
 have htc : t.count = 1 + Tr.counts t.kids := by cases t with | mk kd tx nn ks => exact count_mk _ _ _ _
 have hkl : t.kids.length ≤ 1500 := by have := counts_len t.kids; omega
 have hk0 : (kidF t 0).count ≤ 1500 := by rw [kidF_eq t 0 (by omega)]; have := counts_le t.kids 0 (by omega); omega
 have hk1 : (kidF t 1).count ≤ 1500 := by rw [kidF_eq t 1 (by omega)]; have := counts_le t.kids 1 (by omega); omega
 have hp0 : (kidF t 0).kids.length ≤ 1500 := by
  have h2 : (kidF t 0).count = 1 + Tr.counts (kidF t 0).kids := by cases (kidF t 0) with | mk kd tx nn ks => exact count_mk _ _ _ _
  have := counts_len (kidF t 0).kids; omega
 have hnl := namesF_len (kidF t 1) true
 obtain ⟨hpl, c0, c1, u, c3, hr⟩ := h.cells
 obtain ⟨g, cap, q0, rfl, hg, hc0, hn0⟩ := hr.cell 0 (by omega)
 obtain ⟨g', cap', q1, hv, _, hc1, hn1⟩ := hr.cell 1 (by omega)
 simp only [Value.slice.injEq, Option.some.injEq, Addr.mk.injEq] at hv
 obtain ⟨⟨rfl, _, _⟩, _, rfl⟩ := hv
 rw [← kidF_eq t 0 (by omega)] at hn0
 rw [← kidF_eq t 1 (by omega)] at hn1
 obtain ⟨hql0, _, _, u0, d3, hr0⟩ := hn0.cells
 obtain ⟨ua, uc, rfl⟩ := hr0.form
 have HN1 : Hid (∀ I : Nat → Prop, NAt I w t p → NAt I w (kidF t 1) q1) := fun I hI => by
  rw [kidF_eq t 1 (by omega)]; exact kid_at hI c3 hc1 (by omega)
 have HR0 := hide hr0
 have HNM : Hid (∀ W, Below w.heap.size w W → Calls Tryz.prog 35 #[nPtr q1, .bool true] W fun e w' => (∃ u, e = .returned u ∧ SRow W.heap.size w' u (namesT (kidF t 1) true)) ∧ Below W.heap.size W w') := fun W hW => names_any (kidF t 1) q1 true W (hn1.later hW) (by omega)
 have HTX : Hid (∀ W, Below w.heap.size w W → Calls Tryz.prog 72 #[.slice ua (kidF t 0).kids.length uc] W fun e w' => (∃ u, e = .returned u ∧ SRow W.heap.size w' u ((kidF t 0).kids.map Tr.tx)) ∧ Below W.heap.size W w') := fun W hW => texts_any (kidF t 0).kids _ W (hr0.later hW) (by omega)
 unfold declF
 obtain ⟨V, hV⟩ : ∃ V, V = namesT (kidF t 1) true := ⟨_, rfl⟩
 obtain ⟨P, hP⟩ : ∃ P, P = (kidF t 0).kids.map Tr.tx := ⟨_, rfl⟩
 have hVl : V.length ≤ 4500 := by rw [hV]; omega
 have hPl : P.length ≤ 1500 := by rw [hP, List.length_map]; exact hp0
 rw [← hV] at HNM ⊢
 rw [← hP] at HTX ⊢
 obtain ⟨VP, hVP⟩ : ∃ VP, VP = V ++ P := ⟨_, rfl⟩
 obtain ⟨VA, hVA⟩ : ∃ VA, VA = VP ++ [tArgF] := ⟨_, rfl⟩
 rw [← hVP, ← hVA]
 have hVPl : VP.length ≤ 6000 := by rw [hVP, List.length_append]; omega
 have hVAl : VA.length ≤ 6001 := by rw [hVA, List.length_append]; simp; omega
 have HVP := hide hVP
 have HVA := hide hVA
 generalize (kidF t 0).kids.length = L0 at d3 HTX hp0
 generalize t.kids.length = L at c3 hk hkl
 generalize t.kd = kd at c0
 generalize t.tx = tx at c1
 obtain ⟨D, hD⟩ : ∃ D, D = VA ++ (if kd == 37 then [tx] else []) := ⟨_, rfl⟩
 rw [← hD]
 have HD := hide hD
 clear hD
 have hL0 : ¬ L = 0 := by omega
 have hL1 : ¬ (L : Int) ≤ 1 := by omega
 clear h hr hn0 hn1 hr0 hc htc hk0 hk1 hnl hV hP hVP hVA
 have hS0 : Below w.heap.size w w.drew := (Below.refl _ _).drew
 go_enter Tryz.func135, Tryz.ntmps135
 go_wp2_with fail
 refine wp_region_held (S := fun X => X = w.drew) (by kernel_rfl) ?_
 change wpAnyH _ _ _ _ _ _ _ _ (World.drew _)
 refine wh 0 (nPtr p) rfl ?_
 refine wh 1 (nPtr p) rfl ?_
 refine wh 2 (.pointer (some ⟨p, 3, none⟩)) rfl ?_
 refine wh 3 (.slice (some ⟨g, 0, none⟩) L cap) rfl ?_ (hy := Or.inl ⟨by kernel_rfl, fun X hX => by cases hX; go_simp⟩)
 refine wh 4 (.pointer (some ⟨g, 0, none⟩)) rfl ?_
 refine wh 5 (nPtr q0) rfl ?_ (hy := Or.inl ⟨by kernel_rfl, fun X hX => by cases hX; go_simp⟩)
 refine wh 6 (nPtr p) rfl ?_
 refine wh 7 (nPtr p) rfl ?_
 refine wh 8 (.pointer (some ⟨p, 3, none⟩)) rfl ?_
 refine wh 9 (.slice (some ⟨g, 0, none⟩) L cap) rfl ?_ (hy := Or.inl ⟨by kernel_rfl, fun X hX => by cases hX; go_simp⟩)
 refine wh 10 (.pointer (some ⟨g, 1, none⟩)) rfl ?_
 refine wh 11 (nPtr q1) rfl ?_ (hy := Or.inl ⟨by kernel_rfl, fun X hX => by cases hX; go_simp⟩)
 refine wh 12 (nPtr q0) rfl ?_
 refine wh 13 (nPtr q1) rfl ?_
 refine wpAnyH_done (by kernel_rfl) ?_ _
 go_simp
 have e3 := keepR hS0 d3
 have eK := keepR hS0 c0
 have eT := keepR hS0 c1
 obtain ⟨w1, hw1⟩ : ∃ w1, w1 = w.drew := ⟨_, rfl⟩
 rw [← hw1] at hS0 e3 eK eT ⊢
 have HB1 := hide hS0
 have HE3 := hide e3
 have HEK := hide eK
 have HET := hide eT
 have hql1 := cellR e3
 have hpl1 := cellR eK
 clear hw1 hS0 c0 c1 c3 d3 hc0 hc1 e3 eK eT
 go_wp2_with fail
 have hS0 : Below w1.heap.size w1 w1.drew := (Below.refl _ _).drew
 refine wp_region_held (S := fun X => Below w1.heap.size w1 X) (by kernel_rfl) ?_
 change wpAnyH _ _ _ _ _ _ _ _ (World.drew _)
 refine wh 0 (nPtr q1) hS0 ?_
 refine wh 2 (nPtr q0) hS0 ?_
 refine wh 3 (nPtr q0) hS0 ?_
 refine wh 4 (.pointer (some ⟨q0, 3, none⟩)) hS0 ?_
 refine wh 5 (.slice ua L0 uc) hS0 ?_ (hy := Or.inl ⟨by kernel_rfl, fun X hX => by have hh := keepR hX HE3.out; go_simp⟩)
 refine wq1 1 fun K hK => ?_
 go_simp
 refine cm (HNM.out _ (HB1.out.trans (hS0.mono HB1.out.size))) ?_
 rintro e w2 ⟨⟨u2, rfl, hr2⟩, hb2⟩
 obtain ⟨a2, c2, rfl⟩ := srow_form hr2
 have hS2 : Below w1.heap.size w1 w2 := hS0.trans (hb2.mono (Nat.le_refl _))
 refine hK.out _ _ hS2 (fun _ => ?_)
 clear hK K
 refine wq1 6 fun K hK => ?_
 go_simp
 refine cm (HTX.out _ (HB1.out.trans (hS2.mono HB1.out.size))) ?_
 rintro e w3 ⟨⟨u3, rfl, hr3⟩, hb3⟩
 obtain ⟨a3, c3, rfl⟩ := srow_form hr3
 have hS3 : Below w1.heap.size w1 w3 := hS2.trans (hb3.mono hS2.size)
 refine hK.out _ _ hS3 (fun _ => ?_)
 clear hK K
 have hr2' : SRow w1.heap.size w3 (.slice a2 V.length c2) V := SRow.later hr2 hb3
 refine wq1 7 fun K hK => ?_
 refine step_app_row rfl _ _ 54 rfl w1.heap.size _ 9 i0 (.string ByteArray.empty) 16 Tryz.underlying54 hi0 hz0 hz1 hz2 rfl _ _ _ rfl hr2' _ _ _ rfl hr3 (srow_ones P) (by unfold maxLen; omega) (by omega) hS3.size ?_
 intro v4 w4 hown4 hgr4
 have hsr4 : SRow w1.heap.size w4 v4 VP := by
  show World.ownsRow _ _ _ _ _ _ _
  rw [HVP.out, List.length_append, List.map_append]; exact hown4
 have hS4 : Below w1.heap.size w1 w4 := hS3.grown hgr4 hS3.size (fun k hk => (own_lt hr2' k hk).2)
 obtain ⟨a4, c4, rfl⟩ := srow_form hsr4
 refine hK.out _ _ hS4 (fun _ => ?_)
 clear hK K
 refine wh 8 (.slice a4 VP.length c4) hS4 ?_
 refine wpAnyH_done (by kernel_rfl) ?_ _
 go_simp
 have HB4 := hide (HB1.out.trans (hS4.mono HB1.out.size))
 have HR4 := hide (srow_mono hsr4 HB1.out.size)
 have hsz4 := HB4.out.size
 have hkk4 := keepR hS4 HEK.out
 have htt4 := keepR hS4 HET.out
 have HKK4 := hide hkk4
 have HTT4 := hide htt4
 clear hb2 hb3 hr2 hr3 hr2' hS0 hS2 hS3 hS4 hown4 hgr4 hsr4 hkk4 htt4 hql1 hpl1 HNM HTX HR0 HE3 HEK HET
 go_wp2_with (at_builtin; refine wpList_append_lies _ rfl _ _ 54 rfl w.heap.size 9 i0 (.string ByteArray.empty) 1 16 Tryz.underlying54 hi0 hz0 hz1 hz2 rfl (by decide) _ _ _ rfl (HR4.out.alloc _) ⟨w4.heap.size, 0, none⟩ 1 1 [.string tArgF] rfl rfl (hoCellsS w4 tArgF _ rfl) (hoOneS tArgF) (by decide) (by unfold maxLen; omega) (by omega) (by simp; omega) (w4.heap.size + 1) (by simp) ?_)
 intro g5 cap5 w5 hown5 hgr5 _ _
 have hx5 : Below w4.heap.size w4 (w4.alloc (.cells #[.string tArgF] 9)) := (Below.refl _ _).alloc (Nat.le_refl _) _
 have HB5 := hide ((HB4.out.alloc hsz4 (.cells #[.string tArgF] 9)).grown hgr5 (by simp; omega) (fun b hb => (own_lt HR4.out b hb).2))
 have HR5 : Hid (SRow w.heap.size w5 (.slice (some ⟨g5, 0, none⟩) VA.length cap5) VA) := by
  show World.ownsRow _ _ _ _ _ _ _
  rw [HVA.out, List.length_append, List.map_append]; exact hown5
 have hob : ∀ k, (Value.slice a4 VP.length c4).ownBlock = some k → w.heap.size ≤ k := fun k hk => (own_lt HR4.out k hk).2
 have hln : VP.length + 1 = VA.length := by rw [HVA.out, List.length_append]; rfl
 have hpw : p < w.heap.size := hpl
 have e0 : w5.cell? ⟨p, 0, none⟩ = some (.int .i64 kd) := by
  have h1 := keepR hx5 HKK4.out; rw [World.cell?_of_block (w := w4.alloc (.cells #[.string tArgF] 9)) (a := ⟨p, 0, none⟩) (hgr5.block p (cellR h1) (fun e => absurd (hob p e.symm) (by omega)))]; exact h1
 have e1 : w5.cell? ⟨p, 1, none⟩ = some (.string tx) := by
  have h1 := keepR hx5 HTT4.out; rw [World.cell?_of_block (w := w4.alloc (.cells #[.string tArgF] 9)) (a := ⟨p, 1, none⟩) (hgr5.block p (cellR h1) (fun e => absurd (hob p e.symm) (by omega)))]; exact h1
 have hp5 := cellR e0
 have hsz5 := HB5.out.size
 rw [hln]
 clear hown5 hgr5 hob hx5 HKK4 HTT4 HR4 hln
 cases h37 : (kd == 37) with
 | false =>
  have HDD : Hid (D = VA) := by
   have h := unhide HD; rw [h37] at h
   show _ = _
   simpa using h
  rw [← HDD.out] at HR5 ⊢; go_wp2_with fail; exact bodyPost_ret (v := .tuple #[.slice (some ⟨g5, 0, none⟩) D.length cap5, nPtr q1]) (by simp [results, Tryz.results135, go_sem]) rfl ⟨⟨_, _, rfl, HR5.out, HN1.out⟩, HB5.out⟩
 | true =>
  have HDD : Hid (D = VA ++ [tx]) := by
   have h := unhide HD; rw [h37] at h
   show _ = _
   simpa using h
  go_wp2_with (at_builtin; refine wpList_append_lies _ rfl _ _ 54 rfl w.heap.size 9 i0 (.string ByteArray.empty) 1 16 Tryz.underlying54 hi0 hz0 hz1 hz2 rfl (by decide) _ _ _ rfl (HR5.out.alloc _) ⟨w5.heap.size, 0, none⟩ 1 1 [.string tx] rfl rfl (hoCellsS w5 tx _ rfl) (hoOneS tx) (by decide) (by unfold maxLen; omega) (by omega) (by simp; omega) (w5.heap.size + 1) (by simp) ?_)
  intro g6 cap6 w6 hown6 hgr6 _ _; have HB6 := hide ((HB5.out.alloc hsz5 (.cells #[.string tx] 9)).grown hgr6 (by simp; omega) (fun b hb => (own_lt HR5.out b hb).2))
  have HR6 : Hid (SRow w.heap.size w6 (.slice (some ⟨g6, 0, none⟩) (VA.length + 1) cap6) D) := by
   show World.ownsRow _ _ _ _ _ _ _
   rw [HDD.out, List.length_append, List.map_append]; exact hown6
  clear hown6 hgr6; go_wp2_with fail; exact bodyPost_ret (v := .tuple #[.slice (some ⟨g6, 0, none⟩) (VA.length + 1) cap6, nPtr q1]) (by simp [results, Tryz.results135, go_sem]) rfl ⟨⟨_, _, rfl, HR6.out, HN1.out⟩, HB6.out⟩
def declT (t : Tr) : Option (List ByteArray × Tr) :=
 if t.kd = 1 then some (namesT t true, t)
 else if t.kd = 6 then some (namesT t false, t)
 else if t.kd = 13 then some ([t.tx], t)
 else if t.kd = 5 ∨ t.kd = 37 then some (declF t, kidF t 1)
 else none
def DePost (t : Tr) (p : Nat) (r : Option (List ByteArray × Tr)) (w : World) (e : Ending) (w' : World) : Prop :=
 match r with
 | some (ns, s) => (∃ u q, e = .returned (.tuple #[u, nPtr q]) ∧ SRow w.heap.size w' u ns ∧ (∀ I : Nat → Prop, NAt I w t p → NAt I w s q)) ∧ Below w.heap.size w w'
 | none => e = .returned (.tuple #[.slice none 0 0, .pointer none]) ∧ Below w.heap.size w w'
section
variable (t : Tr) (p : Nat) (w : World) (h : NTr w t p) (hc : t.count ≤ 1500)
include h
include hc in
theorem de_names (kd : Int) (b : Bool) (hk : (kd = 1 ∧ b = true) ∨ (kd = 6 ∧ b = false)) (hkd : t.kd = kd) : Calls Tryz.prog 74 #[nPtr p] w (DePost t p (some (namesT t b, t)) w) := by
 obtain ⟨hpl, c0, _, _⟩ := h.cells
 rw [hkd] at c0
 have HN : Hid (∀ I : Nat → Prop, NAt I w t p → NAt I w t p) := fun _ h => h
 have HC := hide (names_any t p b w h (by omega))
 clear h hc hkd
 rcases hk with ⟨rfl, rfl⟩ | ⟨rfl, rfl⟩ <;>
 ·
  go_enter Tryz.func74, Tryz.ntmps74; go_wp2_with fail; refine cm HC.out ?_; rintro e w1 ⟨⟨u, rfl, hr⟩, hb⟩; obtain ⟨ua, uc, rfl⟩ := srow_form hr; have HR := hide hr; have HB := hide hb; clear HC hr hb; go_wp2_with fail
  exact bodyPost_ret (v := .tuple #[_, nPtr p]) (by simp [results, Tryz.results74, go_sem]) rfl ⟨⟨_, _, rfl, HR.out, HN.out⟩, HB.out⟩
theorem de_catch (hkd : t.kd = 13) : Calls Tryz.prog 74 #[nPtr p] w (DePost t p (some ([t.tx], t)) w) := by
 obtain ⟨hpl, c0, c1, _⟩ := h.cells
 rw [hkd] at c0
 have HN : Hid (∀ I : Nat → Prop, NAt I w t p → NAt I w t p) := fun _ h => h
 clear h hkd
 generalize htx : t.tx = tx at c1
 go_enter Tryz.func74, Tryz.ntmps74
 go_wp2_with fail
 exact bodyPost_ret (v := .tuple #[_, nPtr p]) (by simp [results, Tryz.results74, go_sem]) rfl ⟨⟨_, _, rfl, World.ownsRow_lit w #[.string tx] 1 (Nat.le_refl _) (by decide) rfl, HN.out⟩, (Below.refl _ _).alloc (Nat.le_refl _) _⟩
include hc in
theorem de_fn (kd : Int) (hk : kd = 5 ∨ kd = 37) (hkd : t.kd = kd) (h2 : 2 ≤ t.kids.length) : Calls Tryz.prog 74 #[nPtr p] w (DePost t p (some (declF t, kidF t 1)) w) := by
 obtain ⟨hpl, c0, _, _⟩ := h.cells
 rw [hkd] at c0
 have HC := hide (declFn_any t p w h h2 hc)
 clear h hc hkd
 rcases hk with rfl | rfl <;>
 ·
  go_enter Tryz.func74, Tryz.ntmps74; go_wp2_with fail; refine cm HC.out ?_; rintro e w1 ⟨⟨u, q, rfl, hr, hq⟩, hb⟩; obtain ⟨ua, uc, rfl⟩ := srow_form hr; have HR := hide hr; have HQ := hide hq; have HB := hide hb
  clear HC hr hb hq; go_wp2_with fail; exact bodyPost_ret (v := .tuple #[_, nPtr q]) (by simp [results, Tryz.results74, go_sem]) rfl ⟨⟨_, _, rfl, HR.out, HQ.out⟩, HB.out⟩
theorem de_none (hno : t.kd ≠ 1 ∧ t.kd ≠ 6 ∧ t.kd ≠ 13 ∧ t.kd ≠ 5 ∧ t.kd ≠ 37) : Calls Tryz.prog 74 #[nPtr p] w (DePost t p none w) := by
 obtain ⟨hpl, c0, _, _⟩ := h.cells
 clear h
 generalize t.kd = kd at c0 hno
 obtain ⟨n1, n6, n13, n5, n37⟩ := hno
 have m1 : (kd == 1) = false := by simpa using n1
 have m6 : (kd == 6) = false := by simpa using n6
 have m13 : (kd == 13) = false := by simpa using n13
 have m5 : (kd == 5) = false := by simpa using n5
 have m37 : (kd == 37) = false := by simpa using n37
 clear n1 n6 n13 n5 n37
 go_enter Tryz.func74, Tryz.ntmps74
 go_wp2_with fail
 exact bodyPost_ret (v := .tuple #[.slice none 0 0, .pointer none]) (by simp [results, Tryz.results74, go_sem]) rfl ⟨rfl, Below.refl _ _⟩
include hc in
theorem declared_any (hill : need t.kd ≤ t.kids.length) : Calls Tryz.prog 74 #[nPtr p] w (DePost t p (declT t) w) := by
 unfold declT
 by_cases k1 : t.kd = 1
 ·
  rw [if_pos k1]; exact de_names t p w h hc 1 true (Or.inl ⟨rfl, rfl⟩) k1
 rw [if_neg k1]
 by_cases k6 : t.kd = 6
 ·
  rw [if_pos k6]; exact de_names t p w h hc 6 false (Or.inr ⟨rfl, rfl⟩) k6
 rw [if_neg k6]
 by_cases k13 : t.kd = 13
 ·
  rw [if_pos k13]; exact de_catch t p w h k13
 rw [if_neg k13]
 by_cases k5 : t.kd = 5 ∨ t.kd = 37
 ·
  rw [if_pos k5]; have hn : need t.kd = 2 := by unfold need; rw [if_pos k5]
  rcases k5 with k | k
  ·
   exact de_fn t p w h hc 5 (Or.inl rfl) k (by omega)
  ·
   exact de_fn t p w h hc 37 (Or.inr rfl) k (by omega)
 rw [if_neg k5]
 exact de_none t p w h ⟨k1, k6, k13, fun e => k5 (Or.inl e), fun e => k5 (Or.inr e)⟩
end
end Go.Proofs.YtodmgaikhbmlnaaGreatDoor
