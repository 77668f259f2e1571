/-
  Memory beside a reader: what stays as it was but for one block; nodes of a program in memory.
-/
import Derived.Test.YtoimgcjbcbhclaaGreatDoorWh3
import Derived.Test.YtoimgcjbcbhclaaGreatDoorWh4
import Derived.RegionTactic
import Derived.ChangeAlike
set_option maxRecDepth 100000
set_option maxHeartbeats 16000000
namespace Go.Proofs.YtoimgcjbcbhclaaGreatDoor
open Go.RowKit

structure Ap (R B : Nat) (w w' : World) : Prop where
  os : w'.os = w.os
  tape : w'.tape = w.tape
  output : w'.output = w.output
  size : w.heap.size ≤ w'.heap.size
  block : ∀ k, k < B → k ≠ R → w'.heap[k]? = w.heap[k]?

theorem Ap.refl (R B : Nat) (w : World) : Ap R B w w := ⟨rfl, rfl, rfl, Nat.le_refl _, fun _ _ _ => rfl⟩
theorem Ap.of {R B : Nat} {w w' : World} (h : Below B w w') : Ap R B w w' := ⟨h.os, h.tape, h.output, h.size, fun k hk _ => h.block k hk⟩
theorem Ap.trans {R B : Nat} {a b c : World} (h : Ap R B a b) (k : Ap R B b c) : Ap R B a c :=
  ⟨k.os.trans h.os, k.tape.trans h.tape, k.output.trans h.output, Nat.le_trans h.size k.size, fun n hn hr => (k.block n hn hr).trans (h.block n hn hr)⟩
theorem Ap.mono {R B B' : Nat} {w w' : World} (h : Ap R B w w') (hB : B' ≤ B) : Ap R B' w w' := ⟨h.os, h.tape, h.output, h.size, fun k hk => h.block k (Nat.lt_of_lt_of_le hk hB)⟩
theorem Ap.next {R : Nat} {a b c : World} (h : Ap R a.heap.size a b) (k : Ap R b.heap.size b c) : Ap R a.heap.size a c := h.trans (k.mono h.size)
theorem Ap.drew {R B : Nat} {a w : World} (h : Ap R B a w) : Ap R B a w.drew := ⟨h.os, h.tape, h.output, h.size, h.block⟩
theorem Ap.alloc {R B : Nat} {a w : World} (h : Ap R B a w) (hB : B ≤ w.heap.size) (o : Obj) : Ap R B a (w.alloc o) :=
  h.trans (Ap.of ((Below.refl B w).alloc hB o))
theorem Ap.setCell {R B : Nat} {a w : World} (h : Ap R B a w) {p : Addr} (hp : B ≤ p.block ∨ p.block = R) (u : Value) : Ap R B a (w.setCell p u) :=
  ⟨h.os, h.tape, h.output, by simpa using h.size, fun k hk hr => by rw [Below.heap_setCell w p u k (by omega)]; exact h.block k hk hr⟩
theorem Ap.grown {R B : Nat} {a w w' : World} {row : Option Nat} (h : Ap R B a w) (hg : w.grownBy w' row) (hB : B ≤ w.heap.size) (hr : ∀ k, row = some k → B ≤ k) : Ap R B a w' :=
  h.trans (Ap.of ((Below.refl B w).grown hg hB hr))
theorem Ap.cell {R B : Nat} {w w' : World} (h : Ap R B w w') {p : Addr} (hp : p.block < B) (hr : p.block ≠ R) : w'.cell? p = w.cell? p := World.cell?_of_block (w := w) (h.block p.block hp hr)
theorem Ap.frozen {R B : Nat} {w w' : World} (h : Ap R B w w') {p : Addr} (hp : p.block < B) (hr : p.block ≠ R) : w'.frozen? p = w.frozen? p := World.frozen?_of_block (w := w) (h.block p.block hp hr)
theorem Ap.below {R B : Nat} {w w' : World} (h : Ap R B w w') (hB : B ≤ R) : Below B w w' := ⟨h.os, h.tape, h.output, h.size, fun k hk => h.block k hk (by omega)⟩

theorem lt_of_heap {w : World} {b : Nat} {o : Obj} (h : w.heap[b]? = some o) : b < w.heap.size := (Array.getElem?_eq_some_iff.1 h).1

theorem owns_ap {R : Nat} {w w' : World} {B e sz : Nat} {v : Value} {n : Nat} {xs : List Value} (hB : R < B) (ha : Ap R w.heap.size w w') (h : w.ownsRow B e sz v n xs) : w'.ownsRow B e sz v n xs := by
  refine ⟨h.1, ?_⟩
  rcases h.2 with hn | ⟨g, cap, cur, hv, hb, hg, rest⟩
  · exact Or.inl hn
  · exact Or.inr ⟨g, cap, cur, hv, hb, by rw [ha.block g (lt_of_heap hg) (by omega)]; exact hg, rest⟩

/-- A node's block: its kind, text, number, and the row of its parts. -/
abbrev nodeObj (kd : Int) (tx : ByteArray) (n : Int) (v : Value) : Obj := .cells #[.int .i64 kd, .string tx, .int .i64 n, v] 49 (0, 0)
abbrev nPtr (p : Nat) : Value := .pointer (some ⟨p, 0, none⟩)

/-- A row of parts, in blocks of a kind. -/
def KRow (I : Nat → Prop) (w : World) (v : Value) (ps : List Nat) : Prop := w.ownsRow 0 22 1 v ps.length (ps.map nPtr) ∧ ∀ g, v.ownBlock = some g → I g

mutual
/-- A program's part lies in memory, in blocks of a kind; no two nodes in one. -/
def NAt (I : Nat → Prop) (w : World) : Tr → Nat → Prop
  | .mk kd tx n ks, p => I p ∧ ∃ v ps, w.heap[p]? = some (nodeObj kd tx n v) ∧ KRow I w v ps ∧ NAts (fun b => I b ∧ b ≠ p) w ks ps
def NAts (I : Nat → Prop) (w : World) : List Tr → List Nat → Prop
  | [], ps => ps = []
  | t :: ts, ps => ∃ p ps' M, ps = p :: ps' ∧ NAt (fun b => I b ∧ b < M) w t p ∧ NAts (fun b => I b ∧ M ≤ b) w ts ps'
end

/-- The blocks of a kind that are there stay. -/
def Stay (I : Nat → Prop) (w w' : World) : Prop := ∀ b, I b → b < w.heap.size → w'.heap[b]? = w.heap[b]?

theorem owns_stay {I : Nat → Prop} {w w' : World} {B e sz : Nat} {v : Value} {n : Nat} {xs : List Value} (ha : Stay I w w') (hI : ∀ g, v.ownBlock = some g → I g) (h : w.ownsRow B e sz v n xs) : w'.ownsRow B e sz v n xs := by
  refine ⟨h.1, ?_⟩
  rcases h.2 with hn | ⟨g, cap, cur, hv, hb, hg, rest⟩
  · exact Or.inl hn
  · exact Or.inr ⟨g, cap, cur, hv, hb, by rw [ha g (hI g (by rw [hv]; rfl)) (lt_of_heap hg)]; exact hg, rest⟩

mutual
theorem NAt.later {I : Nat → Prop} {w w' : World} (ha : Stay I w w') : ∀ (t : Tr) (p : Nat), NAt I w t p → NAt I w' t p
  | .mk kd tx n ks, p, h => by
    rw [NAt] at h ⊢
    obtain ⟨hp, v, ps, hb, hr, hk⟩ := h
    exact ⟨hp, v, ps, by rw [ha p hp (lt_of_heap hb)]; exact hb, ⟨owns_stay ha hr.2 hr.1, hr.2⟩, NAts.later (fun b hb hl => ha b hb.1 hl) ks ps hk⟩
theorem NAts.later {I : Nat → Prop} {w w' : World} (ha : Stay I w w') : ∀ (ts : List Tr) (ps : List Nat), NAts I w ts ps → NAts I w' ts ps
  | [], ps, h => by rw [NAts] at h ⊢; exact h
  | t :: ts, ps, h => by
    rw [NAts] at h ⊢
    obtain ⟨p, ps', M, rfl, h1, h2⟩ := h
    exact ⟨p, ps', M, rfl, NAt.later (fun b hb hl => ha b hb.1 hl) t p h1, NAts.later (fun b hb hl => ha b hb.1 hl) ts ps' h2⟩
end

theorem own_lt {w : World} {B e sz : Nat} {v : Value} {n : Nat} {xs : List Value} (h : w.ownsRow B e sz v n xs) (g : Nat) (hg : v.ownBlock = some g) : g < w.heap.size ∧ B ≤ g := by
  rcases h.2 with hn | ⟨g', cap, cur, hv, hb, hh, rest⟩
  · rw [hn.1] at hg; cases hg
  · rw [hv] at hg
    cases hg
    exact ⟨lt_of_heap hh, hb⟩

mutual
theorem NAt.mono {I J : Nat → Prop} {w : World} (hJ : ∀ b, I b → b < w.heap.size → J b) : ∀ (t : Tr) (p : Nat), NAt I w t p → NAt J w t p
  | .mk kd tx n ks, p, h => by
    rw [NAt] at h ⊢
    obtain ⟨hp, v, ps, hb, hr, hk⟩ := h
    exact ⟨hJ p hp (lt_of_heap hb), v, ps, hb, ⟨hr.1, fun g hg => hJ g (hr.2 g hg) (own_lt hr.1 g hg).1⟩, NAts.mono (fun b hb hl => ⟨hJ b hb.1 hl, hb.2⟩) ks ps hk⟩
theorem NAts.mono {I J : Nat → Prop} {w : World} (hJ : ∀ b, I b → b < w.heap.size → J b) : ∀ (ts : List Tr) (ps : List Nat), NAts I w ts ps → NAts J w ts ps
  | [], ps, h => by rw [NAts] at h ⊢; exact h
  | t :: ts, ps, h => by
    rw [NAts] at h ⊢
    obtain ⟨p, ps', M, rfl, h1, h2⟩ := h
    exact ⟨p, ps', M, rfl, NAt.mono (fun b hb hl => ⟨hJ b hb.1 hl, hb.2⟩) t p h1, NAts.mono (fun b hb hl => ⟨hJ b hb.1 hl, hb.2⟩) ts ps' h2⟩
end

theorem NAts.parts {I : Nat → Prop} {w : World} {t : Tr} {ts : List Tr} {ps : List Nat} (h : NAts I w (t :: ts) ps) : ∃ p ps', ps = p :: ps' ∧ NAt I w t p ∧ NAts I w ts ps' := by
  rw [NAts] at h
  obtain ⟨p, ps', M, e, h1, h2⟩ := h
  exact ⟨p, ps', e, NAt.mono (fun b hb _ => hb.1) _ _ h1, NAts.mono (fun b hb _ => hb.1) _ _ h2⟩
theorem NAts.length {I : Nat → Prop} {w : World} : ∀ (ts : List Tr) (ps : List Nat), NAts I w ts ps → ps.length = ts.length
  | [], ps, h => by rw [NAts] at h; rw [h]; rfl
  | t :: ts, ps, h => by
    obtain ⟨p, ps', rfl, h1, h2⟩ := h.parts
    simp [NAts.length ts ps' h2]
theorem NAts.nil {I : Nat → Prop} {w : World} : NAts I w [] [] := by rw [NAts]
theorem NAts.pair {I : Nat → Prop} {w : World} {M : Nat} {t u : Tr} {p q : Nat} (h : NAt (fun b => I b ∧ b < M) w t p) (h2 : NAt (fun b => I b ∧ M ≤ b) w u q) : NAts I w [t, u] [p, q] := by
  rw [NAts]
  refine ⟨p, [q], M, rfl, h, ?_⟩
  rw [NAts]
  exact ⟨q, [], w.heap.size, rfl, NAt.mono (fun _ hb hl => ⟨hb, hl⟩) _ _ h2, NAts.nil⟩
theorem NAts.cons {I : Nat → Prop} {w : World} {t : Tr} {p : Nat} (h : NAt I w t p) (_ : NAts I w [] []) : NAts I w [t] [p] := by
  rw [NAts]
  exact ⟨p, [], w.heap.size, rfl, NAt.mono (fun _ hb hl => ⟨hb, hl⟩) _ _ h, NAts.nil⟩
theorem NAts.append {M : Nat} {w : World} {us : List Tr} {qs : List Nat} : ∀ (ts : List Tr) (ps : List Nat) {I : Nat → Prop}, NAts (fun b => I b ∧ M ≤ b) w us qs → NAts (fun b => I b ∧ b < M) w ts ps → NAts I w (ts ++ us) (ps ++ qs)
  | [], ps, I, hu, h => by rw [NAts] at h; subst h; exact NAts.mono (fun b hb _ => hb.1) _ _ hu
  | t' :: ts, ps, I, hu, h => by
    rw [NAts] at h
    obtain ⟨p', ps', N, rfl, h1, h2⟩ := h
    show NAts I w (t' :: (ts ++ us)) (p' :: (ps' ++ qs))
    rw [NAts]
    refine ⟨p', ps' ++ qs, min N M, rfl, NAt.mono (fun b hb _ => ⟨hb.1.1, by have h1 := hb.1.2; have h2 := hb.2; omega⟩) _ _ h1, NAts.append ts ps' (NAts.mono (fun b hb _ => ⟨⟨hb.1, by have h1 := hb.2; omega⟩, hb.2⟩) _ _ hu) (NAts.mono (fun b hb _ => ⟨⟨hb.1.1, by have h1 := hb.2; omega⟩, hb.1.2⟩) _ _ h2)⟩

/-- Parts in a row, whatever their blocks. -/
def NLs (I : Nat → Prop) (w : World) : List Tr → List Nat → Prop
  | [], ps => ps = []
  | t :: ts, ps => ∃ p ps', ps = p :: ps' ∧ NAt I w t p ∧ NLs I w ts ps'
theorem NAts.nl {I : Nat → Prop} {w : World} : ∀ (ts : List Tr) (ps : List Nat), NAts I w ts ps → NLs I w ts ps
  | [], ps, h => by rw [NAts] at h; exact h
  | t :: ts, ps, h => by
    obtain ⟨p, ps', rfl, h1, h2⟩ := h.parts
    exact ⟨p, ps', rfl, h1, NAts.nl ts ps' h2⟩
theorem NLs.later {I : Nat → Prop} {w w' : World} (ha : Stay I w w') : ∀ (ts : List Tr) (ps : List Nat), NLs I w ts ps → NLs I w' ts ps
  | [], _, h => h
  | _ :: ts, _, ⟨p, ps', e, h1, h2⟩ => ⟨p, ps', e, NAt.later ha _ p h1, NLs.later ha ts ps' h2⟩
theorem NLs.length {I : Nat → Prop} {w : World} : ∀ (ts : List Tr) (ps : List Nat), NLs I w ts ps → ps.length = ts.length
  | [], _, h => by rw [show _ = _ from h]; rfl
  | t :: ts, ps, h => by
    obtain ⟨p, ps', rfl, h1, h2⟩ := h
    simp [NLs.length ts ps' h2]
theorem NLs.nil {I : Nat → Prop} {w : World} : NLs I w [] [] := rfl
theorem NLs.cons {I : Nat → Prop} {w : World} {t : Tr} {p : Nat} {ts : List Tr} {ps : List Nat} (h : NAt I w t p) (h2 : NLs I w ts ps) : NLs I w (t :: ts) (p :: ps) := ⟨p, ps, rfl, h, h2⟩
theorem NLs.append {I : Nat → Prop} {w : World} {us : List Tr} {qs : List Nat} (hu : NLs I w us qs) : ∀ (ts : List Tr) (ps : List Nat), NLs I w ts ps → NLs I w (ts ++ us) (ps ++ qs)
  | [], ps, h => by rw [show ps = [] from h]; exact hu
  | t' :: ts, ps, h => by
    obtain ⟨p', ps', rfl, h1, h2⟩ := h
    exact NLs.cons h1 (NLs.append hu ts ps' h2)

/-- A part's value: a node all of whose blocks are from a number on. -/
def NV (B : Nat) (w : World) (t : Tr) (v : Value) : Prop := ∃ p, v = nPtr p ∧ NAt (fun b => B ≤ b) w t p
/-- A node that may still grow: none of its parts has its own blocks. -/
def EV (B : Nat) (w : World) (t : Tr) (v : Value) : Prop :=
  ∃ p u ps, v = nPtr p ∧ B ≤ p ∧ w.heap[p]? = some (nodeObj t.kd t.tx t.n u) ∧ w.ownsRow B 22 1 u ps.length (ps.map nPtr) ∧ u.ownBlock ≠ some p ∧ NAts (fun b => B ≤ b ∧ b ≠ p ∧ u.ownBlock ≠ some b) w t.kids ps
/-- Parts in a row that may still grow. -/
def KV (B : Nat) (w : World) (ts : List Tr) (v : Value) : Prop :=
  ∃ ps, w.ownsRow B 22 1 v ps.length (ps.map nPtr) ∧ NAts (fun b => B ≤ b ∧ v.ownBlock ≠ some b) w ts ps

theorem owns_zero {w : World} {B e sz : Nat} {v : Value} {n : Nat} {xs : List Value} (h : w.ownsRow B e sz v n xs) : w.ownsRow 0 e sz v n xs := by
  refine ⟨h.1, ?_⟩
  rcases h.2 with hn | ⟨g, cap, cur, hv, hb, rest⟩
  · exact Or.inl hn
  · exact Or.inr ⟨g, cap, cur, hv, Nat.zero_le _, rest⟩

theorem EV.nv {B : Nat} {w : World} {t : Tr} {v : Value} (h : EV B w t v) : NV B w t v := by
  obtain ⟨p, u, ps, rfl, hp, hb, hr, _, hk⟩ := h
  cases t with
  | mk kd tx n ks =>
    refine ⟨p, rfl, ?_⟩
    rw [NAt]
    exact ⟨hp, u, ps, hb, ⟨owns_zero hr, fun g hg => (own_lt hr g hg).2⟩, NAts.mono (fun b hb _ => ⟨hb.1, hb.2.1⟩) _ _ hk⟩

theorem Stay.of_ap {R B : Nat} {I : Nat → Prop} {w w' : World} (h : Ap R w.heap.size w w') (hB : R < B) (hI : ∀ b, I b → B ≤ b) : Stay I w w' := fun b hb hl => h.block b hl (by have := hI b hb; omega)
theorem NV.later {R B : Nat} {w w' : World} {t : Tr} {v : Value} (h : NV B w t v) (ha : Ap R w.heap.size w w') (hB : R < B) : NV B w' t v := by
  obtain ⟨p, rfl, hp⟩ := h
  exact ⟨p, rfl, NAt.later (Stay.of_ap ha hB fun _ h => h) _ _ hp⟩
theorem NV.mono {B B' : Nat} {w : World} {t : Tr} {v : Value} (h : NV B w t v) (hB : B' ≤ B) : NV B' w t v := by
  obtain ⟨p, rfl, hp⟩ := h
  exact ⟨p, rfl, NAt.mono (fun b h _ => Nat.le_trans hB h) _ _ hp⟩
theorem EV.later {R B : Nat} {w w' : World} {t : Tr} {v : Value} (h : EV B w t v) (ha : Ap R w.heap.size w w') (hB : R < B) : EV B w' t v := by
  obtain ⟨p, u, ps, rfl, hp, hb, hr, hu, hk⟩ := h
  exact ⟨p, u, ps, rfl, hp, by rw [ha.block p (lt_of_heap hb) (by omega)]; exact hb, owns_stay (I := fun b => B ≤ b) (Stay.of_ap ha hB fun _ h => h) (fun g hg => (own_lt hr g hg).2) hr, hu, NAts.later (Stay.of_ap ha hB fun _ h => h.1) _ _ hk⟩
theorem EV.mono {B B' : Nat} {w : World} {t : Tr} {v : Value} (h : EV B w t v) (hB : B' ≤ B) : EV B' w t v := by
  obtain ⟨p, u, ps, rfl, hp, hb, hr, hu, hk⟩ := h
  refine ⟨p, u, ps, rfl, by omega, hb, ?_, hu, NAts.mono (fun b h _ => ⟨by omega, h.2⟩) _ _ hk⟩
  refine ⟨hr.1, ?_⟩
  rcases hr.2 with hn | ⟨g, cap, cur, hv, hb, rest⟩
  · exact Or.inl hn
  · exact Or.inr ⟨g, cap, cur, hv, by omega, rest⟩
theorem KV.later {R B : Nat} {w w' : World} {ts : List Tr} {v : Value} (h : KV B w ts v) (ha : Ap R w.heap.size w w') (hB : R < B) : KV B w' ts v := by
  obtain ⟨ps, hr, hk⟩ := h
  exact ⟨ps, owns_stay (I := fun b => B ≤ b) (Stay.of_ap ha hB fun _ h => h) (fun g hg => (own_lt hr g hg).2) hr, NAts.later (Stay.of_ap ha hB fun _ h => h.1) _ _ hk⟩
theorem KV.nil (B : Nat) (w : World) : KV B w [] (.slice none 0 0) := ⟨[], ⟨rfl, Or.inl ⟨rfl, rfl⟩⟩, NAts.nil⟩

theorem heap_new (w : World) (o : Obj) : (w.alloc o).heap[w.heap.size]? = some o := by simpa using heap_alloc_new w o

/-- A new node of a row of parts. -/
theorem EV.new {B : Nat} {w : World} {ts : List Tr} {v : Value} (h : KV B w ts v) (hB : B ≤ w.heap.size) (kd : Int) (tx : ByteArray) (n : Int) :
    EV B (w.alloc (nodeObj kd tx n v)) (.mk kd tx n ts) (nPtr w.heap.size) := by
  obtain ⟨ps, hr, hk⟩ := h
  have hs : ∀ I, Stay I w (w.alloc (nodeObj kd tx n v)) := fun I b _ hl => Below.heap_alloc w _ b hl
  refine ⟨w.heap.size, v, ps, rfl, hB, heap_new _ _, owns_stay (I := fun _ => True) (hs _) (fun _ _ => trivial) hr, fun h => ?_, NAts.later (hs _) _ _ (NAts.mono (fun b h hl => ⟨h.1, by omega, h.2⟩) _ _ hk)⟩
  exact absurd (own_lt hr _ h).1 (by omega)

/-- A new row, of parts that are there. -/
theorem KV.row {B : Nat} {w : World} {ts : List Tr} {ps : List Nat} (h : NAts (fun b => B ≤ b) w ts ps) (hB : B ≤ w.heap.size) (hl : ps.length ≤ maxLen) (cs : Array Value) (hc : cs.toList = ps.map nPtr) :
    KV B (w.alloc (.cells cs 22)) ts (.slice (some ⟨w.heap.size, 0, none⟩) ps.length ps.length) := by
  have hs : ∀ I, Stay I w (w.alloc (.cells cs 22)) := fun I b _ hl => Below.heap_alloc w _ b hl
  have hz : cs.size = ps.length := by rw [← Array.length_toList, hc, List.length_map]
  refine ⟨ps, ⟨by simp, Or.inr ⟨w.heap.size, ps.length, cs, rfl, hB, heap_new _ _, Nat.le_refl _, hl, by omega, ?_⟩⟩, NAts.later (hs _) _ _ (NAts.mono (fun b h hl => ⟨h, fun e => by simp only [Value.ownBlock, Option.some.injEq] at e; omega⟩) _ _ h)⟩
  rw [hc]
  exact List.take_of_length_le (by simp)

/-- The reader's things that stay: its block's number, the tokens, the maps. -/
structure Ctx where
  R : Nat
  l : List Tk
  tb : Nat
  cap : Nat
  mS : Nat
  mT : Nat
  mV : Nat
  lo : Nat

def sgV (s : Sg) : Value := .agg #[.string s.tx, .int .i64 s.kd, .int .i64 s.parts, .int .i64 s.str]
/-- A map's entries, in the order in which they came. -/
def mkE (e : (ByteArray × Value) × Nat) : MapEntry := { key := .string e.1.1, val := e.1.2, born := e.2 }
def mapOf (l : List (ByteArray × Value)) : Array MapEntry := ((l.zipIdx).map mkE).toArray
def sgMap : Array MapEntry := mapOf (sgs.map fun e => (e.tx, sgV e))
/-- The part's function, bound to its reader. -/
def boundV (R : Nat) (f : Nat) : Value := .func (.func f) #[.pointer (some ⟨R, 0, none⟩)] #[]
def stFn : Nat → Nat
  | 0 => 163
  | 1 => 164
  | 2 => 165
  | 3 => 166
  | 4 => 167
  | 5 => 168
  | 6 => 169
  | _ => 170
def vlFn : Nat → Nat
  | 0 => 171
  | 1 => 172
  | _ => 173
def stMap (R : Nat) : Array MapEntry := mapOf (stKeys.map fun e => (e.1, boundV R (stFn e.2)))
def vlMap (R : Nat) : Array MapEntry := mapOf (vlKeys.map fun e => (e.1, boundV R (vlFn e.2)))

def hdCells : Array Value := (hds.flatMap fun e => [.string e.1, .int .i64 e.2]).toArray

def Ctx.tv (c : Ctx) : Value := .slice (some ⟨c.tb, 0, none⟩) c.l.length c.cap

structure Base (c : Ctx) (w : World) : Prop where
  ends : Ends c.l
  tokens : ∃ cur, w.heap[c.tb]? = some (.cells cur 138 (0, 0)) ∧ c.l.length ≤ c.cap ∧ c.cap ≤ maxLen ∧ cur.size = c.cap * 4 ∧ cur.toList.take (c.l.length * 4) = tksCells c.l
  ntb : c.tb ≠ c.R
  signs : w.heap[c.mS]? = some (.map sgMap 14)
  nS : c.mS ≠ c.R
  stms : w.heap[c.mT]? = some (.map (stMap c.R) 12)
  nT : c.mT ≠ c.R
  vals : w.heap[c.mV]? = some (.map (vlMap c.R) 3)
  nV : c.mV ≠ c.R
  len : c.l.length ≤ 3001
  heads : ∃ t fr, w.heap[3]? = some (.cells hdCells t fr)
  nH : 3 ≠ c.R
  old : c.tb < c.lo ∧ c.mS < c.lo ∧ c.mT < c.lo ∧ c.mV < c.lo ∧ 3 < c.lo ∧ c.R < c.lo
  size : c.lo ≤ w.heap.size

theorem Base.later {c : Ctx} {B : Nat} {w w' : World} (h : Base c w) (ha : Ap c.R B w w') (hB : c.lo ≤ B) : Base c w' := by
  obtain ⟨h0, ⟨cur, h1, h1'⟩, h2, h3, h4, h5, h6, h7, h8, h9, ⟨t, fr, h10⟩, h11, h12, h13⟩ := h
  exact ⟨h0, ⟨cur, by rw [ha.block _ (by omega) h2]; exact h1, h1'⟩, h2, by rw [ha.block _ (by omega) h4]; exact h3, h4, by rw [ha.block _ (by omega) h6]; exact h5, h6, by rw [ha.block _ (by omega) h8]; exact h7, h8, h9, ⟨t, fr, by rw [ha.block _ (by omega) h11]; exact h10⟩, h11, h12, Nat.le_trans h13 ha.size⟩

def rdObj (c : Ctx) (i d : Nat) : Obj := .cells #[c.tv, .int .i64 (i : Int), .int .i64 (d : Int), .map (some c.mS), .map (some c.mT), .map (some c.mV)] 203 (0, 0)

/-- The reader stands at a token, so deep. -/
structure Rdr (c : Ctx) (w : World) (i d : Nat) : Prop where
  base : Base c w
  blk : w.heap[c.R]? = some (rdObj c i d)
  lt : i < c.l.length
  deep : d ≤ 30

/-- What stands, is in a world in which all but the reader's next token is so. -/
theorem Rdr.later {c : Ctx} {w w' : World} {i d : Nat} (h : Rdr c w i d) (ha : Below w.heap.size w w') : Rdr c w' i d :=
  ⟨h.base.later (Ap.of ha) h.base.size, by rw [ha.block _ (lt_of_heap h.blk)]; exact h.blk, h.lt, h.deep⟩
theorem Rdr.ap {c : Ctx} {B : Nat} {w w' : World} {i d : Nat} (h : Rdr c w i d) (ha : Below B w w') (hB : c.lo ≤ B) : Rdr c w' i d :=
  ⟨h.base.later (Ap.of ha) hB, by rw [ha.block _ (by have := h.base.old; omega)]; exact h.blk, h.lt, h.deep⟩
theorem Rdr.rlt {c : Ctx} {w : World} {i d : Nat} (h : Rdr c w i d) : c.R < w.heap.size := lt_of_heap h.blk

theorem cell_of {w : World} {b : Nat} {cs : Array Value} {t : TypeId} {fr : Nat × Nat} (h : w.heap[b]? = some (.cells cs t fr)) (o : Nat) : w.cell? ⟨b, o, none⟩ = cs[o]? := by
  simp [World.cell?, h]
theorem frozen_of {w : World} {b : Nat} {cs : Array Value} {t : TypeId} (h : w.heap[b]? = some (.cells cs t (0, 0))) (o : Nat) : w.frozen? ⟨b, o, none⟩ = false := by
  simp [World.frozen?, h]

theorem Rdr.c0 {c : Ctx} {w : World} {i d : Nat} (h : Rdr c w i d) : w.cell? ⟨c.R, 0, none⟩ = some c.tv := by rw [cell_of h.blk]; rfl
theorem Rdr.c1 {c : Ctx} {w : World} {i d : Nat} (h : Rdr c w i d) : w.cell? ⟨c.R, 1, none⟩ = some (.int .i64 (i : Int)) := by rw [cell_of h.blk]; rfl
theorem Rdr.c2 {c : Ctx} {w : World} {i d : Nat} (h : Rdr c w i d) : w.cell? ⟨c.R, 2, none⟩ = some (.int .i64 (d : Int)) := by rw [cell_of h.blk]; rfl
theorem Rdr.c3 {c : Ctx} {w : World} {i d : Nat} (h : Rdr c w i d) : w.cell? ⟨c.R, 3, none⟩ = some (.map (some c.mS)) := by rw [cell_of h.blk]; rfl
theorem Rdr.c4 {c : Ctx} {w : World} {i d : Nat} (h : Rdr c w i d) : w.cell? ⟨c.R, 4, none⟩ = some (.map (some c.mT)) := by rw [cell_of h.blk]; rfl
theorem Rdr.c5 {c : Ctx} {w : World} {i d : Nat} (h : Rdr c w i d) : w.cell? ⟨c.R, 5, none⟩ = some (.map (some c.mV)) := by rw [cell_of h.blk]; rfl
theorem Rdr.fz {c : Ctx} {w : World} {i d : Nat} (h : Rdr c w i d) (o : Nat) : w.frozen? ⟨c.R, o, none⟩ = false := frozen_of h.blk o

theorem heap_set {w : World} {b o : Nat} {cs : Array Value} {t : TypeId} {fr : Nat × Nat} (h : w.heap[b]? = some (.cells cs t fr)) (v : Value) :
    (w.setCell ⟨b, o, none⟩ v).heap[b]? = some (.cells (cs.setIfInBounds o v) t fr) := by
  obtain ⟨hl, he⟩ := Array.getElem?_eq_some_iff.1 h
  have hl2 : b < (w.setCell ⟨b, o, none⟩ v).heap.size := by simpa [World.setCell] using hl
  rw [Array.getElem?_eq_some_iff]
  refine ⟨hl2, ?_⟩
  simp only [World.setCell, Array.getElem_modify_self, he]
  rfl

theorem Rdr.go {c : Ctx} {w : World} {i d : Nat} (h : Rdr c w i d) (j : Nat) (hj : j < c.l.length) : Rdr c (w.setCell ⟨c.R, 1, none⟩ (.int .i64 (j : Int))) j d :=
  ⟨h.base.later (Ap.setCell (R := c.R) (Ap.refl _ _ _) (p := ⟨c.R, 1, none⟩) (Or.inr rfl) _) h.base.size, by rw [heap_set h.blk]; rfl, hj, h.deep⟩
theorem Rdr.dive {c : Ctx} {w : World} {i d : Nat} (h : Rdr c w i d) (e : Nat) (he : e ≤ 30) : Rdr c (w.setCell ⟨c.R, 2, none⟩ (.int .i64 (e : Int))) i e :=
  ⟨h.base.later (Ap.setCell (R := c.R) (Ap.refl _ _ _) (p := ⟨c.R, 2, none⟩) (Or.inr rfl) _) h.base.size, by rw [heap_set h.blk]; rfl, h.lt, he⟩

/-- What is thrown where a token can't stand. -/
def faultV (er : Int) (p : Nat) : List PanicEntry := [{ v := .iface 142 (.agg #[.int .i64 er, .int .i64 (p : Int)]), recovered := false }]

/-- How a part ends: with what it read, at a token; or with what is thrown. -/
def PPost {α : Type} (c : Ctx) (w : World) (d : Nat) (V : World → α → Value → Prop) (r : PR α) (e : Ending) (w' : World) : Prop :=
  match r with
  | .ok x j => (∃ v, e = .returned v ∧ V w' x v) ∧ Rdr c w' j d ∧ Ap c.R w.heap.size w w'
  | .bad er p => e = .panicked (faultV er p) ∧ Ap c.R w.heap.size w w'
  | .out => True


theorem tl_ne {a b : ByteArray} (h : a ≠ b) : (a.toList == b.toList) = false := by
  rw [beq_eq_false_iff_ne, ByteArray.toList_eq, ByteArray.toList_eq]
  exact fun e => h (Go.WideShapes.bytes_inj e)
theorem tl_eq {a b : ByteArray} (h : a = b) : (a.toList == b.toList) = true := by rw [h]; exact beq_self_eq_true _

theorem tl_neL {a b : ByteArray} {l : List UInt8} (hl : b.data.toList = l) (h : a ≠ b) : (a.toList == l) = false := by
  rw [← hl, ← ByteArray.toList_eq]; exact tl_ne h
theorem tl_eqL {a b : ByteArray} {l : List UInt8} (hl : b.data.toList = l) (h : a = b) : (a.toList == l) = true := by
  rw [← hl, ← ByteArray.toList_eq]; exact tl_eq h

def tkV (t : Tk) : Value := .agg #[.int .i64 t.kd, .string t.tx, .int .i64 t.n, .int .i64 (t.pl : Int)]
abbrev rPtr (c : Ctx) : Value := .pointer (some ⟨c.R, 0, none⟩)

theorem tks_get : ∀ (l : List Tk) (i j : Nat), i < l.length → j < 4 → (tksCells l)[i * 4 + j]? = (tkCells (tkA l i))[j]?
  | [], i, j, h, _ => absurd h (by simp)
  | t :: l, 0, j, _, hj => by
    simp only [tksCells, List.flatMap_cons, tkA, List.getD_cons_zero, Nat.zero_mul, Nat.zero_add]
    rw [List.getElem?_append_left (by simp [tkCells]; omega)]
  | t :: l, i + 1, j, h, hj => by
    have ih := tks_get l i j (by simpa using h) hj
    simp only [tksCells, List.flatMap_cons, tkA, List.getD_cons_succ] at ih ⊢
    rw [List.getElem?_append_right (by simp [tkCells]; omega)]
    rw [show (i + 1) * 4 + j - (tkCells t).length = i * 4 + j by simp [tkCells]; omega]
    exact ih

theorem Base.tok {c : Ctx} {w : World} (h : Base c w) (i j : Nat) (hi : i < c.l.length) (hj : j < 4) : w.cell? ⟨c.tb, i * 4 + j, none⟩ = (tkCells (tkA c.l i))[j]? := by
  obtain ⟨cur, hb, h1, h2, h3, h4⟩ := h.tokens
  rw [cell_of hb, ← tks_get c.l i j hi hj, ← h4, List.getElem?_take_of_lt (by omega), Array.getElem?_toList]
theorem Base.tlt {c : Ctx} {w : World} (h : Base c w) : c.tb < w.heap.size := by
  obtain ⟨cur, hb, _⟩ := h.tokens
  exact lt_of_heap hb

theorem token_any (c : Ctx) (w : World) (i d : Nat) (h : Rdr c w i d) :
    Calls Tryz.prog 174 #[rPtr c] w fun e w' => e = .returned (tkV (tkA c.l i)) ∧ Below w.heap.size w w' := by
  have h0 : w.cell? ⟨c.R, 0, none⟩ = some (.slice (some ⟨c.tb, 0, none⟩) c.l.length c.cap) := h.c0
  have h1 := h.c1
  have hR := h.rlt
  have hT := h.base.tlt
  have hlt : (i : Int) < (c.l.length : Int) := by have := h.lt; omega
  have k0 : w.cell? ⟨c.tb, i * 4, none⟩ = some (.int .i64 (tkA c.l i).kd) := h.base.tok i 0 h.lt (by decide)
  have k1 : w.cell? ⟨c.tb, i * 4 + 1, none⟩ = some (.string (tkA c.l i).tx) := h.base.tok i 1 h.lt (by decide)
  have k2 : w.cell? ⟨c.tb, i * 4 + 2, none⟩ = some (.int .i64 (tkA c.l i).n) := h.base.tok i 2 h.lt (by decide)
  have k3 : w.cell? ⟨c.tb, i * 4 + 3, none⟩ = some (.int .i64 ((tkA c.l i).pl : Int)) := h.base.tok i 3 h.lt (by decide)
  clear h
  go_enter Tryz.func174, Tryz.ntmps174
  go_wp2_with fail
  go_region
  go_wp2_with fail
  exact bodyPost_ret (v := tkV (tkA c.l i)) (by simp [results, Tryz.results174, go_sem, tkV]) rfl ⟨rfl, ((Below.refl _ _).alloc (Nat.le_refl _) _).drew⟩

theorem ret_str {a b : ByteArray} (h : a = b) : Ending.returned (.string a) = .returned (.string b) := by rw [h]

theorem fixed_any (c : Ctx) (w : World) (i d : Nat) (h : Rdr c w i d) :
    Calls Tryz.prog 240 #[rPtr c] w fun e w' => e = .returned (.string (fx c.l i)) ∧ Below w.heap.size w w' := by
  have HT := hide (token_any c w i d h)
  clear h
  cases h2 : (tkA c.l i).kd == 2
  · cases h5 : (tkA c.l i).kd == 5
    · go_enter Tryz.func240, Tryz.ntmps240
      go_wp2_with fail
      refine Calls.mono HT.out ?_
      rintro e w1 ⟨rfl, hb⟩
      have HB := hide hb
      clear hb
      unfold tkV
      go_wp2_with fail
      go_ret
      exact ⟨ret_str (by simp [fx, h2, h5]), (unhide HB).alloc (unhide HB).size _⟩
    · go_enter Tryz.func240, Tryz.ntmps240
      go_wp2_with fail
      refine Calls.mono HT.out ?_
      rintro e w1 ⟨rfl, hb⟩
      have HB := hide hb
      clear hb
      unfold tkV
      go_wp2_with fail
      go_ret
      exact ⟨ret_str (by simp [fx, h2, h5]), (unhide HB).alloc (unhide HB).size _⟩
  · go_enter Tryz.func240, Tryz.ntmps240
    go_wp2_with fail
    refine Calls.mono HT.out ?_
    rintro e w1 ⟨rfl, hb⟩
    have HB := hide hb
    clear hb
    unfold tkV
    go_wp2_with fail
    go_ret
    exact ⟨ret_str (by simp [fx, h2]), (unhide HB).alloc (unhide HB).size _⟩

theorem ppBad {α : Type} {c : Ctx} {w w' : World} {d : Nat} {V : World → α → Value → Prop} {r : PR α} {er : Int} {p : Nat} (hr : r = .bad er p) (ha : Ap c.R w.heap.size w w') :
    PPost c w d V r (.panicked (faultV er p)) w' := by rw [hr]; exact ⟨rfl, ha⟩
theorem ppOk {α : Type} {c : Ctx} {w w' : World} {d : Nat} {V : World → α → Value → Prop} {r : PR α} {x : α} {j : Nat} {v : Value} (hr : r = .ok x j) (hv : V w' x v) (hd : Rdr c w' j d) (ha : Ap c.R w.heap.size w w') :
    PPost c w d V r (.returned v) w' := by rw [hr]; exact ⟨⟨v, rfl, hv⟩, hd, ha⟩

theorem failAt_any (c : Ctx) (er : Int) (t : Tk) (w : World) :
    Calls Tryz.prog 280 #[rPtr c, .int .i64 er, tkV t] w fun e w' => e = .panicked (faultV er t.pl) ∧ Below w.heap.size w w' := by
  unfold tkV
  go_enter Tryz.func280, Tryz.ntmps280
  go_wp2_with fail
  exact ⟨rfl, rfl, (Below.refl _ _).alloc (Nat.le_refl _) _⟩

theorem fault_any (c : Ctx) (er : Int) (w : World) (i d : Nat) (h : Rdr c w i d) :
    Calls Tryz.prog 241 #[rPtr c, .int .i64 er] w fun e w' => e = .panicked (faultV er (tkA c.l i).pl) ∧ Below w.heap.size w w' := by
  have HT := hide (token_any c w i d h)
  clear h
  go_enter Tryz.func241, Tryz.ntmps241
  go_wp2_with fail
  refine Calls.mono HT.out ?_
  rintro e w1 ⟨rfl, hb⟩
  have HB := hide hb
  clear hb
  have HF := hide (failAt_any c er (tkA c.l i) w1)
  go_wp2_with fail
  refine Calls.mono HF.out ?_
  rintro e w2 ⟨rfl, hb2⟩
  exact ⟨rfl, rfl, (unhide HB).trans (hb2.mono (unhide HB).size)⟩

theorem Rdr.go2 {c : Ctx} {w : World} {i d : Nat} (h : Rdr c w i d) (j : Nat) (hj : j < c.l.length) {v : Int} (hv : v = (j : Int)) : Rdr c (w.setCell ⟨c.R, 1, none⟩ (.int .i64 v)) j d := by
  subst hv; exact h.go j hj
theorem ap_next {c : Ctx} {w w1 : World} (hb : Below w.heap.size w w1) (v : Value) (o : Nat) : Ap c.R w.heap.size w (w1.setCell ⟨c.R, o, none⟩ v) :=
  Ap.setCell (R := c.R) (Ap.of hb) (p := ⟨c.R, o, none⟩) (Or.inr rfl) _

theorem take_yes (c : Ctx) (s : ByteArray) (w : World) (i d : Nat) (h : Rdr c w i d) (hs : fx c.l i = s) (hn : s ≠ noText) :
    Calls Tryz.prog 242 #[rPtr c, .string s] w fun e w' => e = .returned (.bool true) ∧ Rdr c w' (i + 1) d ∧ Ap c.R w.heap.size w w' := by
  have HT := hide (fixed_any c w i d h)
  have HR := hide h
  have hi : i + 1 < c.l.length := fx_lt h.base.ends h.lt hs hn
  have hL := h.base.len
  subst hs
  clear h hn
  go_enter Tryz.func242, Tryz.ntmps242
  go_wp2_with fail
  refine Calls.mono HT.out ?_
  rintro e w1 ⟨rfl, hb⟩
  have HB := hide hb
  have HR1 := hide ((unhide HR).later hb)
  have h1 := (unhide HR1).c1
  have hz := (unhide HR1).fz
  clear hb
  go_wp2_with fail
  go_ret
  exact ⟨rfl, (unhide HR1).go2 (i + 1) hi (by omega), ap_next (unhide HB) _ _⟩

theorem take_not (c : Ctx) (s : ByteArray) (w : World) (i d : Nat) (h : Rdr c w i d) (hs : fx c.l i ≠ s) :
    Calls Tryz.prog 242 #[rPtr c, .string s] w fun e w' => e = .returned (.bool false) ∧ Below w.heap.size w w' := by
  have HT := hide (fixed_any c w i d h)
  clear h
  have hs1 := tl_ne hs
  clear hs
  go_enter Tryz.func242, Tryz.ntmps242
  go_wp2_with fail
  refine Calls.mono HT.out ?_
  rintro e w1 ⟨rfl, hb⟩
  have HB := hide hb
  clear hb
  go_wp2_with fail
  go_ret
  exact ⟨rfl, unhide HB⟩

abbrev UV : World → Unit → Value → Prop := fun _ _ v => v = .tuple #[]

theorem must_any (c : Ctx) (s : ByteArray) (w : World) (i d : Nat) (h : Rdr c w i d) (hn : s ≠ noText) :
    Calls Tryz.prog 244 #[rPtr c, .string s] w (PPost c w d UV (mustP c.l s i)) := by
  by_cases hs : fx c.l i = s
  · have HT := hide (take_yes c s w i d h hs hn)
    have hm : mustP c.l s i = .ok () (i + 1) := by unfold mustP; rw [if_pos hs]
    rw [hm]
    clear h hn hs hm
    go_enter Tryz.func244, Tryz.ntmps244
    go_wp2_with fail
    refine Calls.mono HT.out ?_
    rintro e w1 ⟨rfl, hr, ha⟩
    have HR := hide hr
    have HA := hide ha
    clear hr ha
    go_wp2_with fail
    go_end0
    exact ppOk rfl rfl (unhide HR) (unhide HA)
  · have HT := hide (take_not c s w i d h hs)
    have hm : mustP c.l s i = .bad 3 (tkA c.l i).pl := by unfold mustP; rw [if_neg hs]; rfl
    rw [hm]
    have HR := hide h
    clear h hn hs hm
    go_enter Tryz.func244, Tryz.ntmps244
    go_wp2_with fail
    refine Calls.mono HT.out ?_
    rintro e w1 ⟨rfl, hb⟩
    have HB := hide hb
    have HF := hide (fault_any c 3 w1 i d ((unhide HR).later hb))
    clear hb
    go_wp2_with fail
    refine Calls.mono HF.out ?_
    rintro e w2 ⟨rfl, hb2⟩
    exact ⟨rfl, ppBad rfl (Ap.of ((unhide HB).trans (hb2.mono (unhide HB).size)))⟩

theorem fldKind (t : Tk) (W : World) : (Instr.field 138 (.agg #[.int .i64 t.kd, .string t.tx, .int .i64 t.n, .int .i64 (t.pl : Int)]) 0).run Tryz.prog W = .ok (.int .i64 t.kd) W := by kernel_rfl
theorem fldText (t : Tk) (W : World) : (Instr.field 138 (.agg #[.int .i64 t.kd, .string t.tx, .int .i64 t.n, .int .i64 (t.pl : Int)]) 1).run Tryz.prog W = .ok (.string t.tx) W := by kernel_rfl

theorem atName_any (c : Ctx) (w : World) (i d : Nat) (h : Rdr c w i d) :
    Calls Tryz.prog 247 #[rPtr c] w fun e w' => e = .returned (.bool (isName c.l i)) ∧ Below w.heap.size w w' := by
  have HT := hide (token_any c w i d h)
  clear h
  go_enter Tryz.func247, Tryz.ntmps247
  go_wp2_with fail
  refine Calls.mono HT.out ?_
  rintro e w1 ⟨rfl, hb⟩
  have HB := hide hb
  clear hb
  have hfl := fldKind (tkA c.l i)
  unfold tkV
  go_wp2_with fail
  go_ret
  exact ⟨rfl, unhide HB⟩

abbrev SV : World → ByteArray → Value → Prop := fun _ s v => v = .string s

theorem name_any (c : Ctx) (w : World) (i d : Nat) (h : Rdr c w i d) :
    Calls Tryz.prog 239 #[rPtr c] w (PPost c w d SV (nameP c.l i)) := by
  have HN := hide (atName_any c w i d h)
  by_cases hs : (tkA c.l i).kd = 1
  · have hm : nameP c.l i = .ok (tkA c.l i).tx (i + 1) := by unfold nameP; rw [if_pos hs]
    have hi : i + 1 < c.l.length := next_lt h.base.ends h.lt (by rw [hs]; decide)
    have hL := h.base.len
    have hk : isName c.l i = true := by unfold isName; rw [hs]; rfl
    rw [hm]
    rw [hk] at HN
    have HR := hide h
    clear h hs hm hk
    go_enter Tryz.func239, Tryz.ntmps239
    go_wp2_with fail
    refine Calls.mono HN.out ?_
    rintro e w1 ⟨rfl, hb⟩
    have HB := hide hb
    have HR1 := hide ((unhide HR).later hb)
    have HT := hide (token_any c w1 i d (unhide HR1))
    clear hb
    go_wp2_with fail
    refine Calls.mono HT.out ?_
    rintro e w2 ⟨rfl, hb⟩
    have HB2 := hide ((unhide HB).trans (hb.mono (unhide HB).size))
    have HR2 := hide ((unhide HR1).later hb)
    have h1 := (unhide HR2).c1
    have hz := (unhide HR2).fz
    clear hb
    have hfl := fldText (tkA c.l i)
    unfold tkV
    go_wp2_with fail
    go_ret
    exact ppOk rfl rfl ((unhide HR2).go2 (i + 1) hi (by omega)) (ap_next (unhide HB2) _ _)
  · have hm : nameP c.l i = .bad 3 (tkA c.l i).pl := by unfold nameP; rw [if_neg hs]; rfl
    have hk : isName c.l i = false := by unfold isName; exact beq_eq_false_iff_ne.2 hs
    rw [hm]
    rw [hk] at HN
    have HR := hide h
    clear h hs hm hk
    go_enter Tryz.func239, Tryz.ntmps239
    go_wp2_with fail
    refine Calls.mono HN.out ?_
    rintro e w1 ⟨rfl, hb⟩
    have HB := hide hb
    have HF := hide (fault_any c 3 w1 i d ((unhide HR).later hb))
    clear hb
    go_wp2_with fail
    refine Calls.mono HF.out ?_
    rintro e w2 ⟨rfl, hb2⟩
    exact ⟨rfl, ppBad rfl (Ap.of ((unhide HB).trans (hb2.mono (unhide HB).size)))⟩

theorem node_any (kd : Int) (tx : ByteArray) (v : Value) (w : World) (hv : ∃ a n cap, v = .slice a n cap) :
    Calls Tryz.prog 178 #[.int .i64 kd, .string tx, v] w fun e w' => e = .returned (nPtr w.heap.size) ∧ w' = w.alloc (nodeObj kd tx 0 v) := by
  obtain ⟨a, n, cap, rfl⟩ := hv
  go_enter Tryz.func178, Tryz.ntmps178
  go_wp2_with fail
  go_ret
  exact ⟨rfl, rfl⟩
end Go.Proofs.YtoimgcjbcbhclaaGreatDoor
