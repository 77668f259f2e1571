/-
  Rows of rows: how they lie, and what stays.
-/
import Derived.Test.YtomogijjkdiomaaDoorHp0
import Derived.Laws.OwnMore
set_option maxRecDepth 100000
set_option maxHeartbeats 16000000
namespace Go.Proofs.YtomogijjkdiomaaDoor
open Go.RowKit

theorem row_form {w : World} {base : Nat} {e : TypeId} {size : Nat} {v : Value} {n : Nat} {xs : List Value} (h : w.ownsRow base e size v n xs) : v = .slice none 0 0 ∧ n = 0 ∨ ∃ g cap, v = .slice (some ⟨g, 0, none⟩) n cap := by
  rcases h.2 with h | ⟨g, cap, _, h, _⟩
  · exact .inl h
  · exact .inr ⟨g, cap, h⟩
theorem cell_below {w wr : World} {B : Nat} (h : Below B w wr) {a : Addr} (hb : a.block < B) : wr.cell? a = w.cell? a := World.cell?_of_block (h.block a.block hb)
theorem grown_of {w w' : World} (hb : Below w.heap.size w w') : w.grownBy w' none := ⟨hb.os, hb.tape, hb.output, hb.size, fun k hk _ => hb.block k hk⟩
theorem row_later {w w' : World} {base : Nat} {e : TypeId} {size : Nat} {v : Value} {n : Nat} {xs : List Value} (h : w.ownsRow base e size v n xs) (hb : Below w.heap.size w w') : w'.ownsRow base e size v n xs :=
  h.kept (grown_of hb) (by cases v.ownBlock <;> simp)
theorem row_tag {w : World} {base : Nat} {e : TypeId} {size : Nat} {v : Value} {n : Nat} {xs : List Value} (h : w.ownsRow base e size v n xs) {k : Nat} (hk : v.ownBlock = some k) : ∃ cur, w.heap[k]? = some (.cells cur e (0, 0)) := by
  rcases h.2 with ⟨rfl, _⟩ | ⟨g, cap, cur, rfl, _, hg, _⟩
  · simp [Value.ownBlock] at hk
  · simp [Value.ownBlock] at hk
    subst hk
    exact ⟨cur, hg⟩
theorem tags_ne {w : World} {j k : Nat} {c c' : Array Value} {e e' : TypeId} {z z' : Nat × Nat} (h : w.heap[j]? = some (.cells c e z)) (h' : w.heap[k]? = some (.cells c' e' z')) (hne : e ≠ e') : j ≠ k := by
  rintro rfl
  rw [h] at h'
  simp at h'
  exact hne h'.2.1
/-- What stays: all below a number, and every block that is not of these kinds. -/
structure FrT (T : List TypeId) (B : Nat) (w w' : World) : Prop where
  below : Below B w w'
  rest : ∀ (b : Nat) c (e : TypeId), w.heap[b]? = some (.cells c e (0, 0)) → e ∉ T → w'.heap[b]? = some (.cells c e (0, 0))
theorem FrT.of {T : List TypeId} {B : Nat} {w w' : World} (hb : Below w.heap.size w w') (hB : B ≤ w.heap.size) : FrT T B w w' :=
  ⟨hb.mono hB, fun b _ _ h _ => (hb.block b (lt_of_block h)).trans h⟩
theorem FrT.trans {T : List TypeId} {B : Nat} {a b c : World} (h : FrT T B a b) (k : FrT T B b c) : FrT T B a c := ⟨h.below.trans k.below, fun x y e z q => k.rest x y e (h.rest x y e z q) q⟩
theorem FrT.mono {T T' : List TypeId} {B B' : Nat} {w w' : World} (h : FrT T B w w') (hT : ∀ e ∈ T, e ∈ T') (hB : B' ≤ B) : FrT T' B' w w' := ⟨h.below.mono hB, fun b c e hb he => h.rest b c e hb fun q => he (hT e q)⟩
theorem FrT.grown {T : List TypeId} {B : Nat} {w w' : World} {row : Option Nat} (hg : w.grownBy w' row) (hB : B ≤ w.heap.size) (h : ∀ k, row = some k → B ≤ k ∧ ∃ c e, w.heap[k]? = some (.cells c e (0, 0)) ∧ e ∈ T) : FrT T B w w' := by
  refine ⟨⟨hg.os, hg.tape, hg.output, hg.size, fun k hk => ?_⟩, fun b _ e' hb he => ?_⟩
  · exact hg.block k (Nat.lt_of_lt_of_le hk hB) (fun e => by have := (h k e.symm).1; omega)
  · refine (hg.block b (lt_of_block hb) (fun e => ?_)).trans hb
    obtain ⟨_, c', e'', h1, h2⟩ := h b e.symm
    exact tags_ne h1 hb (by rintro rfl; exact he h2) rfl
theorem FrT.setCell {T : List TypeId} {B : Nat} {w w' : World} (h : FrT T B w w') {g j : Nat} {c : Array Value} {e : TypeId} (hg : w'.heap[g]? = some (.cells c e (0, 0))) (he : e ∈ T) (hB : B ≤ g) (u : Value) : FrT T B w (w'.setCell ⟨g, j, none⟩ u) := by
  refine ⟨h.below.setCell (p := ⟨g, j, none⟩) hB _, fun b d e' hb he' => ?_⟩
  have h1 := h.rest b d e' hb he'
  rw [heap_setCell_other _ _ _ _ (by exact (tags_ne hg h1 (by rintro rfl; exact he' he)).symm)]
  exact h1
theorem row_keep {T : List TypeId} {B B' : Nat} {w w' : World} {e : TypeId} {size : Nat} {v : Value} {n : Nat} {xs : List Value} (h : w.ownsRow B e size v n xs) (f : FrT T B' w w') (he : e ∉ T) : w'.ownsRow B e size v n xs := by
  refine ⟨h.1, ?_⟩
  rcases h.2 with hn | ⟨g, cap, cur, hv, hb, hg, rest⟩
  · exact Or.inl hn
  · exact Or.inr ⟨g, cap, cur, hv, hb, f.rest g cur e hg he, rest⟩

/-- A part of a row: what is ahead of its own row, and that row. -/
structure El where
  hd : List Value
  n : Nat
  xs : List Value
def flat : List El → List Value → List Value
  | e :: es, v :: vs => e.hd ++ v :: flat es vs
  | _, _ => []
theorem flat_get {so : Nat} : ∀ (es : List El) (vs : List Value) (i j : Nat) (e : El) (v : Value), (∀ e ∈ es, e.hd.length + 1 = so) → es[i]? = some e → vs[i]? = some v → j < so → (flat es vs)[i * so + j]? = (e.hd ++ [v])[j]?
  | [], _, i, j, e, v, _, h, _, _ => by simp at h
  | _ :: _, [], i, j, e, v, _, _, h, _ => by simp at h
  | a :: es, b :: vs, 0, j, e, v, hl, h, h', hj => by
    simp at h h'
    subst h h'
    have := hl a (by simp)
    show (a.hd ++ b :: flat es vs)[0 * so + j]? = _
    rw [Nat.zero_mul, Nat.zero_add, show a.hd ++ b :: flat es vs = (a.hd ++ [b]) ++ flat es vs by simp, List.getElem?_append_left (by simp; omega)]
  | a :: es, b :: vs, i + 1, j, e, v, hl, h, h', hj => by
    have hr := flat_get es vs i j e v (fun x hx => hl x (by simp [hx])) (by simpa using h) (by simpa using h') hj
    have := hl a (by simp)
    show (a.hd ++ b :: flat es vs)[(i + 1) * so + j]? = _
    rw [show a.hd ++ b :: flat es vs = (a.hd ++ [b]) ++ flat es vs by simp, show (i + 1) * so + j = (a.hd ++ [b]).length + (i * so + j) by simp [Nat.add_mul]; omega, List.getElem?_append_right (by omega), Nat.add_sub_cancel_left]
    exact hr
theorem flat_app : ∀ (es es' : List El) (vs vs' : List Value), vs.length = es.length → flat (es ++ es') (vs ++ vs') = flat es vs ++ flat es' vs'
  | [], es', [], vs', _ => by simp [flat]
  | [], _, _ :: _, _, h => by simp at h
  | _ :: _, _, [], _, h => by simp at h
  | a :: es, es', b :: vs, vs', h => by
    have := flat_app es es' vs vs' (by simpa using h)
    simp [flat, this]
theorem flat_set {so : Nat} : ∀ (es : List El) (vs : List Value) (i : Nat) (e e' : El) (v : Value), (∀ e ∈ es, e.hd.length + 1 = so) → vs.length = es.length → es[i]? = some e → e'.hd = e.hd → flat (es.set i e') (vs.set i v) = (flat es vs).set (i * so + (so - 1)) v
  | [], _, i, e, e', v, _, _, h, _ => by simp at h
  | _ :: _, [], i, e, e', v, _, h, _, _ => by simp at h
  | a :: es, b :: vs, 0, e, e', v, hl, _, h, ho => by
    simp at h
    subst h
    have := hl a (by simp)
    show e'.hd ++ v :: flat es vs = (a.hd ++ b :: flat es vs).set (0 * so + (so - 1)) v
    rw [ho, Nat.zero_mul, Nat.zero_add, List.set_append_right _ _ (by omega), show so - 1 - a.hd.length = 0 by omega]
    rfl
  | a :: es, b :: vs, i + 1, e, e', v, hl, hlen, h, ho => by
    have hr := flat_set es vs i e e' v (fun x hx => hl x (by simp [hx])) (by simpa using hlen) (by simpa using h) ho
    have := hl a (by simp)
    show a.hd ++ b :: flat (es.set i e') (vs.set i v) = (a.hd ++ b :: flat es vs).set ((i + 1) * so + (so - 1)) v
    rw [hr, show (i + 1) * so + (so - 1) = a.hd.length + ((i * so + (so - 1)) + 1) by simp [Nat.add_mul]; omega, List.set_append_right _ _ (by omega), Nat.add_sub_cancel_left]
    rfl
/-- A row of parts, each with a row of its own. -/
structure Tb (B : Nat) (eo : TypeId) (so : Nat) (ei : TypeId) (si : Nat) (w : World) (tv : Value) (es : List El) (vs : List Value) : Prop where
  row : w.ownsRow B eo so tv es.length (flat es vs)
  len : vs.length = es.length
  hl : ∀ e ∈ es, e.hd.length + 1 = so
  own : ∀ (i : Nat) e v, es[i]? = some e → vs[i]? = some v → w.ownsRow B ei si v e.n e.xs
  apart : ∀ (i j : Nat) a b g, vs[i]? = some a → vs[j]? = some b → a.ownBlock = some g → b.ownBlock = some g → i = j
  ne : eo ≠ ei
section
variable {B : Nat} {eo : TypeId} {so : Nat} {ei : TypeId} {si : Nat} {w w' : World} {tv : Value} {es : List El} {vs : List Value}
theorem Tb.nil (hne : eo ≠ ei) : Tb B eo so ei si w (.slice none 0 0) [] [] :=
  ⟨World.ownsRow_nil _ _ _ _, rfl, fun e h => by simp at h, fun i s v h => by simp at h, fun i j a b g h => by simp at h, hne⟩
theorem Tb.later (h : Tb B eo so ei si w tv es vs) (hb : Below w.heap.size w w') : Tb B eo so ei si w' tv es vs :=
  ⟨row_later h.row hb, h.len, h.hl, fun i s v a b => row_later (h.own i s v a b) hb, h.apart, h.ne⟩
theorem Tb.keep {T : List TypeId} {B' : Nat} (h : Tb B eo so ei si w tv es vs) (f : FrT T B' w w') (h1 : eo ∉ T) (h2 : ei ∉ T) : Tb B eo so ei si w' tv es vs :=
  ⟨row_keep h.row f h1, h.len, h.hl, fun i s v a b => row_keep (h.own i s v a b) f h2, h.apart, h.ne⟩
theorem Tb.at_ (h : Tb B eo so ei si w tv es vs) {i : Nat} {e : El} (hi : es[i]? = some e) :
    ∃ g cap v, tv = .slice (some ⟨g, 0, none⟩) es.length cap ∧ i < es.length ∧ vs[i]? = some v ∧ (∀ j u, (e.hd ++ [v])[j]? = some u → w.cell? ⟨g, i * so + j, none⟩ = some u) ∧ w.ownsRow B ei si v e.n e.xs ∧ g < w.heap.size ∧ B ≤ g ∧ (∀ j, w.frozen? ⟨g, j, none⟩ = false) ∧ e.hd.length + 1 = so := by
  have hlt : i < es.length := (List.getElem?_eq_some_iff.1 hi).1
  obtain ⟨v, hv⟩ : ∃ v, vs[i]? = some v := ⟨_, List.getElem?_eq_getElem (by rw [h.len]; exact hlt)⟩
  have hhl := h.hl e (List.mem_of_getElem? hi)
  rcases row_form h.row with ⟨_, hn⟩ | ⟨g, cap, rfl⟩
  · omega
  · refine ⟨g, cap, v, rfl, hlt, hv, fun j u hj => ?_, h.own i e v hi hv, (h.row.lt g rfl).2, (h.row.lt g rfl).1, h.row.frozenAt, hhl⟩
    have hjs : j < so := by
      have := (List.getElem?_eq_some_iff.1 hj).1
      simp at this; omega
    have hm : i * so + j < es.length * so := by
      have h1 : (i + 1) * so ≤ es.length * so := Nat.mul_le_mul_right _ hlt
      rw [Nat.add_mul] at h1; omega
    rw [h.row.cellAt _ hm, flat_get es vs i j e v h.hl hi hv hjs]
    exact hj
theorem Tb.nes (h : Tb B eo so ei si w tv es vs) {i : Nat} {v : Value} (hv : vs[i]? = some v) : ∃ s, es[i]? = some s ∧ (∀ k, v.ownBlock = some k → B ≤ k ∧ k < w.heap.size ∧ tv.ownBlock ≠ some k ∧ ∃ c, w.heap[k]? = some (.cells c ei (0, 0))) := by
  have hl : i < es.length := by
    have := (List.getElem?_eq_some_iff.1 hv).1
    rw [h.len] at this; exact this
  refine ⟨es[i], List.getElem?_eq_getElem hl, fun k hk => ?_⟩
  have hr := h.own i es[i] v (List.getElem?_eq_getElem hl) hv
  obtain ⟨c, hc⟩ := row_tag hr hk
  have h1 := (hr.lt k hk)
  refine ⟨h1.1, h1.2, fun e => ?_, c, hc⟩
  obtain ⟨c', hc'⟩ := row_tag h.row e
  exact tags_ne hc hc' (fun q => h.ne q.symm) rfl
theorem mem_set {es : List El} {i : Nat} {e' x : El} (h : x ∈ es.set i e') : x = e' ∨ x ∈ es := (List.mem_or_eq_of_mem_set h).symm
/-- A part's row is another one, in its own block alone. -/
theorem Tb.bump {w1 : World} (h : Tb B eo so ei si w tv es vs) (hB : B ≤ w.heap.size) {i : Nat} {e : El} {v : Value} (hi : es[i]? = some e) (hv : vs[i]? = some v)
    (hgr : w.grownBy w1 v.ownBlock) {n' : Nat} {xs' : List Value} (hown : w1.ownsRow B ei si v n' xs') : Tb B eo so ei si w1 tv (es.set i ⟨e.hd, n', xs'⟩) vs ∧ FrT [ei] B w w1 := by
  obtain ⟨s0, _, hne⟩ := h.nes hv
  have hvs : vs.set i v = vs := by
    obtain ⟨hx, rfl⟩ := List.getElem?_eq_some_iff.1 hv
    exact List.set_getElem_self hx
  have hhl := h.hl e (List.mem_of_getElem? hi)
  refine ⟨⟨?_, by simpa using h.len, ?_, ?_, h.apart, h.ne⟩, FrT.grown hgr hB fun k hk => ⟨(hne k hk).1, (hne k hk).2.2.2.choose, ei, (hne k hk).2.2.2.choose_spec, by simp⟩⟩
  · have hk := h.row.kept hgr (by
      cases hs : tv.ownBlock with
      | none => exact .inl rfl
      | some q => exact .inr fun e => (hne q e.symm).2.2.1 hs)
    have e1 := flat_set es vs i e ⟨e.hd, n', xs'⟩ v h.hl h.len hi rfl
    rw [hvs] at e1
    have e2 := flat_get es vs i (so - 1) e v h.hl hi hv (by omega)
    rw [List.getElem?_append_right (by omega), show so - 1 - e.hd.length = 0 by omega] at e2
    rw [List.length_set, e1]
    rw [show (flat es vs).set (i * so + (so - 1)) v = flat es vs by
      obtain ⟨hx, hy⟩ := List.getElem?_eq_some_iff.1 (e2.trans rfl)
      rw [← hy]
      exact List.set_getElem_self hx]
    exact hk
  · intro x hx
    rcases mem_set hx with rfl | hx
    · exact hhl
    · exact h.hl x hx
  · intro j s' v' hj hv'
    by_cases hji : i = j
    · subst hji
      rw [hv] at hv'
      cases hv'
      have : i < es.length := (List.getElem?_eq_some_iff.1 hi).1
      simp [List.getElem?_set_self this] at hj
      subst hj
      exact hown
    · rw [List.getElem?_set_ne hji] at hj
      refine (h.own j s' v' hj hv').kept hgr ?_
      cases hq : v'.ownBlock with
      | none => exact .inl rfl
      | some q => exact .inr fun e => hji (h.apart i j v v' q hv hv' e.symm hq)
/-- A part's row lies elsewhere: stored. -/
theorem Tb.put {w1 : World} {g cap : Nat} (h : Tb B eo so ei si w (.slice (some ⟨g, 0, none⟩) es.length cap) es vs) (hB : B ≤ w.heap.size) {i : Nat} {e : El} {v : Value} (hi : es[i]? = some e) (hv : vs[i]? = some v)
    (hgr : w.grownBy w1 v.ownBlock) {v' : Value} {n' : Nat} {xs' : List Value} (hown : w1.ownsRow B ei si v' n' xs') (hg' : ∀ q, v'.ownBlock = some q → v.ownBlock = some q ∨ w.heap.size ≤ q) :
    Tb B eo so ei si (w1.setCell ⟨g, i * so + (so - 1), none⟩ v') (.slice (some ⟨g, 0, none⟩) es.length cap) (es.set i ⟨e.hd, n', xs'⟩) (vs.set i v') ∧ FrT [eo, ei] B w (w1.setCell ⟨g, i * so + (so - 1), none⟩ v') := by
  obtain ⟨s0, _, hne⟩ := h.nes hv
  have hgl := h.row.lt g rfl
  obtain ⟨cg, hcg⟩ := row_tag h.row (k := g) rfl
  have hgv : v.ownBlock ≠ some g := fun e => (hne g e).2.2.1 rfl
  have hgv' : v'.ownBlock ≠ some g := fun e => by
    rcases hg' g e with h1 | h1
    · exact hgv h1
    · omega
  have hk := h.row.kept hgr (.inr (fun e => hgv e.symm))
  obtain ⟨hst, hgs⟩ := hk.stored (i * so + (so - 1)) v'
  obtain ⟨c1, hc1⟩ := row_tag hk (k := g) rfl
  have e1 := flat_set es vs i e ⟨e.hd, n', xs'⟩ v' h.hl h.len hi rfl
  have hlt : i < es.length := (List.getElem?_eq_some_iff.1 hi).1
  have hhl := h.hl e (List.mem_of_getElem? hi)
  refine ⟨⟨?_, by simpa using h.len, ?_, ?_, ?_, h.ne⟩, ?_⟩
  · rw [List.length_set, e1]
    exact hst
  · intro x hx
    rcases mem_set hx with rfl | hx
    · exact hhl
    · exact h.hl x hx
  · intro j s' u hj hu
    by_cases hji : i = j
    · subst hji
      rw [List.getElem?_set_self (by rw [h.len]; exact hlt)] at hu
      cases hu
      simp [List.getElem?_set_self hlt] at hj
      subst hj
      exact ownsRow_setCell_other hown hgv' _
    · rw [List.getElem?_set_ne hji] at hj hu
      have hko : w1.ownsRow B ei si u s'.n s'.xs := by
        refine (h.own j s' u hj hu).kept hgr ?_
        cases hq : u.ownBlock with
        | none => exact .inl rfl
        | some q => exact .inr fun e => hji (h.apart i j v u q hv hu e.symm hq)
      obtain ⟨_, _, hnj⟩ := h.nes hu
      exact ownsRow_setCell_other hko (fun e => (hnj g e).2.2.1 rfl) _
  · have key : ∀ (j : Nat) b q, j ≠ i → vs[j]? = some b → v'.ownBlock = some q → b.ownBlock = some q → False := by
      intro j b q hj hb h1 h2
      rcases hg' q h1 with h3 | h4
      · exact hj (h.apart j i b v q hb hv h2 h3)
      · obtain ⟨_, _, hnj⟩ := h.nes hb
        have := (hnj q h2).2.1
        omega
    intro a b x y q ha hb hx hy
    by_cases hai : i = a
    · subst hai
      by_cases hbi : i = b
      · exact hbi
      · rw [List.getElem?_set_self (by rw [h.len]; exact hlt)] at ha
        cases ha
        rw [List.getElem?_set_ne hbi] at hb
        exact (key b y q (fun e => hbi e.symm) hb hx hy).elim
    · rw [List.getElem?_set_ne hai] at ha
      by_cases hbi : i = b
      · subst hbi
        rw [List.getElem?_set_self (by rw [h.len]; exact hlt)] at hb
        cases hb
        exact (key a x q (fun e => hai e.symm) ha hy hx).elim
      · rw [List.getElem?_set_ne hbi] at hb
        exact h.apart a b x y q ha hb hx hy
  · exact FrT.setCell (FrT.grown hgr hB fun k hk => ⟨(hne k hk).1, (hne k hk).2.2.2.choose, ei, (hne k hk).2.2.2.choose_spec, by simp⟩) hc1 (by simp) hgl.1 _
/-- A new part, with no row yet. -/
theorem Tb.push {w1 : World} {tv' : Value} (h : Tb B eo so ei si w tv es vs) (hB : B ≤ w.heap.size) (hd : List Value) (hh : hd.length + 1 = so) (hgr : w.grownBy w1 tv.ownBlock)
    (hown : w1.ownsRow B eo so tv' (es.length + 1) (flat es vs ++ (hd ++ [.slice none 0 0]))) :
    Tb B eo so ei si w1 tv' (es ++ [⟨hd, 0, []⟩]) (vs ++ [.slice none 0 0]) ∧ FrT [eo] B w w1 := by
  refine ⟨⟨?_, by simp [h.len], ?_, ?_, ?_, h.ne⟩, FrT.grown hgr hB fun k hk => ?_⟩
  · rw [flat_app _ _ _ _ h.len, List.length_append]
    exact hown
  · intro x hx
    rcases List.mem_append.1 hx with hx | hx
    · exact h.hl x hx
    · simp at hx
      subst hx
      exact hh
  · intro j s' u hj hu
    by_cases hjl : j < es.length
    · rw [List.getElem?_append_left hjl] at hj
      rw [List.getElem?_append_left (by rw [h.len]; exact hjl)] at hu
      obtain ⟨_, _, hnj⟩ := h.nes hu
      refine (h.own j s' u hj hu).kept hgr ?_
      cases hq : u.ownBlock with
      | none => exact .inl rfl
      | some q => exact .inr fun e => (hnj q hq).2.2.1 e.symm
    · have hj' := (List.getElem?_eq_some_iff.1 hj).1
      simp at hj'
      have : j = es.length := by omega
      subst this
      rw [List.getElem?_append_right (by omega)] at hj
      rw [List.getElem?_append_right (by rw [h.len]; omega)] at hu
      simp [h.len] at hj hu
      subst hj hu
      exact World.ownsRow_nil _ _ _ _
  · intro i j a b q ha hb hqa hqb
    have key : ∀ (i : Nat) (a : Value), (vs ++ [.slice none 0 0])[i]? = some a → a.ownBlock = some q → vs[i]? = some a := by
      intro i a ha hq
      by_cases hil : i < vs.length
      · rw [List.getElem?_append_left hil] at ha; exact ha
      · rw [List.getElem?_append_right (by omega)] at ha
        have hi2 : i - vs.length = 0 := by
          have := (List.getElem?_eq_some_iff.1 ha).1
          simp at this; omega
        rw [hi2] at ha
        simp at ha
        subst ha
        simp [Value.ownBlock] at hq
    exact h.apart i j a b q (key i a ha hqa) (key j b hb hqb) hqa hqb
  · obtain ⟨c, hc⟩ := row_tag h.row hk
    exact ⟨(h.row.lt k hk).1, c, eo, hc, by simp⟩
end
end Go.Proofs.YtomogijjkdiomaaDoor
