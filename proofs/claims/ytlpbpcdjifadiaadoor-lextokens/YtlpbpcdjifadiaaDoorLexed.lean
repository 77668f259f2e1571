/-
  The walk of lexed: the tokens of 'a 1' are as they should be.
-/
import Derived.Test.YtlpbpcdjifadiaaDoorTokWalk
import Derived.Test.YtlpbpcdjifadiaaDoorCovL
namespace Go.Proofs.YtlpbpcdjifadiaaDoor
open Go.RowKit

theorem tks_len (l : List Tk) : (tksCells l).length = l.length * 4 := by
  induction l with
  | nil => rfl
  | cons t l ih => unfold tksCells at *; rw [List.flatMap_cons, List.length_append, ih, List.length_cons]; simp [tkCells]; omega

theorem tks_at (l : List Tk) : ∀ (i f : Nat) (t : Tk), l[i]? = some t → f < 4 → (tksCells l)[i * 4 + f]? = (tkCells t)[f]? := by
  induction l with
  | nil => intro i f t h _; simp at h
  | cons a l ih =>
    intro i f t h hf
    unfold tksCells
    rw [List.flatMap_cons]
    cases i with
    | zero =>
      simp at h
      subst h
      rw [List.getElem?_append_left (by simp [tkCells]; omega)]
      congr 1; omega
    | succ i =>
      rw [List.getElem?_cons_succ] at h
      rw [List.getElem?_append_right (by simp [tkCells]; omega)]
      have := ih i f t h hf
      unfold tksCells at this
      rw [← this]
      congr 1
      simp [tkCells]; omega

theorem row_cells {w : World} {B : Nat} {v : Value} {l : List Tk} (h : w.ownsRow B 35 4 v l.length (tksCells l)) (hp : 1 ≤ l.length) :
    ∃ g cap, v = .slice (some ⟨g, 0, none⟩) l.length cap ∧ B ≤ g ∧ g < w.heap.size ∧ ∀ (i : Nat) (t : Tk), l[i]? = some t →
      w.cell? ⟨g, i * 4, none⟩ = some (.int .i64 t.kd) ∧ w.cell? ⟨g, i * 4 + 1, none⟩ = some (.string t.tx) ∧ w.cell? ⟨g, i * 4 + 2, none⟩ = some (.int .i64 t.n) ∧ w.cell? ⟨g, i * 4 + 3, none⟩ = some (.int .i64 (t.pl : Int)) := by
  obtain ⟨hl, ⟨_, h0⟩ | ⟨g, cap, cur, rfl, hb, hh, hn, hm, hs, ht⟩⟩ := h
  · omega
  refine ⟨g, cap, rfl, hb, (Array.getElem?_eq_some_iff.1 hh).1, fun i t hi => ?_⟩
  have hlt : i < l.length := (List.getElem?_eq_some_iff.1 hi).1
  have key : ∀ f, f < 4 → cur[i * 4 + f]? = (tkCells t)[f]? := fun f hf => by
    rw [← tks_at l i f t hi hf, ← ht, List.getElem?_take_of_lt (by omega)]
    simp
  have k0 := key 0 (by omega)
  have k1 := key 1 (by omega)
  have k2 := key 2 (by omega)
  have k3 := key 3 (by omega)
  simp only [World.cell?, hh]
  exact ⟨by simpa [tkCells] using k0, by simpa [tkCells] using k1, by simpa [tkCells] using k2, by simpa [tkCells] using k3⟩

set_option maxRecDepth 100000 in
set_option maxHeartbeats 1000000 in
theorem lexed_any (w : World) (hL : Lists wordsS signsS w) : Calls Tryd.prog 13 #[] w fun e w' => e = .returned (.bool true) ∧ Below w.heap.size w w' := by
  go_enter Tryd.func13, Tryd.ntmps13
  go_wp2_with fail
  have ht := tokens_any wordsS signsS sA1 w (by decide) hL signs_ok.pos
  rw [toks_a1] at ht
  refine Calls.mono ht ?_
  clear ht
  rintro e w1 ⟨v, rfl, hown, hb⟩
  obtain ⟨g, cap, hv, _, _, hcell⟩ := row_cells hown (by simp)
  obtain ⟨c0, _, _, _⟩ := hcell 0 _ rfl
  obtain ⟨c4, _, c6, _⟩ := hcell 1 _ rfl
  obtain ⟨_, _, _, c11⟩ := hcell 2 _ rfl
  simp at c0 c4 c6 c11
  subst hv
  simp only [List.length_cons, List.length_nil] at hown ⊢
  have HB := hide hb
  clear hown hcell hb hL
  go_wp2_with fail
  go_ret
  exact ⟨rfl, unhide HB⟩

end Go.Proofs.YtlpbpcdjifadiaaDoor
