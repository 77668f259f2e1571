/-
  Small laws for the walk of the reference's Tokens.
-/
import Derived.Test.YtlpbpcdjifadiaaDoorTokWalk
import Derived.Test.YtlpbpcdjifadiaaDoorCovL
namespace Go.Proofs.YtlpbpcdjifadiaaDoor
open Go.RowKit

abbrev F25 : Obj := .cells #[.int .i64 0, .int .i64 0] 25
theorem info36 : (Tryd.prog.info? 36).map (fun i => (i.zero, i.size, i.bytes)) = some (some noTok, 4, 40) := by kernel_rfl

theorem own_below {E : TypeId} {wr w3 : World} {B : Nat} {v : Value} {n : Nat} {xs : List Value} (hb : Below wr.heap.size wr w3) (h : wr.ownsRow B E 4 v n xs) : w3.ownsRow B E 4 v n xs := by
  obtain ⟨hl, h0 | ⟨g, cap, cur, hv, hge, hh, hr⟩⟩ := h
  · exact ⟨hl, Or.inl h0⟩
  · exact ⟨hl, Or.inr ⟨g, cap, cur, hv, hge, by rw [hb.block g (Array.getElem?_eq_some_iff.1 hh).1]; exact hh, hr⟩⟩

theorem own_base {E : TypeId} {w : World} {B B' : Nat} {v : Value} {n : Nat} {xs : List Value} (hb : B' ≤ B) (h : w.ownsRow B E 4 v n xs) : w.ownsRow B' E 4 v n xs := by
  obtain ⟨hl, h0 | ⟨g, cap, cur, hv, hge, hr⟩⟩ := h
  · exact ⟨hl, Or.inl h0⟩
  · exact ⟨hl, Or.inr ⟨g, cap, cur, hv, by omega, hr⟩⟩

theorem own_grown {E : TypeId} {B : Nat} {W0 wx w1 : World} {v : Value} {n : Nat} {xs : List Value} (hB : Below B W0 wx) (hsz : B ≤ wx.heap.size) (hown : wx.ownsRow B E 4 v n xs) (hg : wx.grownBy w1 v.ownBlock) :
    Below B W0 w1 := hB.grown hg hsz (fun k hk => by
    obtain ⟨_, ⟨rfl, _⟩ | ⟨g, cap, cur, rfl, hge, _⟩⟩ := hown
    · simp [Value.ownBlock] at hk
    · simp [Value.ownBlock] at hk; omega)

/-- What the round needs of a world. -/
structure RInv (w : World) (acc : List Tk) (v : Value) (wr : World) : Prop where
  own : wr.ownsRow (w.heap.size + 1) 36 4 v acc.length (tksCells acc)
  bel : Below (w.heap.size + 1) (w.alloc F25) wr

theorem RInv.size {w : World} {acc : List Tk} {v : Value} {wr : World} (h : RInv w acc v wr) : w.heap.size + 1 ≤ wr.heap.size := by
  have := h.bel.size; simp at this; exact this

/-- Behind an append of one token, laid in a block of its own. -/
theorem RInv.app {w : World} {acc : List Tk} {v v' : Value} {wr w1 : World} {t : Tk} (h : RInv w acc v wr) (o : Obj) (hown' : w1.ownsRow (w.heap.size + 1) 36 4 v' (acc.length + 1) (tksCells acc ++ tkCells t))
    (hg : (wr.alloc o).grownBy w1 v.ownBlock) : RInv w (acc ++ [t]) v' w1 := by
  have hz := h.size
  exact ⟨by rw [tksCells_snoc, List.length_append]; exact hown', own_grown (h.bel.alloc hz o) (by simp; omega) (h.own.alloc o) hg⟩

/-- What the reference's Tokens hands back. -/
def UPost (r : TR) (w : World) (e : Ending) (w' : World) : Prop :=
  match r with
  | .ok l => ∃ v, e = .returned (.tuple #[v, .agg #[.int .i64 0, .int .i64 (-1)]]) ∧ w'.ownsRow w.heap.size 36 4 v l.length (tksCells l) ∧ Below w.heap.size w w'
  | .bad er p => e = .returned (.tuple #[.slice none 0 0, .agg #[.int .i64 er, .int .i64 (p : Int)]]) ∧ Below w.heap.size w w'

/-- The way out with a fault: the result's cell is written. -/
theorem RInv.out {w : World} {acc : List Tk} {v : Value} {wr : World} (h : RInv w acc v wr) (v0 v1 : Value) :
    Below w.heap.size w ((wr.setCell ⟨w.heap.size, 0, none⟩ v0).setCell ⟨w.heap.size, 1, none⟩ v1) := by
  have b0 : Below w.heap.size w (w.alloc F25) := (Below.refl _ _).alloc (Nat.le_refl _) _
  exact ((b0.trans (h.bel.mono (by omega))).setCell (Nat.le_refl _) _).setCell (Nat.le_refl _) _

theorem RInv.cells {w : World} {acc : List Tk} {v : Value} {wr : World} (h : RInv w acc v wr) :
    wr.cell? ⟨w.heap.size, 0, none⟩ = some (.int .i64 0) ∧ wr.cell? ⟨w.heap.size, 1, none⟩ = some (.int .i64 0) ∧ wr.frozen? ⟨w.heap.size, 0, none⟩ = false ∧ wr.frozen? ⟨w.heap.size, 1, none⟩ = false := by
  have c := fun o => h.bel.cell (p := ⟨w.heap.size, o, none⟩) (by simp)
  have f := fun o => h.bel.frozen (p := ⟨w.heap.size, o, none⟩) (by simp)
  refine ⟨?_, ?_, ?_, ?_⟩
  · rw [c]; simp
  · rw [c]; simp
  · rw [f]; simp
  · rw [f]; simp

theorem RInv.later {w : World} {acc : List Tk} {v : Value} {wr w3 : World} (h : RInv w acc v wr) (hb : Below wr.heap.size wr w3) : RInv w acc v w3 :=
  ⟨own_below hb h.own, h.bel.trans (hb.mono h.size)⟩

end Go.Proofs.YtlpbpcdjifadiaaDoor
