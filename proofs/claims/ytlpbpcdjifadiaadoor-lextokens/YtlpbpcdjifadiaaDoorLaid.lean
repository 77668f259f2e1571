/-
  What the row's list of package variables gives the walks: the two lists of words, cell by cell.
-/
import Derived.Test.YtlpbpcdjifadiaaDoorRows
import Derived.Test.YtlpbpcdjifadiaaDoorLeaf
import Derived.ProofKit
import Derived.LaidMore
import Derived.OpenShut
import Derived.Stop.Joined
namespace Go.Proofs.YtlpbpcdjifadiaaDoor
open Go.ChangeShapes Go.WideShapes Go.ChangeAt Go.WideMaps Go.WideElems Go.RowKit

theorem ownK : ownKnob Tryd.prog.godebug = none := by kernel_rfl
theorem gWords : Tryd.prog.globalNamed "sloppyscope/lex.words" = some 1 := by kernel_rfl
theorem gRefWords : Tryd.prog.globalNamed "sloppyscope/sloppyref.words" = some 2 := by kernel_rfl
theorem gSigns : Tryd.prog.globalNamed "sloppyscope/lex.signs" = some 3 := by kernel_rfl
theorem tWords : (Tryd.prog.globals[1]?).map (·.type) = some 53 := by kernel_rfl
theorem tRefWords : (Tryd.prog.globals[2]?).map (·.type) = some 43 := by kernel_rfl
theorem tSigns : (Tryd.prog.globals[3]?).map (·.type) = some 53 := by kernel_rfl
theorem cells9 : Tryd.prog.cellsOf 9 = 1 := by kernel_rfl
theorem cells53 : Tryd.prog.cellsOf 53 = 19 := by kernel_rfl

def ofBytes (l : List UInt8) : ByteArray := ⟨l.toArray⟩
def wordsL : List (List UInt8) := [[118, 97, 114], [108, 101, 116], [99, 111, 110, 115, 116], [102, 117, 110, 99, 116, 105, 111, 110], [105, 102], [101, 108, 115, 101], [119, 104, 105, 108, 101], [119, 105, 116, 104], [114, 101, 116, 117, 114, 110], [116, 104, 114, 111, 119], [116, 114, 121], [99, 97, 116, 99, 104], [102, 105, 110, 97, 108, 108, 121], [116, 121, 112, 101, 111, 102], [100, 101, 108, 101, 116, 101], [116, 114, 117, 101], [102, 97, 108, 115, 101], [110, 117, 108, 108], [117, 110, 100, 101, 102, 105, 110, 101, 100]]
def wordsS : List ByteArray := wordsL.map ofBytes
def signsL : List (List UInt8) := [[61, 61, 61], [38, 38], [124, 124], [40], [41], [123], [125], [91], [93], [59], [58], [44], [46], [61], [43], [45], [42], [60], [33]]
def signsS : List ByteArray := signsL.map ofBytes
theorem wordsS_len : wordsS.length = 19 := rfl
theorem signsS_len : signsS.length = 19 := rfl

theorem ofBytes_eq {s : ByteArray} {l : List UInt8} (h : s.data.toList = l) : s = ofBytes l := bytes_inj (by rw [h]; rfl)

/-- An array of 19 texts that reads as listed: its cells. -/
theorem array_of_trod {W : World} {fuel : Nat} {cs : List Value} {p : List MemPlace} (L : List (List UInt8)) (hL : L.length = 19)
    (h : DataW.trod (fun _ => ()) Tryd.prog W 0 (fun _ => true) false fuel 53 cs = some (.agg (L.map fun l => .lit (.string l)), p)) : cs = (L.map ofBytes).map Value.string := by
  obtain ⟨xs, m, rfl, hx, hlen, hn, hel⟩ := DataW.trod_array Tryd.underlying53 h
  simp only [Prod.mk.injEq, DataW.agg.injEq] at hx
  rw [cells53] at hlen
  refine List.ext_getElem (by simp [hL, hlen]) fun i h1 h2 => ?_
  have hi : i < 19 := by omega
  have he := hel i hi
  rw [cells9, Nat.mul_one, List.getElem?_eq_getElem (by omega)] at he
  obtain ⟨s, e1, e2, _⟩ := DataW.trod_string Tryd.underlying9 he
  have e3 : (xs.map (·.1))[i]'(by simp [hn]; omega) = .lit (.string (L[i]'(by omega))) := by
    have e4 : (xs.map (·.1))[i]? = (L.map fun l => (DataW.lit (.string l) : DataW Unit))[i]? := by rw [hx.1]
    rw [List.getElem?_eq_getElem (by simp [hn]; omega), List.getElem?_eq_getElem (by simp; omega)] at e4
    simpa using e4
  rw [List.getElem_map, e2] at e3
  have e5 : s.data.toList = L[i]'(by omega) := by simpa using e3
  have e6 : (cs.drop i)[0]? = some (.string s) := by
    have : ((cs.drop i).take 1)[0]? = some (.string s) := by rw [e1]; rfl
    simpa using this
  rw [List.getElem?_drop, Nat.add_zero, List.getElem?_eq_getElem h1] at e6
  rw [Option.some.inj e6]
  simp [ofBytes_eq e5]

theorem heap_of_var {W : World} {n : String} {g : Nat} {cs : Array Value} (hg : Tryd.prog.globalNamed n = some g) (h : W.var? Tryd.prog n = some cs) : ∃ t fr, W.heap[g]? = some (.cells cs t fr) := by
  simp only [World.var?, hg, Option.bind_some] at h
  split at h
  · rename_i cs' t fr hh
    cases h
    exact ⟨t, fr, hh⟩
  · cases h

/-- A slice of texts that reads as listed: its cell and its row. -/
theorem slice_of_trod {W : World} {fuel : Nat} {cs : List Value} {p : List MemPlace} (L : List (List UInt8))
    (h : DataW.trod (fun _ => ()) Tryd.prog W 0 (fun _ => true) false fuel 43 cs = some (.slice (L.map fun l => .lit (.string l)) [], p)) :
    ∃ a cap, cs = [.slice (some a) L.length cap] ∧ ∀ i, i < (L.map ofBytes).length → W.cell? (a.add i) = some (.string ((L.map ofBytes).getD i ByteArray.empty)) := by
  rcases open_strings Tryd.underlying43 Tryd.underlying9 cells9 h with ⟨_, hx⟩ | ⟨a, len, cap, ss, hcs, _, hl, _, hz, hx, hcell, _⟩
  · simp at hx
  simp only [if_true] at hz
  simp only [Prod.mk.injEq, DataW.slice.injEq] at hx
  obtain ⟨⟨hx1, hx2⟩, _⟩ := hx
  have hsl : ss.length = len := by
    have : (strs (H := Unit) (ss.drop len)).length = 0 := by rw [← hx2]; rfl
    simp [strs] at this; omega
  rw [List.take_of_length_le (by omega)] at hx1
  have hss : ss = L.map ofBytes := by
    refine List.ext_getElem (by have := congrArg List.length hx1; simpa [strs] using this.symm) fun i h1 h2 => ?_
    have e4 : (L.map fun l => (DataW.lit (.string l) : DataW Unit))[i]? = (strs ss)[i]? := by rw [hx1]
    simp only [List.length_map] at h2
    simp [strs, h1, h2] at e4
    rw [List.getElem_map]
    exact ofBytes_eq e4.symm
  refine ⟨a, cap, ?_, ?_⟩
  · rw [hcs]
    have : L.length = len := by have := congrArg List.length hss; simp at this; omega
    rw [this]
  · intro i hi
    rw [← hss]
    exact hcell i (by rw [hss]; exact hi)

end Go.Proofs.YtlpbpcdjifadiaaDoor
