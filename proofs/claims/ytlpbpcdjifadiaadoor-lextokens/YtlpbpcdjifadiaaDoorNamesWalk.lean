/-
  The walk of LexNames: over whatever text it returns true, and nothing that was there has turned.
-/
import Derived.Test.YtlpbpcdjifadiaaDoorRef
namespace Go.Proofs.YtlpbpcdjifadiaaDoor
open Go.RowKit

theorem lt_of_cell {w : World} {a : Addr} {v : Value} (h : w.cell? a = some v) : a.block < w.heap.size := by
  unfold World.cell? at h
  by_cases hb : a.block < w.heap.size
  · exact hb
  · rw [Array.getElem?_eq_none (by omega)] at h; simp at h

set_option maxRecDepth 100000 in
set_option maxHeartbeats 1000000 in
theorem lexNames_any (a : Addr) (cap : Nat) (ws : List ByteArray) (s : ByteArray) (w : World) (hs : s.size ≤ maxLen) (hn : ws.length = 19)
    (hg2 : w.cell? ⟨2, 0, none⟩ = some (.slice (some a) 19 cap))
    (hc : ∀ i, i < ws.length → w.cell? (a.add i) = some (.string (ws.getD i ByteArray.empty)))
    (t : TypeId) (fr : Nat × Nat) (hg : w.heap[1]? = some (.cells (ws.map Value.string).toArray t fr)) :
    Calls Tryd.prog 4 #[.string s] w fun e w' => e = .returned (.bool true) ∧ Below w.heap.size w w' := by
  have later : ∀ W, Below w.heap.size w W → W.heap[1]? = some (.cells (ws.map Value.string).toArray t fr) ∧ W.cell? ⟨2, 0, none⟩ = some (.slice (some a) 19 cap) ∧ ∀ i, i < ws.length → W.cell? (a.add i) = some (.string (ws.getD i ByteArray.empty)) := fun W hW =>
    ⟨by rw [hW.block 1 (Array.getElem?_eq_some_iff.1 hg).1]; exact hg, by rw [hW.cell (lt_of_cell hg2)]; exact hg2, fun i hi => by rw [hW.cell (lt_of_cell (hc i hi))]; exact hc i hi⟩
  have L := hide later
  have HS := hide hs
  have HN := hide hn
  have HG := hide hg
  clear later hg2 hc hg hn
  unfold maxLen at hs
  by_cases h60 : 60 < s.size
  · go_enter Tryd.func4, Tryd.ntmps4
    go_wp2_with fail
    go_ret
    exact ⟨rfl, Below.refl _ _⟩
  · go_enter Tryd.func4, Tryd.ntmps4
    go_wp2_with fail
    refine (isName_any ws s w (unhide HS) (unhide HN) t fr (unhide HG)).mono ?_
    rintro e w1 ⟨rfl, hb⟩
    have HB := hide hb
    clear hb
    go_wp2_with fail
    refine (refIsName_any a cap ws s w1 (unhide HS) (unhide HN) (unhide L w1 (unhide HB)).2.1 (unhide L w1 (unhide HB)).2.2).mono ?_
    rintro e w2 ⟨rfl, rfl⟩
    go_wp2_with fail
    refine (isWord_any ws s _ (unhide HN) t fr (unhide L _ (unhide HB)).1).mono ?_
    rintro e w2 ⟨rfl, rfl⟩
    go_wp2_with fail
    refine (refIsWord_any a cap ws s _ (unhide HN) (unhide L _ (unhide HB)).2.1 (unhide L _ (unhide HB)).2.2).mono ?_
    rintro e w2 ⟨rfl, rfl⟩
    go_wp2_with fail
    go_ret
    exact ⟨by simp, unhide HB⟩

end Go.Proofs.YtlpbpcdjifadiaaDoor
