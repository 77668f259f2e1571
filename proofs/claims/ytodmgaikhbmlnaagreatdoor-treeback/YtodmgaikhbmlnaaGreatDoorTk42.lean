/-
  TreeBack, the call: for every text the call returns true and the text reads as before: what a program's text tells is that program again, node by node, and so written again (or it is too great to be read). Conditions: the row's own (the package variables as the program's text lays them, which the card ties).
-/
import Derived.Test.YtodmgaikhbmlnaaGreatDoorCards
import Derived.Test.YtodmgaikhbmlnaaGreatDoorTie
import Derived.Test.YtodmgaikhbmlnaaGreatDoorTk23
import Derived.Test.YtodmgaikhbmlnaaGreatDoorTk41
import Derived.LaidHandle
import Derived.LaidMore
import Derived.Lib.LaidTab
namespace Go.Proofs.YtodmgaikhbmlnaaGreatDoor
open Go.ChangeShapes Go.WideShapes Go.ChangeAt Go.WideMaps Go.WideElems Go.RowKit
open Go.ChangeMaps (open_string shut_string)

namespace TbRow
abbrev laid2 := Rows.treeBackRow.laid

theorem gErr : Tryz.prog.globalNamed "errors.errorType" = some 1 := by kernel_rfl
theorem rtRow : (Tryz.prog.cutTypes.find? (·.1 == "internal/reflectlite.rtype")).map (·.2) = some 187 := by kernel_rfl
theorem oneRow : ((List.range 295).filter fun t => Tryz.prog.rowNamed t [101, 114, 114, 111, 114]) = [29] := by kernel_rfl
theorem tySize : Tryz.prog.types.size = 295 := by kernel_rfl
theorem signs_size : ∀ i, i < 19 → (signsS.getD i ByteArray.empty).size ≤ 3 := by decide +kernel
theorem signs_pos : ∀ g ∈ signsS, 1 ≤ g.size := by
  intro g hg
  have : signsS.all (fun g => decide (1 ≤ g.size)) = true := by decide +kernel
  simpa using List.all_eq_true.1 this g hg
theorem signs_lf : ∀ g ∈ signsS, (10 : UInt8) ∉ g.data.toList := by
  intro g hg
  have : signsS.all (fun g => decide ((10 : UInt8) ∉ g.data.toList)) = true := by decide +kernel
  simpa using List.all_eq_true.1 this g hg

/-- The list without the one handle. -/
def laidT : List (String × DataW Unit) := [("math/bits.deBruijn32tab", Rows.laid_math_bits_deBruijn32tab), ("math/bits.deBruijn64tab", Rows.laid_math_bits_deBruijn64tab), ("internal/strconv.uint64pow10", Rows.laid_internal_strconv_uint64pow10), ("strconv.ErrRange", Rows.laid_strconv_ErrRange), ("strconv.ErrSyntax", Rows.laid_strconv_ErrSyntax), ("sloppyscope/lex.words", Rows.laid_sloppyscope_lex_words), ("sloppyscope/lex.signs", Rows.laid_sloppyscope_lex_signs), ("sloppyscope/tree.signs", Rows.laid_sloppyscope_tree_signs), ("sloppyscope/tree.heads", Rows.laid_sloppyscope_tree_heads)]

theorem handle_of {W : World} (h : handlesMet Tryz.prog [("errors.errorType", Rows.laid_errors_errorType)] W) : errType W := by
  obtain ⟨name, u, ty, e1, e2, e3, e4, e5⟩ := h _ (List.mem_singleton.2 rfl)
  have en : name = [101, 114, 114, 111, 114] := (Option.some.inj e1).symm
  subst en
  obtain rfl := Option.some.inj (rtRow.symm.trans e2)
  have hm : ty ∈ (List.range 295).filter fun t => Tryz.prog.rowNamed t [101, 114, 114, 111, 114] := List.mem_filter.2 ⟨List.mem_range.2 (by rw [← tySize]; exact e3), e4⟩
  rw [oneRow] at hm
  obtain rfl := List.mem_singleton.1 hm
  have hh : typeHandle Tryz.prog 29 = .pointer (some ⟨13, 29, none⟩) := by kernel_rfl
  rw [hh] at e5
  simpa using World.var?_cell gErr e5 0

theorem tPow : (Tryz.prog.globals[9]?).map (·.type) = some 255 := by kernel_rfl
theorem cells233 : Tryz.prog.cellsOf 210 = 1 := by kernel_rfl
theorem cells255 : Tryz.prog.cellsOf 255 = 20 := by kernel_rfl
theorem laidPow : (Rows.laid_internal_strconv_uint64pow10 : DataW Unit) = Lib.tabData .u64 Lib.pow10Tab := rfl
theorem of_laid {W : World} (h : laidMetH Tryz.prog laid2 W) : Lists wordsS signsS W ∧ Tabs W ∧ errType W ∧ TabW W := by
  have h' : laidMet Tryz.prog laidT W ∧ handlesMet Tryz.prog [("errors.errorType", Rows.laid_errors_errorType)] W := h
  obtain ⟨⟨ps, ⟨_, _, _, _, _, _, _, _, _, _, ⟨_, _, _, _, _, _, _, _, _, _, ⟨g9, t9, cs9, f9, p9, q9, hg9, ht9, hv9, hd9, ⟨_, _, _, _, _, _, _, _, _, _, ⟨_, _, _, _, _, _, _, _, _, _, ⟨g0, t0, cs0, f0, p0, q0, hg0, ht0, hv0, hd0, ⟨g1, t1, cs1, f1, p1, q1, hg1, ht1, hv1, hd1, ⟨g2, t2, cs2, f2, p2, q2, hg2, ht2, hv2, hd2, ⟨g3, t3, cs3, f3, p3, q3, hg3, ht3, hv3, hd3, _, _⟩, _⟩, _⟩, _⟩, _⟩, _⟩, _⟩, _⟩, _⟩, _, _⟩, hh9⟩ := h'
  have hP : TabW W := by
    obtain rfl := Option.some.inj (gPow.symm.trans hg9)
    obtain rfl := Option.some.inj (tPow.symm.trans ht9)
    rw [laidPow] at hd9
    unfold TabW Lib.TabIs
    rw [hv9, ← Lib.cells_of_tab Tryz.underlying255 Tryz.underlying210 cells233 cells255 hd9]
  obtain rfl := Option.some.inj (gWords.symm.trans hg0)
  obtain rfl := Option.some.inj (gSigns.symm.trans hg1)
  obtain rfl := Option.some.inj (gTSigns.symm.trans hg2)
  obtain rfl := Option.some.inj (gTHeads.symm.trans hg3)
  obtain rfl := Option.some.inj (tWords.symm.trans ht0)
  obtain rfl := Option.some.inj (tSigns.symm.trans ht1)
  obtain rfl := Option.some.inj (tTSigns.symm.trans ht2)
  obtain rfl := Option.some.inj (tTHeads.symm.trans ht3)
  have e0 := array_of_trod wordsL rfl hd0
  have e1 := array_of_trod signsL rfl hd1
  have e2 := tsigns_of hd2
  have e3 := theads_of hd3
  obtain ⟨u0, fr0, hh0⟩ := heap_of_var gWords hv0
  obtain ⟨u1, fr1, hh1⟩ := heap_of_var gSigns hv1
  obtain ⟨u2, fr2, hh2⟩ := heap_of_var gTSigns hv2
  obtain ⟨u3, fr3, hh3⟩ := heap_of_var gTHeads hv3
  refine ⟨⟨wordsS_len, signsS_len, signs_size, ⟨u0, fr0, ?_⟩, ⟨u1, fr1, ?_⟩⟩, ⟨⟨u3, fr3, ?_⟩, ⟨u2, fr2, ?_⟩⟩, handle_of hh9, hP⟩
  · rw [hh0]
    have : cs0 = (wordsS.map Value.string).toArray := by
      obtain ⟨l⟩ := cs0
      exact congrArg List.toArray e0
    rw [this]
  · rw [hh1]
    have : cs1 = (signsS.map Value.string).toArray := by
      obtain ⟨l⟩ := cs1
      exact congrArg List.toArray e1
    rw [this]
  · rw [hh3]
    have : cs3 = hdCells := by
      obtain ⟨l⟩ := cs3
      exact congrArg List.toArray e3
    rw [this]
  · rw [hh2]
    have : cs2 = sgCells := by
      obtain ⟨l⟩ := cs2
      exact congrArg List.toArray e2
    rw [this]

theorem the_law (a : ByteArray) (W : World) (h : Lists wordsS signsS W ∧ Tabs W ∧ errType W ∧ TabW W) : Calls Tryz.prog 5 #[.string a] W fun e w' => e = .returned (.bool true) ∧ Below W.heap.size W w' :=
  back_any a W h.1 signs_pos h.2.1 h.2.2.2 h.2.2.1

theorem door_met (os : Os) (args : Array Value) : laidMetH Tryz.prog laid2 ((World.doorLaid Tryz.prog 121 os).forCall (fun _ _ => 0) ⟨#[], args, []⟩).memory :=
  laidMetH_of_parts3 (fuel := 8) (laidMet_of_run' 8 (by kernel_rfl) (by kernel_rfl)) (by kernel_rfl) (by kernel_rfl)

set_option maxRecDepth 100000 in
theorem lifted (os : Os) (started : os.Started) (H : Type) (enc : TypeId × Value → H) :
    ReturnsInHanded {} Tryz.checked os 5 .any (fun w args => (Rows.treeBackSpec.pre enc Tryz.prog Tryz.f5 [] false w args ∧ laidMetH Tryz.prog laid2 w) ∧ sizedMet enc Tryz.prog Tryz.f5 (OpenSpec.ofChange Rows.treeBackSpec) false w args)
      (Rows.treeBackSpec.post enc Tryz.prog Tryz.f5 false true false false) := by
  refine returnsInHanded_of_change_and (C := Tryz.checked) (X := fun w _ => laidMetH Tryz.prog laid2 w) (fun _ _ _ hh h => h.of_heap hh) ownK started (by kernel_rfl) Tryz.func5
    (ChangeSpec.witness_shaped (enc := enc) (C := Tryz.checked) (os := os) (X := fun w _ => laidMetH Tryz.prog laid2 w) false (World.doorLaid Tryz.prog 121 os) #[.string ByteArray.empty] 8 rfl (World.shaped_of_RefB (by kernel_rfl) (by kernel_rfl)) (by kernel_rfl) (by kernel_rfl) (by kernel_rfl) (door_met os _)) ?_
  intro W base args ds gs before hval0 hW _ _ hL _
  have hval : ∀ (j : Nat) t v, Tryz.f5.params[j]? = some t → args[j]? = some v → Value.okWide Tryz.prog W .any base t v := hval0
  have hW' := hW
  obtain ⟨p, q, hA0, hV, rfl, hfz, hnd⟩ := hW
  have hA : DataW.TrodAll enc Tryz.prog W 0 (fun _ => true) true Tryz.f5.params.toList args.toList ds p := hA0
  rw [Tryz.params5] at hA hval
  obtain ⟨v0, d0, rfl, rfl, h0⟩ := trodAll_one hA
  obtain ⟨rfl, rfl⟩ := trodVars_none hV
  obtain ⟨s, rfl, rfl, rfl, hs⟩ := open_string Tryz.underlying9 (hval 0 9 v0 rfl rfl) h0
  have hLs := of_laid hL
  clear hA0 hval0
  simp only [List.append_nil] at hW'
  refine (the_law s W hLs).mono fun e W' ⟨he, bel⟩ => ?_
  subst he
  exact ⟨_, rfl, _, _, _, [], [], [], hW', trodAll_mk1 (shut_bool Tryz.underlying4 _), trodAll_mk1 (shut_string Tryz.underlying9 hs), rfl, bel.frame _, fun h => by cases h⟩
end TbRow
end Go.Proofs.YtodmgaikhbmlnaaGreatDoor
