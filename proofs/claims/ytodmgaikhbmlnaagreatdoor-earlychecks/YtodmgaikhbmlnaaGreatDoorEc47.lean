/-
  EarlyChecks, the call: for every text, and either answer to 'strict' and 'inside', the call returns true and the arguments read as before: what is wrong first with a program, ahead of running, is what the document's own answer says. Conditions: the row's own (the package variables as the program's text lays them, which the card ties).
-/
import Derived.Test.YtodmgaikhbmlnaaGreatDoorCards
import Derived.Test.YtodmgaikhbmlnaaGreatDoorTie
import Derived.Test.YtodmgaikhbmlnaaGreatDoorEc46
import Derived.LaidHandle
namespace Go.Proofs.YtodmgaikhbmlnaaGreatDoor
open Go.ChangeShapes Go.WideShapes Go.ChangeAt Go.WideMaps Go.WideElems Go.RowKit
open Go.ChangeMaps (open_string shut_string)
namespace EcRow
abbrev laid2 := Rows.earlyChecksRow.laid
theorem gErr : Tryz.prog.globalNamed "errors.errorType" = some 1 := by kernel_rfl
theorem rtRow : (Tryz.prog.cutTypes.find? (·.1 == "internal/reflectlite.rtype")).map (·.2) = some 187 := by kernel_rfl
theorem oneRow : ((List.range 295).filter fun t => Tryz.prog.rowNamed t [101, 114, 114, 111, 114]) = [29] := by kernel_rfl
theorem tySize : Tryz.prog.types.size = 295 := by kernel_rfl
theorem gFine : Tryz.prog.globalNamed "sloppyscope/sloppyref.Fine" = some 0 := by kernel_rfl
theorem tFine : (Tryz.prog.globals[0]?).map (·.type) = some 25 := by kernel_rfl
theorem signs_size : ∀ i, i < 19 → (signsS.getD i ByteArray.empty).size ≤ 3 := by decide +kernel
theorem cells23 : Tryz.prog.cellsOf 23 = 1 := by kernel_rfl
theorem cells25 : Tryz.prog.cellsOf 25 = 2 := by kernel_rfl
theorem fine_of {W : World} {fuel : Nat} {cs : Array Value} {p : List MemPlace} (hv : W.var? Tryz.prog "sloppyscope/sloppyref.Fine" = some cs)
  (h : DataW.trod (fun _ => ()) Tryz.prog W 0 (fun _ => true) false fuel 25 cs.toList = some (.agg [.lit (.int .i64 0), .lit (.int .i64 (-1))], p)) :
  W.cell? ⟨0, 0, none⟩ = some (.int .i64 0) ∧ W.cell? ⟨0, 1, none⟩ = some (.int .i64 (-1)) := by
 have h0 := World.var?_cell gFine hv 0
 have h1 := World.var?_cell gFine hv 1
 obtain ⟨y0, y1, n, hx, hl, hy0, hy1⟩ := trod_struct2 Tryz.underlying25 h
 simp only [Prod.mk.injEq, DataW.agg.injEq, List.cons.injEq, and_true] at hx
 obtain ⟨⟨hx0, hx1⟩, _⟩ := hx
 rw [cells25] at hl
 obtain ⟨k0, e0, f0, _⟩ := DataW.trod_int Tryz.underlying23 hy0
 obtain ⟨k1, e1, f1, _⟩ := DataW.trod_int Tryz.underlying3 hy1
 rw [f0] at hx0
 rw [f1] at hx1
 have e0' : List.take (Tryz.prog.cellsOf 23) (List.drop 0 cs.toList) = [.int .i64 k0] := e0
 have e1' : List.take (Tryz.prog.cellsOf 3) (List.drop 1 cs.toList) = [.int .i64 k1] := e1
 rw [cells23] at e0'
 rw [cells3] at e1'
 clear e0 e1 hy0 hy1 h
 obtain ⟨l⟩ := cs
 match l, hl, e0', e1' with
 | [c0, c1], _, e0, e1 =>
  simp at e0 e1 hx0 hx1; subst e0 e1; rw [h0, h1, ← hx0, ← hx1]; exact ⟨rfl, rfl⟩
theorem words_no : ∀ x ∈ wordsS, sgP 2 x = none := by decide +kernel
def laidT : List (String × DataW Unit) := [("math/bits.deBruijn32tab", Rows.laid_math_bits_deBruijn32tab), ("math/bits.deBruijn64tab", Rows.laid_math_bits_deBruijn64tab), ("internal/strconv.uint64pow10", Rows.laid_internal_strconv_uint64pow10), ("strconv.ErrRange", Rows.laid_strconv_ErrRange), ("strconv.ErrSyntax", Rows.laid_strconv_ErrSyntax), ("sloppyscope/lex.words", Rows.laid_sloppyscope_lex_words), ("sloppyscope/lex.signs", Rows.laid_sloppyscope_lex_signs), ("sloppyscope/sloppyref.Fine", Rows.laid_sloppyscope_sloppyref_Fine), ("sloppyscope/sloppyref.words", Rows.laid_sloppyscope_sloppyref_words), ("sloppyscope/tree.signs", Rows.laid_sloppyscope_tree_signs), ("sloppyscope/tree.heads", Rows.laid_sloppyscope_tree_heads)]
theorem handle_of {W : World} (h : handlesMet Tryz.prog [("errors.errorType", Rows.laid_errors_errorType)] W) : errType W := by
 obtain ⟨name, u, ty, e1, e2, e3, e4, e5⟩ := h _ (List.mem_singleton.2 rfl)
 have en : name = [101, 114, 114, 111, 114] := (Option.some.inj e1).symm
 subst en
 obtain rfl := Option.some.inj (rtRow.symm.trans e2)
 have hm : ty ∈ (List.range 295).filter fun t => Tryz.prog.rowNamed t [101, 114, 114, 111, 114] := List.mem_filter.2 ⟨List.mem_range.2 (by rw [← tySize]; exact e3), e4⟩
 rw [oneRow] at hm
 obtain rfl := List.mem_singleton.1 hm
 have hh : typeHandle Tryz.prog 29 = .pointer (some ⟨13, 29, none⟩) := by kernel_rfl
 rw [hh] at e5
 simpa using World.var?_cell gErr e5 0
structure Found (W : World) : Prop where
 ls : Lists wordsS signsS W
 ts : Tabs W
 rs : RefLists wordsS W
 er : errType W
theorem of_laid {W : World} (h : laidMetH Tryz.prog laid2 W) : Found W := by
 have h' : laidMet Tryz.prog laidT W ∧ handlesMet Tryz.prog [("errors.errorType", Rows.laid_errors_errorType)] W := h
 obtain ⟨⟨ps, ⟨_, _, _, _, _, _, _, _, _, _, ⟨_, _, _, _, _, _, _, _, _, _, ⟨_, _, _, _, _, _, _, _, _, _, ⟨_, _, _, _, _, _, _, _, _, _, ⟨_, _, _, _, _, _, _, _, _, _, ⟨g0, t0, cs0, f0, p0, q0, hg0, ht0, hv0, hd0, ⟨g1, t1, cs1, f1, p1, q1, hg1, ht1, hv1, hd1, ⟨g2, t2, cs2, f2, p2, q2, hg2, ht2, hv2, hd2, ⟨g3, t3, cs3, f3, p3, q3, hg3, ht3, hv3, hd3, ⟨g4, t4, cs4, f4, p4, q4, hg4, ht4, hv4, hd4, ⟨g5, t5, cs5, f5, p5, q5, hg5, ht5, hv5, hd5, _, _⟩, _⟩, _⟩, _⟩, _⟩, _⟩, _⟩, _⟩, _⟩, _⟩, _⟩, _⟩, hh9⟩ := h'
 obtain rfl := Option.some.inj (gWords.symm.trans hg0)
 obtain rfl := Option.some.inj (gSigns.symm.trans hg1)
 obtain rfl := Option.some.inj (gFine.symm.trans hg2)
 obtain rfl := Option.some.inj (gRefWords.symm.trans hg3)
 obtain rfl := Option.some.inj (gTSigns.symm.trans hg4)
 obtain rfl := Option.some.inj (gTHeads.symm.trans hg5)
 obtain rfl := Option.some.inj (tWords.symm.trans ht0)
 obtain rfl := Option.some.inj (tSigns.symm.trans ht1)
 obtain rfl := Option.some.inj (tFine.symm.trans ht2)
 obtain rfl := Option.some.inj (tRefWords.symm.trans ht3)
 obtain rfl := Option.some.inj (tTSigns.symm.trans ht4)
 obtain rfl := Option.some.inj (tTHeads.symm.trans ht5)
 have e0 := array_of_trod wordsL rfl hd0
 have e1 := array_of_trod signsL rfl hd1
 obtain ⟨a, cap, e3, hrow⟩ := slice_of_trod wordsL hd3
 have e4 := tsigns_of hd4
 have e5 := theads_of hd5
 obtain ⟨u0, fr0, hh0⟩ := heap_of_var gWords hv0
 obtain ⟨u1, fr1, hh1⟩ := heap_of_var gSigns hv1
 obtain ⟨u4, fr4, hh4⟩ := heap_of_var gTSigns hv4
 obtain ⟨u5, fr5, hh5⟩ := heap_of_var gTHeads hv5
 have hf := fine_of hv2 hd2
 refine ⟨⟨wordsS_len, signsS_len, signs_size, ⟨u0, fr0, ?_⟩, ⟨u1, fr1, ?_⟩⟩, ⟨⟨u5, fr5, ?_⟩, ⟨u4, fr4, ?_⟩⟩, ⟨wordsS_len, ⟨a, cap, ?_, hrow⟩, hf.1, hf.2⟩, handle_of hh9⟩
 ·
  rw [hh0]; have : cs0 = (wordsS.map Value.string).toArray := by
   obtain ⟨l⟩ := cs0; exact congrArg List.toArray e0
  rw [this]
 ·
  rw [hh1]; have : cs1 = (signsS.map Value.string).toArray := by
   obtain ⟨l⟩ := cs1; exact congrArg List.toArray e1
  rw [this]
 ·
  rw [hh5]; have : cs5 = hdCells := by
   obtain ⟨l⟩ := cs5; exact congrArg List.toArray e5
  rw [this]
 ·
  rw [hh4]; have : cs4 = sgCells := by
   obtain ⟨l⟩ := cs4; exact congrArg List.toArray e4
  rw [this]
 ·
  have := World.var?_cell hg3 hv3 0; rw [Array.eq_one_of_toList e3] at this; exact this
theorem the_law (a : ByteArray) (s i : Bool) (W : World) (h : Found W) : Calls Tryz.prog 10 #[.string a, .bool s, .bool i] W fun e w' => e = .returned (.bool true) ∧ Below W.heap.size W w' :=
 ech_any wordsS signsS a s i W h.ls h.ts h.rs h.er rfl words_no
theorem door_met (os : Os) (args : Array Value) : laidMetH Tryz.prog laid2 ((World.doorLaid Tryz.prog 121 os).forCall (fun _ _ => 0) ⟨#[], args, []⟩).memory :=
 laidMetH_of_parts3 (fuel := 8) (laidMet_of_run' 8 (by kernel_rfl) (by kernel_rfl)) (by kernel_rfl) (by kernel_rfl)
set_option maxRecDepth 100000 in
theorem lifted (os : Os) (started : os.Started) (H : Type) (enc : TypeId × Value → H) :
  ReturnsInHanded {} Tryz.checked os 10 .any (fun w args => (Rows.earlyChecksSpec.pre enc Tryz.prog Tryz.f10 [] false w args ∧ laidMetH Tryz.prog laid2 w) ∧ sizedMet enc Tryz.prog Tryz.f10 (OpenSpec.ofChange Rows.earlyChecksSpec) false w args)
   (Rows.earlyChecksSpec.post enc Tryz.prog Tryz.f10 false true false false) := by
 refine returnsInHanded_of_change_and (C := Tryz.checked) (X := fun w _ => laidMetH Tryz.prog laid2 w) (fun _ _ _ hh h => h.of_heap hh) ownK started (by kernel_rfl) Tryz.func10
  (ChangeSpec.witness_shaped (enc := enc) (C := Tryz.checked) (os := os) (X := fun w _ => laidMetH Tryz.prog laid2 w) false (World.doorLaid Tryz.prog 121 os) #[.string ByteArray.empty, .bool false, .bool false] 8 rfl (World.shaped_of_RefB (by kernel_rfl) (by kernel_rfl)) (by kernel_rfl) (by kernel_rfl) (by kernel_rfl) (door_met os _)) ?_
 intro W base args ds gs before hval0 hW _ _ hL _
 have hval : ∀ (j : Nat) t v, Tryz.f10.params[j]? = some t → args[j]? = some v → Value.okWide Tryz.prog W .any base t v := hval0
 have hW' := hW
 obtain ⟨p, q, hA0, hV, rfl, hfz, hnd⟩ := hW
 have hA : DataW.TrodAll enc Tryz.prog W 0 (fun _ => true) true Tryz.f10.params.toList args.toList ds p := hA0
 rw [Tryz.params10] at hA hval
 obtain ⟨v0, v1, v2, d0, d1, d2, p0, p1, p2, rfl, rfl, rfl, h0, h1, h2⟩ := trodAll_three hA
 obtain ⟨rfl, rfl⟩ := trodVars_none hV
 obtain ⟨s, rfl, rfl, rfl, hs⟩ := open_string Tryz.underlying9 (hval 0 9 v0 rfl rfl) h0
 obtain ⟨b1, rfl, rfl, rfl⟩ := open_bool Tryz.underlying4 (hval 1 4 v1 rfl rfl) h1
 obtain ⟨b2, rfl, rfl, rfl⟩ := open_bool Tryz.underlying4 (hval 2 4 v2 rfl rfl) h2
 have hLs := of_laid hL
 clear hA0 hval0
 simp only [List.append_nil] at hW'
 refine (the_law s b1 b2 W hLs).mono fun e W' ⟨he, bel⟩ => ?_
 subst he
 exact ⟨_, rfl, _, _, _, [], [], [], hW', trodAll_mk1 (shut_bool Tryz.underlying4 _), trodAll_mk3 (shut_string Tryz.underlying9 hs) (shut_bool Tryz.underlying4 b1) (shut_bool Tryz.underlying4 b2), rfl, bel.frame _, fun h => by cases h⟩
end EcRow
end Go.Proofs.YtodmgaikhbmlnaaGreatDoor
