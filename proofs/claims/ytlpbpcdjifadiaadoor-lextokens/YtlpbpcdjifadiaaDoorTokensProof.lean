/-
  LexTokens: for every text the call returns true and the text reads as before: any text's tokens, or at which byte there is none, are the document's. Conditions: the row's own (the package variables as the program's text lays them, which the card ties).
-/
import Derived.Test.YtlpbpcdjifadiaaDoorCards
import Derived.Test.YtlpbpcdjifadiaaDoorTie
import Derived.Test.YtlpbpcdjifadiaaDoorTokOk
import Derived.LaidHandle
import Derived.Test.YtlpbpcdjifadiaaDoorLaid
namespace Go.Proofs.YtlpbpcdjifadiaaDoor
open Go.ChangeShapes Go.WideShapes Go.ChangeAt Go.WideMaps Go.WideElems Go.RowKit
open Go.ChangeMaps (open_string shut_string)

namespace Tokens
abbrev laid2 := Rows.lexTokensRow.laid

theorem gFine : Tryd.prog.globalNamed "sloppyscope/sloppyref.Fine" = some 0 := by kernel_rfl
theorem tFine : (Tryd.prog.globals[0]?).map (·.type) = some 25 := by kernel_rfl
theorem gErr : Tryd.prog.globalNamed "errors.errorType" = some 6 := by kernel_rfl
theorem rt105 : (Tryd.prog.cutTypes.find? (·.1 == "internal/reflectlite.rtype")).map (·.2) = some 105 := by kernel_rfl
theorem oneRow : ((List.range 160).filter fun t => Tryd.prog.rowNamed t [101, 114, 114, 111, 114]) = [30] := by kernel_rfl
theorem tySize : Tryd.prog.types.size = 160 := by kernel_rfl
theorem signs_size : ∀ i, i < 19 → (signsS.getD i ByteArray.empty).size ≤ 3 := by decide +kernel

/-- The list without the one handle. -/
def laidT : List (String × DataW Unit) := [("math/bits.deBruijn32tab", Rows.laid_math_bits_deBruijn32tab), ("math/bits.deBruijn64tab", Rows.laid_math_bits_deBruijn64tab), ("internal/strconv.uint64pow10", Rows.laid_internal_strconv_uint64pow10), ("strconv.ErrRange", Rows.laid_strconv_ErrRange), ("strconv.ErrSyntax", Rows.laid_strconv_ErrSyntax), ("sloppyscope/lex.words", Rows.laid_sloppyscope_lex_words), ("sloppyscope/lex.signs", Rows.laid_sloppyscope_lex_signs), ("sloppyscope/sloppyref.Fine", Rows.laid_sloppyscope_sloppyref_Fine), ("sloppyscope/sloppyref.words", Rows.laid_sloppyscope_sloppyref_words)]

theorem handle_of {W : World} (h : handlesMet Tryd.prog [("errors.errorType", Rows.laid_errors_errorType)] W) : errType W := by
  obtain ⟨name, u, ty, e1, e2, e3, e4, e5⟩ := h _ (List.mem_singleton.2 rfl)
  have en : name = [101, 114, 114, 111, 114] := (Option.some.inj e1).symm
  subst en
  obtain rfl := Option.some.inj (rt105.symm.trans e2)
  have hm : ty ∈ (List.range 160).filter fun t => Tryd.prog.rowNamed t [101, 114, 114, 111, 114] := List.mem_filter.2 ⟨List.mem_range.2 (by rw [← tySize]; exact e3), e4⟩
  rw [oneRow] at hm
  obtain rfl := List.mem_singleton.1 hm
  have hh : typeHandle Tryd.prog 30 = .pointer (some ⟨11, 30, none⟩) := by kernel_rfl
  rw [hh] at e5
  simpa using World.var?_cell gErr e5 0

theorem cells23 : Tryd.prog.cellsOf 23 = 1 := by kernel_rfl
theorem cells3 : Tryd.prog.cellsOf 3 = 1 := by kernel_rfl
theorem cells25 : Tryd.prog.cellsOf 25 = 2 := by kernel_rfl
theorem fine_of {W : World} {fuel : Nat} {cs : Array Value} {p : List MemPlace} (hv : W.var? Tryd.prog "sloppyscope/sloppyref.Fine" = some cs)
    (h : DataW.trod (fun _ => ()) Tryd.prog W 0 (fun _ => true) false fuel 25 cs.toList = some (.agg [.lit (.int .i64 0), .lit (.int .i64 (-1))], p)) :
    W.cell? ⟨0, 0, none⟩ = some (.int .i64 0) ∧ W.cell? ⟨0, 1, none⟩ = some (.int .i64 (-1)) := by
  have h0 := World.var?_cell gFine hv 0
  have h1 := World.var?_cell gFine hv 1
  obtain ⟨y0, y1, n, hx, hl, hy0, hy1⟩ := trod_struct2 Tryd.underlying25 h
  simp only [Prod.mk.injEq, DataW.agg.injEq, List.cons.injEq, and_true] at hx
  obtain ⟨⟨hx0, hx1⟩, _⟩ := hx
  rw [cells25] at hl
  obtain ⟨k0, e0, f0, _⟩ := DataW.trod_int Tryd.underlying23 hy0
  obtain ⟨k1, e1, f1, _⟩ := DataW.trod_int Tryd.underlying3 hy1
  rw [f0] at hx0
  rw [f1] at hx1
  have e0' : List.take (Tryd.prog.cellsOf 23) (List.drop 0 cs.toList) = [.int .i64 k0] := e0
  have e1' : List.take (Tryd.prog.cellsOf 3) (List.drop 1 cs.toList) = [.int .i64 k1] := e1
  rw [cells23] at e0'
  rw [cells3] at e1'
  clear e0 e1 hy0 hy1 h
  obtain ⟨l⟩ := cs
  match l, hl, e0', e1' with
  | [c0, c1], _, e0, e1 =>
    simp at e0 e1 hx0 hx1
    subst e0 e1
    rw [h0, h1, ← hx0, ← hx1]
    exact ⟨rfl, rfl⟩

theorem of_laid {W : World} (h : laidMetH Tryd.prog laid2 W) : Found W := by
  have h' : laidMet Tryd.prog laidT W ∧ handlesMet Tryd.prog [("errors.errorType", Rows.laid_errors_errorType)] W := h
  obtain ⟨⟨ps, ⟨_, _, _, _, _, _, _, _, _, _, ⟨_, _, _, _, _, _, _, _, _, _, ⟨_, _, _, _, _, _, _, _, _, _, ⟨_, _, _, _, _, _, _, _, _, _, ⟨_, _, _, _, _, _, _, _, _, _, ⟨g0, t0, cs0, f0, p0, q0, hg0, ht0, hv0, hd0, ⟨g1, t1, cs1, f1, p1, q1, hg1, ht1, hv1, hd1, ⟨g2, t2, cs2, f2, p2, q2, hg2, ht2, hv2, hd2, ⟨g3, t3, cs3, f3, p3, q3, hg3, ht3, hv3, hd3, _, _⟩, _⟩, _⟩, _⟩, _⟩, _⟩, _⟩, _⟩, _⟩, _, _⟩, hh9⟩ := h'
  obtain rfl := Option.some.inj (gWords.symm.trans hg0)
  obtain rfl := Option.some.inj (gSigns.symm.trans hg1)
  obtain rfl := Option.some.inj (gFine.symm.trans hg2)
  obtain rfl := Option.some.inj (gRefWords.symm.trans hg3)
  obtain rfl := Option.some.inj (tWords.symm.trans ht0)
  obtain rfl := Option.some.inj (tSigns.symm.trans ht1)
  obtain rfl := Option.some.inj (tFine.symm.trans ht2)
  obtain rfl := Option.some.inj (tRefWords.symm.trans ht3)
  have e0 := array_of_trod wordsL rfl hd0
  have e1 := array_of_trod signsL rfl hd1
  obtain ⟨a, cap, e3, hrow⟩ := slice_of_trod wordsL hd3
  obtain ⟨t, fr, hh⟩ := heap_of_var gWords hv0
  obtain ⟨t', fr', hh'⟩ := heap_of_var gSigns hv1
  have hf := fine_of hv2 hd2
  refine ⟨⟨wordsS_len, signsS_len, signs_size, ⟨t, fr, ?_⟩, ⟨t', fr', ?_⟩⟩, ⟨wordsS_len, ⟨a, cap, ?_, hrow⟩, hf.1, hf.2⟩, handle_of hh9⟩
  · rw [hh]
    have : cs0 = (wordsS.map Value.string).toArray := by
      obtain ⟨l⟩ := cs0
      exact congrArg List.toArray e0
    rw [this]
  · rw [hh']
    have : cs1 = (signsS.map Value.string).toArray := by
      obtain ⟨l⟩ := cs1
      exact congrArg List.toArray e1
    rw [this]
  · have := World.var?_cell hg3 hv3 0
    rw [Array.eq_one_of_toList e3] at this
    exact this

theorem door_met (os : Os) (args : Array Value) : laidMetH Tryd.prog laid2 ((World.doorLaid Tryd.prog 89 os).forCall (fun _ _ => 0) ⟨#[], args, []⟩).memory :=
  laidMetH_of_parts3 (fuel := 8) (laidMet_of_run' 8 (by kernel_rfl) (by kernel_rfl)) (by kernel_rfl) (by kernel_rfl)

set_option maxRecDepth 100000 in
theorem lifted (os : Os) (started : os.Started) (H : Type) (enc : TypeId × Value → H) :
    ReturnsInHanded {} Tryd.checked os 3 .any (fun w args => (Rows.lexTokensSpec.pre enc Tryd.prog Tryd.f3 [] false w args ∧ laidMetH Tryd.prog laid2 w) ∧ sizedMet enc Tryd.prog Tryd.f3 (OpenSpec.ofChange Rows.lexTokensSpec) false w args)
      (Rows.lexTokensSpec.post enc Tryd.prog Tryd.f3 false true false false) := by
  refine returnsInHanded_of_change_and (C := Tryd.checked) (X := fun w _ => laidMetH Tryd.prog laid2 w) (fun _ _ _ hh h => h.of_heap hh) ownK started (by kernel_rfl) Tryd.func3
    (ChangeSpec.witness_shaped (enc := enc) (C := Tryd.checked) (os := os) (X := fun w _ => laidMetH Tryd.prog laid2 w) false (World.doorLaid Tryd.prog 89 os) #[.string ByteArray.empty] 8 rfl (World.shaped_of_RefB (by kernel_rfl) (by kernel_rfl)) (by kernel_rfl) (by kernel_rfl) (by kernel_rfl) (door_met os _)) ?_
  intro W base args ds gs before hval0 hW _ _ hL _
  have hval : ∀ (j : Nat) t v, Tryd.f3.params[j]? = some t → args[j]? = some v → Value.okWide Tryd.prog W .any base t v := hval0
  have hW' := hW
  obtain ⟨p, q, hA0, hV, rfl, hfz, hnd⟩ := hW
  have hA : DataW.TrodAll enc Tryd.prog W 0 (fun _ => true) true Tryd.f3.params.toList args.toList ds p := hA0
  rw [Tryd.params3] at hA hval
  obtain ⟨v0, d0, rfl, rfl, h0⟩ := trodAll_one hA
  obtain ⟨rfl, rfl⟩ := trodVars_none hV
  obtain ⟨s, rfl, rfl, rfl, hs⟩ := open_string Tryd.underlying9 (hval 0 9 v0 rfl rfl) h0
  have hLs := of_laid hL
  clear hA0 hval0
  simp only [List.append_nil] at hW'
  refine (lexTokens_any s W hLs).mono fun e W' ⟨he, bel⟩ => ?_
  subst he
  exact ⟨_, rfl, _, _, _, [], [], [], hW', trodAll_mk1 (shut_bool Tryd.underlying4 _), trodAll_mk1 (shut_string Tryd.underlying9 hs), rfl, bel.frame _, fun h => by cases h⟩

theorem said : Rows.LexTokensSaid :=
  OpenClaim.holds_of_wide 3 Tryd.f3 rfl rfl rfl rfl rfl rfl rfl ⟨rfl, rfl, rfl, rfl, rfl⟩ rfl rfl rfl rfl rfl (by kernel_rfl) Tryd.func3 (by kernel_rfl)
    (of_decide_eq_true (by kernel_rfl)) (by unfold Func.isWrapper; first | (rw [if_pos (by decide +kernel)]; kernel_rfl) | (rw [if_neg (by decide +kernel)]; exact ⟨rfl, rfl⟩))
    (fun os started H enc _ => lifted os started H enc)

theorem plain (f : FuncId) (fn : Func) (hf : Tryd.pinned.checked.prog.funcNamed "sloppyscope/sloppylaw.LexTokens" = some f) (hfn : Tryd.pinned.checked.prog.funcs[f]? = some fn) :
    true = Tryd.pinned.checked.prog.looks [] ∧ ∀ (j : Nat) t, fn.params[j]? = some t → Tryd.pinned.checked.prog.wantsStandIn t = false := by
  obtain rfl : f = 3 := Option.some.inj ((show Tryd.prog.funcNamed "sloppyscope/sloppylaw.LexTokens" = some 3 by kernel_rfl).symm.trans hf) |>.symm
  obtain rfl : fn = Tryd.f3 := (Option.some.inj (Tryd.func3.symm.trans hfn)).symm
  refine ⟨by kernel_rfl, fun j t ht => ?_⟩
  rw [Tryd.params3] at ht
  obtain rfl : t = 9 := by simpa using Array.mem_of_getElem? ht
  exact (show Tryd.prog.wantsStandIn 9 = false by kernel_rfl)
end Tokens

theorem lexTokens_card : Rows.LexTokensCardSaid :=
  Claim7.holds_tied_plain_at .later [] _ _ _ _ Tokens.said (fun _ h => by cases h) (by kernel_rfl) (fun _ h => by cases h) lexTokens_row_tie rfl ⟨rfl, rfl⟩ (by kernel_rfl) rfl Tokens.plain (by kernel_rfl)
#print axioms lexTokens_card
end Go.Proofs.YtlpbpcdjifadiaaDoor
