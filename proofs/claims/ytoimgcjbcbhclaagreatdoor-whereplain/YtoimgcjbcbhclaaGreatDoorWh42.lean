/-
  WherePlain, the call: for every text the call returns true and the text reads as before: what is told of names stands in order, and without with and calls of eval by its name all of it is sure. Conditions: the row's own (the package variables as the program's text lays them, which the card ties).
-/
import Derived.Test.YtoimgcjbcbhclaaGreatDoorCards
import Derived.Test.YtoimgcjbcbhclaaGreatDoorTie
import Derived.Test.YtoimgcjbcbhclaaGreatDoorWh24
import Derived.Test.YtoimgcjbcbhclaaGreatDoorWh41
import Derived.LaidHandle
namespace Go.Proofs.YtoimgcjbcbhclaaGreatDoor
open Go.ChangeShapes Go.WideShapes Go.ChangeAt Go.WideMaps Go.WideElems Go.RowKit
open Go.ChangeMaps (open_string shut_string)

namespace WpRow
abbrev laid2 := Rows.wherePlainRow.laid

theorem signs_size : ∀ i, i < 19 → (signsS.getD i ByteArray.empty).size ≤ 3 := by decide +kernel
theorem signs_pos : ∀ g ∈ signsS, 1 ≤ g.size := by
  intro g hg
  have : signsS.all (fun g => decide (1 ≤ g.size)) = true := by decide +kernel
  simpa using List.all_eq_true.1 this g hg

theorem of_laid {W : World} (h : laidMetH Tryz.prog laid2 W) : Lists wordsS signsS W ∧ Tabs W := by
  rw [MakeChecks.laidMetH_plain _ _ _ (by kernel_rfl)] at h
  obtain ⟨ps, ⟨_, _, _, _, _, _, _, _, _, _, ⟨_, _, _, _, _, _, _, _, _, _, ⟨_, _, _, _, _, _, _, _, _, _, ⟨_, _, _, _, _, _, _, _, _, _, ⟨_, _, _, _, _, _, _, _, _, _, ⟨g0, t0, cs0, f0, p0, q0, hg0, ht0, hv0, hd0, ⟨g1, t1, cs1, f1, p1, q1, hg1, ht1, hv1, hd1, ⟨g2, t2, cs2, f2, p2, q2, hg2, ht2, hv2, hd2, ⟨g3, t3, cs3, f3, p3, q3, hg3, ht3, hv3, hd3, _, _⟩, _⟩, _⟩, _⟩, _⟩, _⟩, _⟩, _⟩, _⟩, _, _⟩ := h
  obtain rfl := Option.some.inj (gWords.symm.trans hg0)
  obtain rfl := Option.some.inj (gSigns.symm.trans hg1)
  obtain rfl := Option.some.inj (gTSigns.symm.trans hg2)
  obtain rfl := Option.some.inj (gTHeads.symm.trans hg3)
  obtain rfl := Option.some.inj (tWords.symm.trans ht0)
  obtain rfl := Option.some.inj (tSigns.symm.trans ht1)
  obtain rfl := Option.some.inj (tTSigns.symm.trans ht2)
  obtain rfl := Option.some.inj (tTHeads.symm.trans ht3)
  have e0 := array_of_trod wordsL rfl hd0
  have e1 := array_of_trod signsL rfl hd1
  have e2 := tsigns_of hd2
  have e3 := theads_of hd3
  obtain ⟨u0, fr0, hh0⟩ := heap_of_var gWords hv0
  obtain ⟨u1, fr1, hh1⟩ := heap_of_var gSigns hv1
  obtain ⟨u2, fr2, hh2⟩ := heap_of_var gTSigns hv2
  obtain ⟨u3, fr3, hh3⟩ := heap_of_var gTHeads hv3
  refine ⟨⟨wordsS_len, signsS_len, signs_size, ⟨u0, fr0, ?_⟩, ⟨u1, fr1, ?_⟩⟩, ⟨⟨u3, fr3, ?_⟩, ⟨u2, fr2, ?_⟩⟩⟩
  · rw [hh0]
    have : cs0 = (wordsS.map Value.string).toArray := by
      obtain ⟨l⟩ := cs0
      exact congrArg List.toArray e0
    rw [this]
  · rw [hh1]
    have : cs1 = (signsS.map Value.string).toArray := by
      obtain ⟨l⟩ := cs1
      exact congrArg List.toArray e1
    rw [this]
  · rw [hh3]
    have : cs3 = hdCells := by
      obtain ⟨l⟩ := cs3
      exact congrArg List.toArray e3
    rw [this]
  · rw [hh2]
    have : cs2 = sgCells := by
      obtain ⟨l⟩ := cs2
      exact congrArg List.toArray e2
    rw [this]


theorem the_law (a : ByteArray) (W : World) (h : Lists wordsS signsS W ∧ Tabs W) : Calls Tryz.prog 8 #[.string a] W fun e w' => e = .returned (.bool true) ∧ Below W.heap.size W w' :=
  wpl_any a W h.1 signs_pos h.2

theorem door_met (os : Os) (args : Array Value) : laidMetH Tryz.prog laid2 ((World.doorLaid Tryz.prog 121 os).forCall (fun _ _ => 0) ⟨#[], args, []⟩).memory :=
  laidMetH_of_parts3 (fuel := 8) (laidMet_of_run' 8 (by kernel_rfl) (by kernel_rfl)) (by kernel_rfl) (by kernel_rfl)

set_option maxRecDepth 100000 in
theorem lifted (os : Os) (started : os.Started) (H : Type) (enc : TypeId × Value → H) :
    ReturnsInHanded {} Tryz.checked os 8 .any (fun w args => (Rows.wherePlainSpec.pre enc Tryz.prog Tryz.f8 [] false w args ∧ laidMetH Tryz.prog laid2 w) ∧ sizedMet enc Tryz.prog Tryz.f8 (OpenSpec.ofChange Rows.wherePlainSpec) false w args)
      (Rows.wherePlainSpec.post enc Tryz.prog Tryz.f8 false true false false) := by
  refine returnsInHanded_of_change_and (C := Tryz.checked) (X := fun w _ => laidMetH Tryz.prog laid2 w) (fun _ _ _ hh h => h.of_heap hh) ownK started (by kernel_rfl) Tryz.func8
    (ChangeSpec.witness_shaped (enc := enc) (C := Tryz.checked) (os := os) (X := fun w _ => laidMetH Tryz.prog laid2 w) false (World.doorLaid Tryz.prog 121 os) #[.string ByteArray.empty] 8 rfl (World.shaped_of_RefB (by kernel_rfl) (by kernel_rfl)) (by kernel_rfl) (by kernel_rfl) (by kernel_rfl) (door_met os _)) ?_
  intro W base args ds gs before hval0 hW _ _ hL _
  have hval : ∀ (j : Nat) t v, Tryz.f8.params[j]? = some t → args[j]? = some v → Value.okWide Tryz.prog W .any base t v := hval0
  have hW' := hW
  obtain ⟨p, q, hA0, hV, rfl, hfz, hnd⟩ := hW
  have hA : DataW.TrodAll enc Tryz.prog W 0 (fun _ => true) true Tryz.f8.params.toList args.toList ds p := hA0
  rw [Tryz.params8] at hA hval
  obtain ⟨v0, d0, rfl, rfl, h0⟩ := trodAll_one hA
  obtain ⟨rfl, rfl⟩ := trodVars_none hV
  obtain ⟨s, rfl, rfl, rfl, hs⟩ := open_string Tryz.underlying9 (hval 0 9 v0 rfl rfl) h0
  have hLs := of_laid hL
  clear hA0 hval0
  simp only [List.append_nil] at hW'
  refine (the_law s W hLs).mono fun e W' ⟨he, bel⟩ => ?_
  subst he
  exact ⟨_, rfl, _, _, _, [], [], [], hW', trodAll_mk1 (shut_bool Tryz.underlying4 _), trodAll_mk1 (shut_string Tryz.underlying9 hs), rfl, bel.frame _, fun h => by cases h⟩
end WpRow
end Go.Proofs.YtoimgcjbcbhclaaGreatDoor
