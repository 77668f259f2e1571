/-
  The document's own heap: Cut.
-/
import Derived.Test.YtomogijjkdiomaaDoorHp19
import Derived.OwnWalk
set_option maxRecDepth 100000
set_option maxHeartbeats 16000000
namespace Go.Proofs.YtomogijjkdiomaaDoor
open Go.RowKit

section
variable {R : Nat} {w w1 : World} {M : Mo} {cv pv rv : Value} {ps rs : List Value} {K : Nat}
set_option maxRecDepth 100000
set_option maxHeartbeats 1000000
theorem row_base {w : World} {B B' : Nat} {e : TypeId} {size : Nat} {v : Value} {n : Nat} {xs : List Value} (h : w.ownsRow B e size v n xs) (hB : B' ≤ B) : w.ownsRow B' e size v n xs := by
  refine ⟨h.1, ?_⟩
  rcases h.2 with hn | ⟨g, cap, cur, hv, hb, rest⟩
  · exact Or.inl hn
  · exact Or.inr ⟨g, cap, cur, hv, by omega, rest⟩
theorem rcut_out (h : WP R w M cv pv rv ps rs) (o : Int) (nm : ByteArray) (ho : M.ob o = none) :
    Calls Tryd.prog 11 #[.pointer (some ⟨R, 0, none⟩), .int .i64 o, .string nm] w fun e w' => e = .returned (.bool true) ∧ Below w.heap.size w w' := by
  have HO := hide (object_any h o)
  rw [ho] at HO
  clear h ho
  go_enter Tryd.func11, Tryd.ntmps11
  go_wp2_with fail
  refine Calls.mono HO.out ?_
  rintro e w1 ⟨rfl, rfl⟩
  go_wp2_with fail
  go_ret
  exact ⟨rfl, Below.refl _ _⟩
theorem rcut_ok (h : WP R w M cv pv rv ps rs) (hs : M.Small K) (hK : K ≤ 1000) (i : Nat) (x : Ob) (hi : M.objs[i]? = some x) (nm : ByteArray) (hf : ∀ p ∈ x.ps, isN nm p.name = true → p.fixed = false) :
    Calls Tryd.prog 11 #[.pointer (some ⟨R, 0, none⟩), .int .i64 (i : Int), .string nm] w fun e w' => e = .returned (.bool true) ∧ (∃ ps', WP R w' (M.setOb i ⟨x.code, x.ps.filter fun p => !isN nm p.name⟩) cv pv rv ps' rs) ∧ FrT Tr R w w' := by
  obtain ⟨h0, h1, h2, hl⟩ := h.c
  obtain ⟨g, cap, v, rfl, hlt, hv, c0, hrow, hg, hB, hfz⟩ := robj h hi
  have HO := hide (object_any h i)
  rw [ob_nat hi] at HO
  have hsm := hs.ps x (List.mem_of_getElem? hi)
  have HROW := hide hrow
  have HH := hide h
  have HV := hide hv
  have HI := hide hi
  have HF := hide hf
  have hform : v = .slice none 0 0 ∧ x.ps.length = 0 ∨ ∃ gb capb, v = .slice (some ⟨gb, 0, none⟩) x.ps.length capb := row_form hrow
  have HFZ := hide hfz
  have HLEN := hide hsm
  obtain ⟨ii, hi0, hz0, hz1, hz2⟩ := info_parts info92
  clear h hs hi hv hrow hf
  go_enter Tryd.func11, Tryd.ntmps11
  go_wp2_with fail
  refine Calls.mono HO.out ?_
  rintro e w1 ⟨rfl, rfl⟩
  rcases hform with ⟨rfl, hn⟩ | ⟨gb, capb, rfl⟩
  · have hp0 : x.ps = [] := List.length_eq_zero_iff.1 hn
    clear hn
    go_wp2_with fail
    go_loopw [7, 22] (fun l j wr => l = .slice none 0 0 ∧ j = .int .i64 0 ∧ wr = w1) (fun _ j _ => 0)
    case atStart => exact ⟨rfl, rfl, rfl⟩
    case round =>
      obtain ⟨rfl, rfl, hw⟩ := hrel
      rw [hw]
      clear hw
      have hgr : w1.grownBy w1 (Value.ownBlock (.slice none 0 0)) := ⟨rfl, rfl, rfl, Nat.le_refl _, fun _ _ _ => rfl⟩
      have kg2 := HFZ.out i
      have HZ := hide (HH.out.growP (x' := ⟨x.code, x.ps.filter fun p => !isN nm p.name⟩) HI.out HV.out rfl hgr (v' := .slice none 0 0) (by rw [hp0]; exact World.ownsRow_nil _ _ _ _) (fun q hq => by cases hq) rfl)
      clear hp0 hgr
      go_wp2_with fail
      go_ret
      exact ⟨rfl, ⟨_, HZ.out.1⟩, HZ.out.2⟩
  · have hgb := (HROW.out.lt gb rfl).2
    go_wp2_with fail
    go_loopw [7, 22] (fun l j wr => ∃ m : Nat, m ≤ x.ps.length ∧ j = .int .i64 m ∧ wr.ownsRow w1.heap.size 92 3 l ((x.ps.take m).filter fun p => !isN nm p.name).length (((x.ps.take m).filter fun p => !isN nm p.name).flatMap Pr.r) ∧ Below w1.heap.size w1 wr) (fun _ j _ => x.ps.length - (intOf j).toNat)
    case atStart => exact ⟨0, Nat.zero_le _, rfl, by simpa using World.ownsRow_nil _ _ _ _, Below.refl _ _⟩
    case round =>
      obtain ⟨m, hm, rfl, hown, hb⟩ := hrel
      have HOWN := hide hown
      have HB := hide hb
      by_cases hml : m < x.ps.length
      · obtain ⟨b, hbm⟩ : ∃ b, x.ps[m]? = some b := ⟨_, List.getElem?_eq_getElem hml⟩
        have hrr := row_later HROW.out hb
        have d0 : wr.cell? ⟨gb, m * 3, none⟩ = some (.string b.name) := ratP hrr hbm rfl 0 _ rfl
        have d1 := ratP hrr hbm rfl 1 _ rfl
        have d2 := ratP hrr hbm rfl 2 _ rfl
        have hgl : gb < wr.heap.size := Nat.lt_of_lt_of_le hgb hb.size
        have hbs := hb.size
        have htk : x.ps.take (m + 1) = x.ps.take m ++ [b] := by rw [List.take_add_one, hbm]; rfl
        have hff := HF.out b (List.mem_of_getElem? hbm)
        have HTK := hide htk
        have hln : ((x.ps.take m).filter fun p => !isN nm p.name).length ≤ m := Nat.le_trans (List.length_filter_le _ _) (by simp; omega)
        clear hrr hown hb hbm htk
        cases hx : (b.name.toList == nm.toList)
        · have hx2 : ¬ b.name.toList = nm.toList := by simpa using hx
          have HX := hide hx
          have hlen := HLEN.out
          go_wp2_with (at_builtin; refine wpList_append_lies _ rfl _ _ 90 rfl w1.heap.size 92 ii _ 3 32 Tryd.underlying90 hi0 hz0 hz1 hz2 rfl (by decide) _ _ _ rfl ((HOWN.out.alloc _).alloc _) ⟨wr.heap.size + 1, 0, none⟩ 1 1 [.string b.name, .int .i64 b.v, .bool b.fixed] rfl rfl (newp_cells (wr.alloc _) _ (by simp) _ _ _) (newp_one _ _ _) (by decide) (by unfold maxLen; omega) (by omega) (by simp; omega) (wr.heap.size + 1 + 1) (by simp) ?_)
          intro g2 cap2 w5 hown' hgrow hg2 _
          have HB5 := hide (((HB.out.alloc hbs _).alloc (by simp; omega) _).grown hgrow (by simp; omega) (fun k hk => (HOWN.out.lt k hk).1))
          have HO5 := hide hown'
          clear hown' hgrow hg2
          go_wp2_with fail
          go_roundw
          case rel =>
            refine ⟨m + 1, by omega, by go_num, ?_, HB5.out⟩
            rw [HTK.out, List.filter_append, show ([b].filter fun p => !isN nm p.name) = [b] by simp [isN, HX.out], List.length_append, List.flatMap_append]
            simpa [Pr.r] using HO5.out
          case measure => simp [intOf]; omega
        · have hx2 : b.name.toList = nm.toList := by simpa using hx
          have hfx : b.fixed = false := hff hx
          rw [hfx] at d2
          have HX := hide hx
          go_wp2_with fail
          go_roundw
          case rel =>
            refine ⟨m + 1, by omega, by go_num, ?_, HB.out.alloc HB.out.size _⟩
            rw [HTK.out, List.filter_append, show ([b].filter fun p => !isN nm p.name) = [] by simp [isN, HX.out], List.append_nil]
            exact HOWN.out.alloc _
          case measure => simp [intOf]; omega
      · have hm2 : m = x.ps.length := by omega
        subst hm2
        rw [List.take_length] at hown
        have hS : wr.cell? ⟨R, 1, none⟩ = some (.slice (some ⟨g, 0, none⟩) M.objs.length cap) := (cell_below HB.out (a := ⟨R, 1, none⟩) hl).trans h1
        have kg1 : wr.cell? ⟨g, i, none⟩ = some (.slice (some ⟨gb, 0, none⟩) x.ps.length capb) := (cell_below HB.out (a := ⟨g, i, none⟩) hg).trans c0
        have kg2 : wr.frozen? ⟨g, i, none⟩ = false := (World.frozen?_of_block (w := w1) (a := ⟨g, i, none⟩) (HB.out.block g hg)).trans (HFZ.out i)
        have hgw : g < wr.heap.size := Nat.lt_of_lt_of_le hg HB.out.size
        have hRw : R < wr.heap.size := Nat.lt_of_lt_of_le hl HB.out.size
        have hgr : w1.grownBy wr (Value.ownBlock (.slice (some ⟨gb, 0, none⟩) x.ps.length capb)) := ⟨HB.out.os, HB.out.tape, HB.out.output, HB.out.size, fun j hj _ => HB.out.block j hj⟩
        have HZ := hide (HH.out.growP (x' := ⟨x.code, x.ps.filter fun p => !isN nm p.name⟩) HI.out HV.out rfl hgr (row_base hown (Nat.le_of_lt hl)) (fun q hq => .inr (hown.lt q hq).1) rfl)
        have hlf := row_form hown
        clear hown hb hgr HOWN
        rcases hlf with ⟨rfl, hn⟩ | ⟨gl, capl, rfl⟩
        · clear hn
          go_wp2_with fail
          go_ret
          exact ⟨rfl, ⟨_, HZ.out.1⟩, (FrT.of (T := Tr) (Below.refl _ _) (Nat.le_of_lt hl)).trans HZ.out.2⟩
        · go_wp2_with fail
          go_ret
          exact ⟨rfl, ⟨_, HZ.out.1⟩, HZ.out.2⟩
theorem rcut_fixed (h : WP R w M cv pv rv ps rs) (hs : M.Small K) (hK : K ≤ 1000) (i : Nat) (x : Ob) (hi : M.objs[i]? = some x) (nm : ByteArray) (k : Nat) (c : Pr) (hk : fP nm x.ps = some k) (hc : x.ps[k]? = some c) (hf : c.fixed = true) :
    Calls Tryd.prog 11 #[.pointer (some ⟨R, 0, none⟩), .int .i64 (i : Int), .string nm] w fun e w' => e = .returned (.bool false) ∧ Below w.heap.size w w' := by
  obtain ⟨h0, h1, h2, hl⟩ := h.c
  obtain ⟨g, cap, v, rfl, hlt, hv, c0, hrow, hg, hB, hfz⟩ := robj h hi
  have HO := hide (object_any h i)
  rw [ob_nat hi] at HO
  have hsm := hs.ps x (List.mem_of_getElem? hi)
  have HROW := hide hrow
  have HH := hide h
  have HV := hide hv
  have HI := hide hi
  have HK := hide hk
  have HCC := hide hc
  have hkl : k < x.ps.length := (List.getElem?_eq_some_iff.1 hc).1
  have hform : v = .slice none 0 0 ∧ x.ps.length = 0 ∨ ∃ gb capb, v = .slice (some ⟨gb, 0, none⟩) x.ps.length capb := row_form hrow
  have HFZ := hide hfz
  have HLEN := hide hsm
  obtain ⟨ii, hi0, hz0, hz1, hz2⟩ := info_parts info92
  clear h hs hi hv hrow hk hc
  go_enter Tryd.func11, Tryd.ntmps11
  go_wp2_with fail
  refine Calls.mono HO.out ?_
  rintro e w1 ⟨rfl, rfl⟩
  rcases hform with ⟨rfl, hn⟩ | ⟨gb, capb, rfl⟩
  · omega
  · have hgb := (HROW.out.lt gb rfl).2
    go_wp2_with fail
    go_loopw [7, 22] (fun l j wr => ∃ m : Nat, m ≤ k ∧ j = .int .i64 m ∧ wr.ownsRow w1.heap.size 92 3 l ((x.ps.take m).filter fun p => !isN nm p.name).length (((x.ps.take m).filter fun p => !isN nm p.name).flatMap Pr.r) ∧ Below w1.heap.size w1 wr) (fun _ j _ => k + 1 - (intOf j).toNat)
    case atStart => exact ⟨0, Nat.zero_le _, rfl, by simpa using World.ownsRow_nil _ _ _ _, Below.refl _ _⟩
    case round =>
      obtain ⟨m, hm, rfl, hown, hb⟩ := hrel
      have HOWN := hide hown
      have HB := hide hb
      have hml : m < x.ps.length := by omega
      obtain ⟨b, hbm⟩ : ∃ b, x.ps[m]? = some b := ⟨_, List.getElem?_eq_getElem hml⟩
      have hrr := row_later HROW.out hb
      have d0 : wr.cell? ⟨gb, m * 3, none⟩ = some (.string b.name) := ratP hrr hbm rfl 0 _ rfl
      have d1 := ratP hrr hbm rfl 1 _ rfl
      have d2 := ratP hrr hbm rfl 2 _ rfl
      have hgl : gb < wr.heap.size := Nat.lt_of_lt_of_le hgb hb.size
      have hbs := hb.size
      have htk : x.ps.take (m + 1) = x.ps.take m ++ [b] := by rw [List.take_add_one, hbm]; rfl
      have HTK := hide htk
      have hln : ((x.ps.take m).filter fun p => !isN nm p.name).length ≤ m := Nat.le_trans (List.length_filter_le _ _) (by simp; omega)
      obtain ⟨hk0, hk1, hk2⟩ := List.findIdx?_eq_some_iff_getElem.1 HK.out
      by_cases hmk : m = k
      · subst hmk
        rw [HCC.out] at hbm
        cases hbm
        have hx : (c.name.toList == nm.toList) = true := by
          have e1 := HCC.out
          rw [List.getElem?_eq_getElem hk0] at e1
          rw [Option.some.inj e1] at hk1
          exact hk1
        have hx2 : c.name.toList = nm.toList := by simpa using hx
        rw [hf] at d2
        clear hrr hown hb htk hk0 hk1 hk2
        go_wp2_with fail
        go_ret
        exact ⟨rfl, HB.out.alloc HB.out.size _⟩
      · have hx : (b.name.toList == nm.toList) = false := by
          have := hk2 m (by omega)
          rw [List.getElem?_eq_getElem hml] at hbm
          rw [Option.some.inj hbm] at this
          simpa [isN] using this
        have hx2 : ¬ b.name.toList = nm.toList := by simpa using hx
        have HX := hide hx
        have hlen := HLEN.out
        clear hrr hown hb htk hk0 hk1 hk2 hbm
        go_wp2_with (at_builtin; refine wpList_append_lies _ rfl _ _ 90 rfl w1.heap.size 92 ii _ 3 32 Tryd.underlying90 hi0 hz0 hz1 hz2 rfl (by decide) _ _ _ rfl ((HOWN.out.alloc _).alloc _) ⟨wr.heap.size + 1, 0, none⟩ 1 1 [.string b.name, .int .i64 b.v, .bool b.fixed] rfl rfl (newp_cells (wr.alloc _) _ (by simp) _ _ _) (newp_one _ _ _) (by decide) (by unfold maxLen; omega) (by omega) (by simp; omega) (wr.heap.size + 1 + 1) (by simp) ?_)
        intro g2 cap2 w5 hown' hgrow hg2 _
        have HB5 := hide (((HB.out.alloc hbs _).alloc (by simp; omega) _).grown hgrow (by simp; omega) (fun k hk => (HOWN.out.lt k hk).1))
        have HO5 := hide hown'
        clear hown' hgrow hg2
        go_wp2_with fail
        go_roundw
        case rel =>
          refine ⟨m + 1, by omega, by go_num, ?_, HB5.out⟩
          rw [HTK.out, List.filter_append, show ([b].filter fun p => !isN nm p.name) = [b] by simp [isN, HX.out], List.length_append, List.flatMap_append]
          simpa [Pr.r] using HO5.out
        case measure => simp [intOf]; omega
end
end Go.Proofs.YtomogijjkdiomaaDoor
