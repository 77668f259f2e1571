/-
  The document's own heap: whether a name is there, where it is found, what is read.
-/
import Derived.Test.YtomogijjkdiomaaDoorHp14
set_option maxRecDepth 100000
set_option maxHeartbeats 16000000
namespace Go.Proofs.YtomogijjkdiomaaDoor
open Go.RowKit

section
variable {R : Nat} {w w' : World} {M : Mo} {cv pv rv : Value} {ps rs : List Value} {K : Nat}
set_option maxRecDepth 100000
set_option maxHeartbeats 1000000
theorem prop_neg (M : Mo) (nm : ByteArray) {o : Int} (h : o < 0) : M.prop o nm = none := by simp [Mo.prop, Mo.ob, h]
theorem has_cases (ho : M.Ok) (s : Int) (nm : ByteArray) :
    (M.ro s = none ∧ M.has s nm = false ∧ M.cel s nm = none) ∨
    (∃ (i : Nat) (x : Ro), s = i ∧ M.rooms[i]? = some x ∧ 0 ≤ x.object ∧ M.cel s nm = none ∧ M.objOf s = x.object ∧ M.has s nm = (M.prop x.object nm).isSome) ∨
    (∃ (i : Nat) (x : Ro), s = i ∧ M.rooms[i]? = some x ∧ x.object < 0 ∧ M.has s nm = (M.cel s nm).isSome) := by
  rcases ro_cases M s with ⟨e0, _⟩ | ⟨i, x, rfl, hx, e1⟩
  · left
    have hc : M.cel s nm = none := by simp [Mo.cel, e0]
    exact ⟨e0, by simp [Mo.has, hc, Mo.objOf, e0, prop_neg], hc⟩
  · have hob : M.objOf i = x.object := by simp [Mo.objOf, e1]
    by_cases h : 0 ≤ x.object
    · right; left
      have hc : M.cel i nm = none := by simp [Mo.cel, e1, ho.emp i x hx h]
      exact ⟨i, x, rfl, hx, h, hc, hob, by simp [Mo.has, hc, hob]⟩
    · right; right
      exact ⟨i, x, rfl, hx, by omega, by simp [Mo.has, hob, prop_neg M nm (show x.object < 0 by omega)]⟩
theorem rroom (h : WP R w M cv pv rv ps rs) {i : Nat} {x : Ro} (hi : M.rooms[i]? = some x) : ∃ g cap v, rv = .slice (some ⟨g, 0, none⟩) M.rooms.length cap ∧ i < M.rooms.length ∧ rs[i]? = some v ∧ w.cell? ⟨g, i * 3, none⟩ = some (.int .i64 x.outer) ∧ w.cell? ⟨g, i * 3 + 1, none⟩ = some (.int .i64 x.object) ∧ w.cell? ⟨g, i * 3 + 2, none⟩ = some v ∧ w.ownsRow R 100 4 v x.cs.length (x.cs.flatMap Ce.r) ∧ g < w.heap.size ∧ R ≤ g ∧ ∀ j, w.frozen? ⟨g, j, none⟩ = false := by
  obtain ⟨g, cap, v, e2, hlt, hv, hcl, hrow, hg, hB, hfz, _⟩ := h.ro.at_ (i := i) (e := x.r) (by simp [hi])
  rw [List.length_map] at hlt e2
  exact ⟨g, cap, v, e2, hlt, hv, hcl 0 _ rfl, hcl 1 _ rfl, hcl 2 _ rfl, hrow, hg, hB, hfz⟩
theorem rhas_any (h : WP R w M cv pv rv ps rs) (hs : M.Small K) (hK : K ≤ 1000) (ho : M.Ok) (s : Int) (nm : ByteArray) :
    Calls Tryd.prog 28 #[.pointer (some ⟨R, 0, none⟩), .int .i64 s, .string nm] w fun e w' => e = .returned (.bool (M.has s nm)) ∧ Below w.heap.size w w' := by
  obtain ⟨h0, h1, h2, hl⟩ := h.c
  have HO := hide (room_any h s)
  have HC := hide (rcell_any h hs hK ho s nm)
  rcases has_cases ho s nm with ⟨e0, e1, e2⟩ | ⟨i, x, rfl, hx, hob, e1, e2, e3⟩ | ⟨i, x, rfl, hx, hob, e1⟩
  · rw [e0] at HO
    have hp : M.plc s nm = -1 := by
      rcases plc_cel M s nm with ⟨h, _⟩ | ⟨_, _, _, _, _, _, _, _, _, h⟩
      · exact h
      · rw [e2] at h; cases h
    rw [hp] at HC
    rw [e1]
    clear h hs ho e0 e1 e2 hp
    go_enter Tryd.func28, Tryd.ntmps28
    go_wp2_with fail
    refine Calls.mono HO.out ?_
    rintro e w1 ⟨rfl, rfl⟩
    go_wp2_with fail
    refine Calls.mono HC.out ?_
    rintro e w2 ⟨rfl, hb⟩
    have HB := hide hb
    clear hb
    go_wp2_with fail
    go_ret
    exact ⟨rfl, HB.out⟩
  · rw [ro_nat hx] at HO
    obtain ⟨g, cap, v, rfl, hlt, hv, c0, c1, c2, hrow, hg, hB, hfz⟩ := rroom h hx
    have HG := hide (rget_any h hs hK x.object nm)
    rw [e3]
    have hob2 : decide (0 ≤ x.object) = true := by simpa using hob
    clear h hs ho e1 e2 e3 hrow hv hx hfz
    go_enter Tryd.func28, Tryd.ntmps28
    go_wp2_with fail
    refine Calls.mono HO.out ?_
    rintro e w1 ⟨rfl, rfl⟩
    go_wp2_with fail
    refine Calls.mono HG.out ?_
    rintro e w2 ⟨rfl, hb⟩
    have HB := hide hb
    clear hb
    go_wp2_with fail
    go_ret
    exact ⟨rfl, HB.out⟩
  · rw [ro_nat hx] at HO
    obtain ⟨g, cap, v, rfl, hlt, hv, c0, c1, c2, hrow, hg, hB, hfz⟩ := rroom h hx
    have hob2 : ¬ 0 ≤ x.object := by omega
    rw [e1]
    rcases plc_cel M i nm with ⟨hp, hc⟩ | ⟨i', x', k, c, e5, e6, e7, e8, hp, hc⟩
    all_goals
      rw [hp] at HC
      rw [hc]
    · clear h hs ho e1 hrow hv hx hp hc hfz
      go_enter Tryd.func28, Tryd.ntmps28
      go_wp2_with fail
      refine Calls.mono HO.out ?_
      rintro e w1 ⟨rfl, rfl⟩
      go_wp2_with fail
      refine Calls.mono HC.out ?_
      rintro e w2 ⟨rfl, hb⟩
      have HB := hide hb
      clear hb
      go_wp2_with fail
      go_ret
      exact ⟨rfl, HB.out⟩
    · have hk0 : (0 : Int) ≤ (k : Int) := by omega
      clear h hs ho e1 hrow hv hx hp hc hfz e5 e6 e7 e8
      go_enter Tryd.func28, Tryd.ntmps28
      go_wp2_with fail
      refine Calls.mono HO.out ?_
      rintro e w1 ⟨rfl, rfl⟩
      go_wp2_with fail
      refine Calls.mono HC.out ?_
      rintro e w2 ⟨rfl, hb⟩
      have HB := hide hb
      clear hb
      go_wp2_with fail
      go_ret
      exact ⟨rfl, HB.out⟩
theorem rkind_any (h : WP R w M cv pv rv ps rs) (hs : M.Small K) (hK : K ≤ 1000) (ho : M.Ok) (s : Int) (nm : ByteArray) :
    Calls Tryd.prog 30 #[.pointer (some ⟨R, 0, none⟩), .int .i64 s, .string nm] w fun e w' => e = .returned (.int .i64 (M.kindOf s nm)) ∧ Below w.heap.size w w' := by
  have HC := hide (rcell_any h hs hK ho s nm)
  have HH := hide h
  unfold Mo.kindOf
  rcases plc_cel M s nm with ⟨hp, hc⟩ | ⟨i, x, k, c, rfl, hx, hk, hck, hp, hc⟩
  all_goals
    rw [hp] at HC
    rw [hc]
  · clear h hs ho hp hc
    go_enter Tryd.func30, Tryd.ntmps30
    go_wp2_with fail
    refine Calls.mono HC.out ?_
    rintro e w2 ⟨rfl, hb⟩
    have HB := hide hb
    clear hb
    go_wp2_with fail
    go_ret
    exact ⟨rfl, HB.out⟩
  · have HX := hide hx
    have HCK := hide hck
    have hk0 : (0 : Int) ≤ (k : Int) := by omega
    clear h hs ho hp hc hx hk hck
    go_enter Tryd.func30, Tryd.ntmps30
    go_wp2_with fail
    refine Calls.mono HC.out ?_
    rintro e w2 ⟨rfl, hb⟩
    obtain ⟨h0, h1, h2, hl⟩ := (HH.out.later hb).c
    obtain ⟨g, cap, v, rfl, hlt, hv, c0, c1, c2, hrow, hg, hB, hfz⟩ := rroom (HH.out.later hb) HX.out
    have hkl : k < x.cs.length := (List.getElem?_eq_some_iff.1 HCK.out).1
    rcases row_form hrow with ⟨rfl, hn⟩ | ⟨gb, capb, rfl⟩
    · omega
    have d2 := ratC hrow HCK.out rfl 2 _ rfl
    have hgb := (hrow.lt gb rfl).2
    have HB := hide hb
    clear hb hrow hv hfz
    go_wp2_with fail
    go_ret
    exact ⟨rfl, HB.out⟩
end

section
variable {R : Nat} {w w' : World} {M : Mo} {cv pv rv : Value} {ps rs : List Value} {K : Nat}
set_option maxRecDepth 100000
set_option maxHeartbeats 1000000
theorem rfind_any (h : WP R w M cv pv rv ps rs) (hs : M.Small K) (hK : K ≤ 1000) (ho : M.Ok) (i r : Int) (nm : ByteArray) (hf : M.Finds nm i r) :
    Calls Tryd.prog 23 #[.pointer (some ⟨R, 0, none⟩), .int .i64 i, .string nm] w fun e w' => e = .returned (.int .i64 r) ∧ Below w.heap.size w w' := by
  have HH := hide h
  have HF := hide hf
  have HSM := hide hs
  have HOK := hide ho
  clear h hf hs ho
  go_enter Tryd.func23, Tryd.ntmps23
  go_wp2_with fail
  go_loopw [1] (fun i' wr => ∃ j : Int, i' = .int .i64 j ∧ M.Finds nm j r ∧ Below w.heap.size w wr) (fun i' _ => (intOf i' + 1).toNat)
  case atStart => exact ⟨i, rfl, HF.out, Below.refl _ _⟩
  case round =>
    obtain ⟨j, rfl, hfj, hb⟩ := hrel
    have HB := hide hb
    have HHr := hide (HH.out.later hb)
    clear hb
    cases hfj with
    | out _ hn =>
      have HO := hide (room_any HHr.out j)
      rw [hn] at HO
      clear hn
      go_wp2_with fail
      refine Calls.mono HO.out ?_
      rintro e w2 ⟨rfl, rfl⟩
      go_wp2_with fail
      refine Calls.mono HO.out ?_
      rintro e w3 ⟨rfl, rfl⟩
      go_wp2_with fail
      go_ret
      exact ⟨rfl, HB.out⟩
    | here k x hk hh =>
      have HO := hide (fun W hW => room_any (HHr.out.later (w' := W) hW) k)
      rw [ro_nat hk] at HO
      have HS := hide (rhas_any HHr.out HSM.out hK HOK.out k nm)
      rw [hh] at HS
      clear hh hk
      go_wp2_with fail
      refine Calls.mono (HO.out wr (Below.refl _ _)) ?_
      rintro e w2 ⟨rfl, rfl⟩
      go_wp2_with fail
      refine Calls.mono HS.out ?_
      rintro e w3 ⟨rfl, hb3⟩
      have HO3 := hide (HO.out w3 hb3)
      have HB2 := hide (HB.out.trans (hb3.mono HB.out.size))
      clear hb3
      go_wp2_with fail
      refine Calls.mono HO3.out ?_
      rintro e w4 ⟨rfl, rfl⟩
      go_wp2_with fail
      go_ret
      exact ⟨rfl, HB2.out⟩
    | on k x _ hk hh ho hr =>
      have HO := hide (room_any HHr.out k)
      rw [ro_nat hk] at HO
      have HS := hide (rhas_any HHr.out HSM.out hK HOK.out k nm)
      rw [hh] at HS
      have HK := hide hk
      have HRr := hide hr
      have HOO := hide ho
      clear hh hk hr ho
      go_wp2_with fail
      refine Calls.mono HO.out ?_
      rintro e w2 ⟨rfl, rfl⟩
      go_wp2_with fail
      refine Calls.mono HS.out ?_
      rintro e w3 ⟨rfl, hb3⟩
      obtain ⟨h0, h1, h2, hl⟩ := (HHr.out.later hb3).c
      obtain ⟨g, cap, v, rfl, hlt, hv, c0, c1, c2, hrow, hg, hB, hfz⟩ := rroom (HHr.out.later hb3) HK.out
      have HB2 := hide (HB.out.trans (hb3.mono HB.out.size))
      clear hb3 hrow hv hfz
      go_wp2_with fail
      go_roundw
      case rel => exact ⟨x.outer, rfl, HRr.out, HB2.out⟩
      case measure =>
        have := HOO.out
        simp [intOf]; omega
/-- What is read of a name: its value, and the error. -/
def Mo.readP (M : Mo) (s : Int) (nm : ByteArray) : Int × Int :=
  match M.cel s nm with
  | some c => if c.ready then (c.v, 0) else (0, 6)
  | none =>
    match M.prop (M.objOf s) nm with
    | some p => (p.v, 0)
    | none => (0, 7)
theorem rread_any (h : WP R w M cv pv rv ps rs) (hs : M.Small K) (hK : K ≤ 1000) (ho : M.Ok) (s : Int) (nm : ByteArray) :
    Calls Tryd.prog 21 #[.pointer (some ⟨R, 0, none⟩), .int .i64 s, .string nm] w fun e w' => e = .returned (.tuple #[.int .i64 (M.readP s nm).1, .int .i64 (M.readP s nm).2]) ∧ Below w.heap.size w w' := by
  have HS := hide (rhas_any h hs hK ho s nm)
  have HC : Hid (∀ W, Below w.heap.size w W → _) := fun W hW => rcell_any (h.later hW) hs hK ho s nm
  have HG : Hid (∀ W, Below w.heap.size w W → _) := fun W hW => rget_any (h.later hW) hs hK (M.objOf s) nm
  have HH := hide h
  rcases plc_cel M s nm with ⟨hp, hc⟩ | ⟨i, x, k, c, rfl, hx, hk, hck, hp, hc⟩
  · cases hq : M.prop (M.objOf s) nm with
    | none =>
      rw [show M.has s nm = false by simp [Mo.has, hc, hq]] at HS
      rw [show M.readP s nm = (0, 7) by simp [Mo.readP, hc, hq]]
      clear h hs ho hp hc HC HG hq
      go_enter Tryd.func21, Tryd.ntmps21
      go_wp2_with fail
      refine Calls.mono HS.out ?_
      rintro e w2 ⟨rfl, hb⟩
      have HB := hide hb
      clear hb
      go_wp2_with fail
      go_ret2
      exact ⟨rfl, HB.out⟩
    | some p =>
      rw [show M.has s nm = true by simp [Mo.has, hq]] at HS
      rw [show M.readP s nm = (p.v, 0) by simp [Mo.readP, hc, hq]]
      rcases has_cases ho s nm with ⟨_, e1, _⟩ | ⟨i, x, rfl, hx, hob, e1, e2, e3⟩ | ⟨i, x, rfl, hx, hob, e1⟩
      · rw [show M.has s nm = true by simp [Mo.has, hq]] at e1; cases e1
      · rw [e2] at HG
        rw [show M.prop x.object nm = some p by rw [← e2]; exact hq] at HG
        rw [hp] at HC
        have HX := hide hx
        clear h hs ho hp hc hq e1 e2 e3 hx
        go_enter Tryd.func21, Tryd.ntmps21
        go_wp2_with fail
        refine Calls.mono HS.out ?_
        rintro e w2 ⟨rfl, hb⟩
        have HB := hide hb
        clear hb
        go_wp2_with fail
        refine Calls.mono (HC.out _ HB.out) ?_
        rintro e w3 ⟨rfl, hb3⟩
        have HB3 := hide (HB.out.trans (hb3.mono HB.out.size))
        clear hb3
        obtain ⟨h0, h1, h2, hl⟩ := (HH.out.later HB3.out).c
        obtain ⟨g, cap, v, rfl, hlt, hv, c0, c1, c2, hrow, hg, hB, hfz⟩ := rroom (HH.out.later HB3.out) HX.out
        clear hrow hv hfz
        go_wp2_with fail
        refine Calls.mono (HG.out _ HB3.out) ?_
        rintro e w4 ⟨rfl, hb4⟩
        have HB4 := hide (HB3.out.trans (hb4.mono HB3.out.size))
        clear hb4 c0 c1 c2 h0 h1 h2
        simp only [Option.map_some, Option.getD_some, Option.isSome_some]
        go_wp2_with fail
        go_ret2
        exact ⟨rfl, HB4.out⟩
      · exfalso
        rw [show M.objOf i = x.object by simp [Mo.objOf, ro_nat hx], prop_neg M nm hob] at hq
        cases hq
  · rw [show M.has i nm = true by simp [Mo.has, hc]] at HS
    rw [hp] at HC
    have HX := hide hx
    have HCK := hide hck
    have hk0 : ¬ (k : Int) < 0 := by omega
    have hrd : M.readP i nm = if c.ready then (c.v, 0) else (0, 6) := by simp [Mo.readP, hc]
    rw [hrd]
    clear h hs ho hp hc hx hk hck HG hrd
    cases hrdy : c.ready
    all_goals
      go_enter Tryd.func21, Tryd.ntmps21
      go_wp2_with fail
      refine Calls.mono HS.out ?_
      rintro e w2 ⟨rfl, hb⟩
      have HB := hide hb
      clear hb
      go_wp2_with fail
      refine Calls.mono (HC.out _ HB.out) ?_
      rintro e w3 ⟨rfl, hb3⟩
      have HB3 := hide (HB.out.trans (hb3.mono HB.out.size))
      clear hb3
      obtain ⟨h0, h1, h2, hl⟩ := (HH.out.later HB3.out).c
      obtain ⟨g, cap, v, rfl, hlt, hv, c0, c1, c2, hrow, hg, hB, hfz⟩ := rroom (HH.out.later HB3.out) HX.out
      have hkl : k < x.cs.length := (List.getElem?_eq_some_iff.1 HCK.out).1
      rcases row_form hrow with ⟨rfl, hn⟩ | ⟨gb, capb, rfl⟩
      · omega
      have d0 : w3.cell? ⟨gb, k * 4, none⟩ = some (.string c.name) := ratC hrow HCK.out rfl 0 _ rfl
      have d1 := ratC hrow HCK.out rfl 1 _ rfl
      have d2 := ratC hrow HCK.out rfl 2 _ rfl
      have d3 := ratC hrow HCK.out rfl 3 _ rfl
      rw [hrdy] at d3
      have hgb := (hrow.lt gb rfl).2
      clear hrow hv hfz
      go_wp2_with fail
      go_ret2
      exact ⟨rfl, HB3.out.alloc HB3.out.size _⟩
end
end Go.Proofs.YtomogijjkdiomaaDoor
