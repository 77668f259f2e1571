/-
  What is read of a heap: the calls.
-/
import Derived.Test.YtomogijjkdiomaaDoorHp3
set_option maxRecDepth 100000
set_option maxHeartbeats 16000000
namespace Go.Proofs.YtomogijjkdiomaaDoor
open Go.RowKit

section
variable {H : Nat} {w : World} {M : Mo} {ov sv : Value} {os ss : List Value} {K : Nat}
set_option maxRecDepth 100000
set_option maxHeartbeats 1000000
theorem objOf_any (h : HP H w M ov sv os ss) (s : Int) : Calls Tryd.prog 35 #[hP H, .int .i64 s] w fun e w' => e = .returned (.int .i64 (M.objOf s)) ∧ w' = w := by
  obtain ⟨h0, h1, hf, hf1, hl⟩ := h.c
  unfold hP
  rcases ro_cases M s with ⟨e0, hout⟩ | ⟨i, x, rfl, hx, e1⟩
  · have HC := hide (at_outC sv _ (row_form h.ro.row) s (by simpa using hout) w)
    rw [show M.objOf s = -1 by simp [Mo.objOf, e0]]
    clear h
    go_enter Tryd.func35, Tryd.ntmps35
    go_wp2_with fail
    refine Calls.mono HC.out ?_
    rintro e w' ⟨rfl, rfl⟩
    go_wp2_with fail
    go_ret
    exact ⟨rfl, rfl⟩
  · obtain ⟨g, cap, v, e2, hlt, hv, hc, hrow, hg, hB, hf, _⟩ := h.ro.at_ (i := i) (e := x.h) (by simp [hx])
    have HC := hide (at_inC g cap _ i hlt w)
    rw [← e2] at HC
    have c1 : w.cell? ⟨g, i * 3 + 1, none⟩ = some (.int .i64 x.object) := hc 1 _ rfl
    rw [show M.objOf i = x.object by simp [Mo.objOf, e1]]
    clear h hc hrow e2
    go_enter Tryd.func35, Tryd.ntmps35
    go_wp2_with fail
    refine Calls.mono HC.out ?_
    rintro e w' ⟨rfl, rfl⟩
    go_wp2_with fail
    go_ret
    exact ⟨rfl, rfl⟩
theorem outOf_any (h : HP H w M ov sv os ss) (s : Int) : Calls Tryd.prog 36 #[hP H, .int .i64 s] w fun e w' => e = .returned (.int .i64 (M.outOf s)) ∧ w' = w := by
  obtain ⟨h0, h1, hf, hf1, hl⟩ := h.c
  unfold hP
  rcases ro_cases M s with ⟨e0, hout⟩ | ⟨i, x, rfl, hx, e1⟩
  · have HC := hide (at_outC sv _ (row_form h.ro.row) s (by simpa using hout) w)
    rw [show M.outOf s = -1 by simp [Mo.outOf, e0]]
    clear h
    go_enter Tryd.func36, Tryd.ntmps36
    go_wp2_with fail
    refine Calls.mono HC.out ?_
    rintro e w' ⟨rfl, rfl⟩
    go_wp2_with fail
    go_ret
    exact ⟨rfl, rfl⟩
  · obtain ⟨g, cap, v, e2, hlt, hv, hc, hrow, hg, hB, hf, _⟩ := h.ro.at_ (i := i) (e := x.h) (by simp [hx])
    have HC := hide (at_inC g cap _ i hlt w)
    rw [← e2] at HC
    have c1 : w.cell? ⟨g, i * 3, none⟩ = some (.int .i64 x.outer) := hc 0 _ rfl
    rw [show M.outOf i = x.outer by simp [Mo.outOf, e1]]
    clear h hc hrow e2
    go_enter Tryd.func36, Tryd.ntmps36
    go_wp2_with fail
    refine Calls.mono HC.out ?_
    rintro e w' ⟨rfl, rfl⟩
    go_wp2_with fail
    go_ret
    exact ⟨rfl, rfl⟩
theorem code_any (h : HP H w M ov sv os ss) (s : Int) : Calls Tryd.prog 34 #[hP H, .int .i64 s] w fun e w' => e = .returned (.int .i64 (M.codeOf s)) ∧ w' = w := by
  obtain ⟨h0, h1, hf, hf1, hl⟩ := h.c
  unfold hP
  rcases ob_cases M s with ⟨e0, hout⟩ | ⟨i, x, rfl, hx, e1⟩
  · have HC := hide (at_outP ov _ (row_form h.ob.row) s (by simpa using hout) w)
    rw [show M.codeOf s = 0 by simp [Mo.codeOf, e0]]
    clear h
    go_enter Tryd.func34, Tryd.ntmps34
    go_wp2_with fail
    refine Calls.mono HC.out ?_
    rintro e w' ⟨rfl, rfl⟩
    go_wp2_with fail
    go_ret
    exact ⟨rfl, rfl⟩
  · obtain ⟨g, cap, v, e2, hlt, hv, hc, hrow, hg, hB, hf, _⟩ := h.ob.at_ (i := i) (e := x.h) (by simp [hx])
    have HC := hide (at_inP g cap _ i hlt w)
    rw [← e2] at HC
    have c1 : w.cell? ⟨g, i * 2, none⟩ = some (.int .i64 x.code) := hc 0 _ rfl
    rw [show M.codeOf i = x.code by simp [Mo.codeOf, e1]]
    clear h hc hrow e2
    go_enter Tryd.func34, Tryd.ntmps34
    go_wp2_with fail
    refine Calls.mono HC.out ?_
    rintro e w' ⟨rfl, rfl⟩
    go_wp2_with fail
    go_ret
    exact ⟨rfl, rfl⟩
theorem many_any (h : HP H w M ov sv os ss) : Calls Tryd.prog 26 #[hP H] w fun e w' => e = .returned (.tuple #[.int .i64 M.objs.length, .int .i64 M.rooms.length]) ∧ Below w.heap.size w w' := by
  obtain ⟨h0, h1, hf, hf1, hl⟩ := h.c
  unfold hP
  obtain ⟨m, hm⟩ : ∃ m, m = M.objs.length := ⟨_, rfl⟩
  obtain ⟨n, hn⟩ : ∃ n, n = M.rooms.length := ⟨_, rfl⟩
  have e1 := row_form h.ob.row
  have e2 := row_form h.ro.row
  rw [List.length_map] at e1 e2
  rw [← hm] at e1 ⊢
  rw [← hn] at e2 ⊢
  clear h hm hn
  rcases e1 with ⟨rfl, rfl⟩ | ⟨g, cap, rfl⟩ <;> rcases e2 with ⟨rfl, rfl⟩ | ⟨g', cap', rfl⟩
  all_goals
    go_enter Tryd.func26, Tryd.ntmps26
    go_wp2_with fail
    go_region_with fail
    all_goals go_wp2_with fail
    all_goals go_ret2
    all_goals exact ⟨rfl, (Below.refl _ _).drew⟩
theorem get_any (h : HP H w M ov sv os ss) (hs : M.Small K) (hK : K ≤ 1000) (o : Int) (nm : ByteArray) :
    Calls Tryd.prog 24 #[hP H, .int .i64 o, .string nm] w fun e w' => e = .returned (.tuple #[valP (M.prop o nm), .bool (M.prop o nm).isSome]) ∧ Below w.heap.size w w' := by
  obtain ⟨h0, h1, hf, hf1, hl⟩ := h.c
  have hb0 : Below w.heap.size w (w.alloc vZ) := (Below.refl _ _).alloc (Nat.le_refl _) _
  obtain ⟨q, r, hA, hO, hr⟩ := lookP (h.later hb0) hs hK o nm
  have HC := hide hA
  have HD := hide hO
  unfold vZ at HC HD
  unfold hP
  clear h hA hO
  rcases hr with ⟨rfl, hp⟩ | ⟨i, x, k, c, g, cap, rfl, _, _, _, hp, rfl, _, hW⟩
  · rw [hp]
    clear hp
    go_enter Tryd.func24, Tryd.ntmps24
    go_wp2_with fail
    refine Calls.mono HC.out ?_
    rintro e w' ⟨rfl, rfl⟩
    go_wp2_with fail
    refine Calls.mono HD.out ?_
    rintro e w1 ⟨rfl, hb⟩
    obtain ⟨n0, n1, n2, nf, nl⟩ := new3 (hb.mono (by simp))
    have HB := hide (((Below.refl _ w).alloc (Nat.le_refl _) _).trans (hb.mono (by simp)))
    clear hb
    go_wp2_with fail
    refine bodyPost_ret (v := .tuple #[noVal, .bool false]) (by simp [results, Tryd.results24, go_sem, noVal, n0, n1, n2]) rfl ⟨rfl, ?_⟩
    exact below3 HB.out (Nat.le_refl _) _ _ _
  · rw [hp]
    clear hp
    have HW := hide hW
    clear hW
    go_enter Tryd.func24, Tryd.ntmps24
    go_wp2_with fail
    refine Calls.mono HC.out ?_
    rintro e w' ⟨rfl, rfl⟩
    go_wp2_with fail
    refine Calls.mono HD.out ?_
    rintro e w1 ⟨rfl, hb⟩
    obtain ⟨hcc, hgl, _⟩ := HW.out w1 hb
    have d1 := hcc 1 _ rfl
    have d2 := hcc 2 _ rfl
    have d3 := hcc 3 _ rfl
    obtain ⟨n0, n1, n2, nf, nl⟩ := new3 (hb.mono (by simp))
    have HB := hide (((Below.refl _ w).alloc (Nat.le_refl _) _).trans (hb.mono (by simp)))
    clear hb hcc
    go_wp2_with fail
    refine bodyPost_ret (v := .tuple #[valP (some c), .bool true]) (by simp [results, Tryd.results24, go_sem, valP, n0, n1, n2]) rfl ⟨rfl, ?_⟩
    exact below3 HB.out (Nat.le_refl _) _ _ _
theorem kind_any (h : HP H w M ov sv os ss) (hs : M.Small K) (hK : K ≤ 1000) (s : Int) (nm : ByteArray) :
    Calls Tryd.prog 29 #[hP H, .int .i64 s, .string nm] w fun e w' => e = .returned (.int .i64 (M.kindOf s nm)) ∧ Below w.heap.size w w' := by
  obtain ⟨h0, h1, hf, hf1, hl⟩ := h.c
  obtain ⟨q, r, hA, hO, hr⟩ := lookC h hs hK s nm
  have HC := hide hA
  have HD := hide hO
  unfold hP Mo.kindOf
  clear h hA hO
  rcases hr with ⟨rfl, hp⟩ | ⟨i, x, k, c, g, cap, rfl, _, _, _, hp, rfl, _, hW⟩
  · rw [hp]
    clear hp
    go_enter Tryd.func29, Tryd.ntmps29
    go_wp2_with fail
    refine Calls.mono HC.out ?_
    rintro e w' ⟨rfl, rfl⟩
    go_wp2_with fail
    refine Calls.mono HD.out ?_
    rintro e w1 ⟨rfl, hb⟩
    have HB := hide hb
    clear hb
    go_wp2_with fail
    go_ret
    exact ⟨rfl, HB.out⟩
  · rw [hp]
    clear hp
    have HW := hide hW
    clear hW
    go_enter Tryd.func29, Tryd.ntmps29
    go_wp2_with fail
    refine Calls.mono HC.out ?_
    rintro e w' ⟨rfl, rfl⟩
    go_wp2_with fail
    refine Calls.mono HD.out ?_
    rintro e w1 ⟨rfl, hb⟩
    obtain ⟨hcc, hgl, _⟩ := HW.out w1 hb
    have d4 := hcc 4 _ rfl
    have HB := hide hb
    clear hb hcc
    go_wp2_with fail
    go_ret
    exact ⟨rfl, HB.out⟩
theorem get_no (h : HP H w M ov sv os ss) (hs : M.Small K) (hK : K ≤ 1000) (o : Int) (nm : ByteArray) (hp : M.prop o nm = none) :
    Calls Tryd.prog 24 #[.pointer (some ⟨H, 0, none⟩), .int .i64 o, .string nm] w fun e w' => e = .returned (.tuple #[.agg #[.int .i64 0, .int .i64 0, .string ⟨#[]⟩], .bool false]) ∧ Below w.heap.size w w' := by
  have := get_any h hs hK o nm
  rw [hp] at this
  exact this
theorem get_yes (h : HP H w M ov sv os ss) (hs : M.Small K) (hK : K ≤ 1000) (o : Int) (nm : ByteArray) {p : Pr} (hp : M.prop o nm = some p) :
    Calls Tryd.prog 24 #[.pointer (some ⟨H, 0, none⟩), .int .i64 o, .string nm] w fun e w' => e = .returned (.tuple #[.agg #[.int .i64 3, .int .i64 p.v, .string ⟨#[]⟩], .bool true]) ∧ Below w.heap.size w w' := by
  have := get_any h hs hK o nm
  rw [hp] at this
  exact this
theorem has_any (h : HP H w M ov sv os ss) (hs : M.Small K) (hK : K ≤ 1000) (s : Int) (nm : ByteArray) :
    Calls Tryd.prog 27 #[.pointer (some ⟨H, 0, none⟩), .int .i64 s, .string nm] w fun e w' => e = .returned (.bool (M.has s nm)) ∧ Below w.heap.size w w' := by
  obtain ⟨h0, h1, hf, hf1, hl⟩ := h.c
  obtain ⟨q, r, hA, hO, hr⟩ := lookC h hs hK s nm
  have HC := hide hA
  have HD := hide hO
  have HH := hide h
  have HSM := hide hs
  unfold Mo.has
  clear h hA hO hs
  rcases hr with ⟨rfl, hp⟩ | ⟨i, x, k, c, g, cap, rfl, _, _, _, hp, rfl, _, hW⟩
  · rw [hp]
    clear hp
    obtain ⟨oo, hoo⟩ : ∃ oo, oo = M.objOf s := ⟨_, rfl⟩
    have HO : Hid (∀ w1, Below w.heap.size w w1 → Calls Tryd.prog 35 #[.pointer (some ⟨H, 0, none⟩), .int .i64 s] w1 fun e w' => e = .returned (.int .i64 oo) ∧ w' = w1) := fun w1 hb => by rw [hoo]; exact objOf_any (HH.out.later hb) s
    rw [← hoo]
    clear hoo
    cases hq : M.prop oo nm with
    | none =>
      have HG : Hid (∀ w1, Below w.heap.size w w1 → _) := fun w1 hb => get_no (HH.out.later hb) HSM.out hK oo nm hq
      clear hq
      go_enter Tryd.func27, Tryd.ntmps27
      go_wp2_with fail
      refine Calls.mono HC.out ?_
      rintro e w' ⟨rfl, rfl⟩
      go_wp2_with fail
      refine Calls.mono HD.out ?_
      rintro e w1 ⟨rfl, hb⟩
      have HB := hide hb
      clear hb
      go_wp2_with fail
      refine Calls.mono (HO.out w1 HB.out) ?_
      rintro e w2 ⟨rfl, rfl⟩
      go_wp2_with fail
      refine Calls.mono (HG.out w2 HB.out) ?_
      rintro e w3 ⟨rfl, hb3⟩
      have HB3 := hide (HB.out.trans (hb3.mono HB.out.size))
      clear hb3
      go_wp2_with fail
      go_ret
      exact ⟨rfl, HB3.out.alloc HB3.out.size _⟩
    | some p =>
      have HG : Hid (∀ w1, Below w.heap.size w w1 → _) := fun w1 hb => get_yes (HH.out.later hb) HSM.out hK oo nm hq
      clear hq
      go_enter Tryd.func27, Tryd.ntmps27
      go_wp2_with fail
      refine Calls.mono HC.out ?_
      rintro e w' ⟨rfl, rfl⟩
      go_wp2_with fail
      refine Calls.mono HD.out ?_
      rintro e w1 ⟨rfl, hb⟩
      have HB := hide hb
      clear hb
      go_wp2_with fail
      refine Calls.mono (HO.out w1 HB.out) ?_
      rintro e w2 ⟨rfl, rfl⟩
      go_wp2_with fail
      refine Calls.mono (HG.out w2 HB.out) ?_
      rintro e w3 ⟨rfl, hb3⟩
      have HB3 := hide (HB.out.trans (hb3.mono HB.out.size))
      clear hb3
      go_wp2_with fail
      go_ret
      exact ⟨rfl, HB3.out.alloc HB3.out.size _⟩
  · rw [hp]
    clear hp hW
    go_enter Tryd.func27, Tryd.ntmps27
    go_wp2_with fail
    refine Calls.mono HC.out ?_
    rintro e w' ⟨rfl, rfl⟩
    go_wp2_with fail
    refine Calls.mono HD.out ?_
    rintro e w1 ⟨rfl, hb⟩
    have HB := hide hb
    clear hb
    go_wp2_with fail
    go_ret
    exact ⟨rfl, HB.out⟩
end
end Go.Proofs.YtomogijjkdiomaaDoor
