/-
  What early asks of a node: strict code, functions, parameters, names; the function literals of wrongScope, wrongFunction, wrongBranch.
-/
import Derived.Test.YtodmgaikhbmlnaaGreatDoorEm28
import Derived.Test.YtodmgaikhbmlnaaGreatDoorEm29
set_option maxRecDepth 100000
set_option maxHeartbeats 16000000
namespace Go.Proofs.YtodmgaikhbmlnaaGreatDoor
open Go.RowKit

theorem cell_lt {w : World} {b o : Nat} {v : Value} (h : w.cell? ⟨b, o, none⟩ = some v) : b < w.heap.size := by
  rcases Nat.lt_or_ge b w.heap.size with h1 | h1
  · exact h1
  · have h2 : w.heap[b]? = none := Array.getElem?_eq_none h1
    simp [World.cell?, h2] at h
theorem keepC {w X : World} {b o : Nat} {v : Value} (hb : Below w.heap.size w X) (h : w.cell? ⟨b, o, none⟩ = some v) : X.cell? ⟨b, o, none⟩ = some v :=
  (World.cell?_of_block (w := w) (a := ⟨b, o, none⟩) (hb.block b (cell_lt h))).trans h

abbrev tEval : ByteArray := ⟨#[101, 118, 97, 108]⟩
abbrev tArgs : ByteArray := ⟨#[97, 114, 103, 117, 109, 101, 110, 116, 115]⟩
def erV : Option Int → Value
  | none => .nilIface
  | some e => .iface 23 (.int .i64 e)
abbrev plV (s i b : Bool) : Value := .agg #[.bool s, .bool i, .bool b]
def isSp (x : ByteArray) : Bool := decide (x = tEval) || decide (x = tArgs)
def nmE (s : Bool) (x : ByteArray) : Option Int := if s && isSp x then some 5 else none
def strictT (t : Tr) : Bool := (t.kd == 1 || t.kd == 6) && decide (t.tx = tStrict)

theorem wrongName_any (s i b : Bool) (x : ByteArray) (w : World) : Calls Tryz.prog 205 #[.string x, plV s i b] w fun e w' => e = .returned (erV (nmE s x)) ∧ Below w.heap.size w w' := by
  unfold nmE isSp
  have HB := hide ((Below.refl w.heap.size w).alloc (Nat.le_refl _) (.cells #[.bool s, .bool i, .bool b] 112))
  cases s with
  | false =>
    go_enter Tryz.func205, Tryz.ntmps205
    go_wp2_with fail
    go_ret
    exact ⟨rfl, unhide HB⟩
  | true =>
    by_cases h1 : x = tEval
    · have e1 := tl_eqL (b := tEval) rfl h1
      rw [decide_eq_true h1]
      clear h1
      go_enter Tryz.func205, Tryz.ntmps205
      go_wp2_with fail
      go_ret
      exact ⟨rfl, unhide HB⟩
    · have e1 := tl_neL (b := tEval) rfl h1
      rw [decide_eq_false h1]
      clear h1
      by_cases h2 : x = tArgs
      · have e2 := tl_eqL (b := tArgs) rfl h2
        rw [decide_eq_true h2]
        clear h2
        go_enter Tryz.func205, Tryz.ntmps205
        go_wp2_with fail
        go_ret
        exact ⟨rfl, unhide HB⟩
      · have e2 := tl_neL (b := tArgs) rfl h2
        rw [decide_eq_false h2]
        clear h2
        go_enter Tryz.func205, Tryz.ntmps205
        go_wp2_with fail
        go_ret
        exact ⟨rfl, unhide HB⟩

theorem strictE_any (t : Tr) (p : Nat) (w : World) (h : NTr w t p) : Calls Tryz.prog 18 #[nPtr p] w fun e w' => e = .returned (.bool (strictT t)) ∧ w' = w := by
  obtain ⟨hpl, c0, c1, _⟩ := h.cells
  clear h
  unfold strictT
  generalize t.kd = kd at c0
  generalize t.tx = tx at c1
  by_cases h2 : tx = tStrict
  · have e2 := tl_eqL (b := tStrict) rfl h2
    rw [decide_eq_true h2]
    clear h2
    cases h1 : (kd == 1) <;> cases h6 : (kd == 6) <;>
    · go_enter Tryz.func18, Tryz.ntmps18
      go_wp2_with fail
      go_ret
      exact ⟨rfl, rfl⟩
  · have e2 := tl_neL (b := tStrict) rfl h2
    rw [decide_eq_false h2]
    clear h2
    cases h1 : (kd == 1) <;> cases h6 : (kd == 6) <;>
    · go_enter Tryz.func18, Tryz.ntmps18
      go_wp2_with fail
      go_ret
      exact ⟨rfl, rfl⟩

theorem isFunE_any (t : Tr) (p : Nat) (w : World) (h : NTr w t p) : Calls Tryz.prog 141 #[nPtr p] w fun e w' => e = .returned (.bool (isFunT t)) ∧ w' = w := by
  obtain ⟨hpl, c0, _, _⟩ := h.cells
  clear h
  unfold isFunT
  generalize t.kd = kd at c0
  cases h3 : (kd == 5)
  · go_enter Tryz.func141, Tryz.ntmps141
    go_wp2_with fail
    go_ret
    exact ⟨rfl, rfl⟩
  · go_enter Tryz.func141, Tryz.ntmps141
    go_wp2_with fail
    go_ret
    exact ⟨rfl, rfl⟩

def kidT (t : Tr) (k : Nat) : Tr := t.kids.getD k t
theorem kidT_eq (t : Tr) (k : Nat) (h : k < t.kids.length) : kidT t k = t.kids[k] := by simp [kidT, List.getD, h]

theorem blockE_any (t : Tr) (p : Nat) (w : World) (h : NTr w t p) (hk : 2 ≤ t.kids.length) (hl : t.kids.length ≤ 90000) : Calls Tryz.prog 142 #[nPtr p] w fun e w' => (∃ q, e = .returned (nPtr q) ∧ NTr w (kidT t 1) q) ∧ w' = w := by
  obtain ⟨hpl, _, _, u, c3, hr⟩ := h.cells
  obtain ⟨g, cap, q, rfl, hg, hc, hn⟩ := hr.cell 1 (by omega)
  rw [← kidT_eq t 1 (by omega)] at hn
  have HN := hide hn
  clear hr h hn
  generalize hL : t.kids.length = L at c3 hk hl
  clear hL
  go_enter Tryz.func142, Tryz.ntmps142
  go_wp2_with fail
  go_ret
  exact ⟨⟨q, rfl, unhide HN⟩, rfl⟩

theorem paramsE_any (t : Tr) (p : Nat) (w : World) (h : NTr w t p) (hk : 1 ≤ t.kids.length) (hl : t.kids.length ≤ 90000) : Calls Tryz.prog 250 #[nPtr p] w fun e w' => (∃ u, e = .returned u ∧ NRow 0 w u (kidT t 0).kids) ∧ w' = w := by
  obtain ⟨hpl, _, _, u, c3, hr⟩ := h.cells
  obtain ⟨g, cap, q, rfl, hg, hc, hn⟩ := hr.cell 0 (by omega)
  rw [← kidT_eq t 0 (by omega)] at hn
  obtain ⟨hql, _, _, u2, d3, hr2⟩ := hn.cells
  obtain ⟨a2, c2, rfl⟩ := hr2.form
  have HR := hide hr2
  clear hr h hn hr2
  generalize hL : t.kids.length = L at c3 hk hl
  clear hL
  go_enter Tryz.func250, Tryz.ntmps250
  go_wp2_with fail
  go_ret
  exact ⟨⟨_, rfl, unhide HR⟩, rfl⟩

def declK (t : Tr) : Bool := t.kd == 3 || t.kd == 4 || t.kd == 5
theorem en252 : ∀ args W, (callFunc 252 args).run Tryz.prog W = .ok (.enter 252 args) W := fun _ _ => by kernel_rfl
theorem en245 : ∀ args W, (callFunc 245 args).run Tryz.prog W = .ok (.enter 245 args) W := fun _ _ => by kernel_rfl
theorem en246 : ∀ args W, (callFunc 246 args).run Tryz.prog W = .ok (.enter 246 args) W := fun _ _ => by kernel_rfl
theorem enE251 : ∀ args W, (callFunc 251 args).run Tryz.prog W = .ok (.enter 251 args) W := fun _ _ => by kernel_rfl

theorem branch1_any (t : Tr) (p : Nat) (w : World) (h : NTr w t p) : Calls Tryz.prog 252 #[nPtr p] w fun e w' => e = .returned (.bool (declK t)) ∧ Below w.heap.size w w' := by
  obtain ⟨hpl, c0, _, _⟩ := h.cells
  clear h
  unfold declK
  generalize t.kd = kd at c0
  cases h3 : (kd == 3) <;> cases h4 : (kd == 4) <;>
  · go_enter Tryz.func252, Tryz.ntmps252
    go_wp2_with fail
    go_ret
    exact ⟨rfl, Below.refl _ _⟩

theorem scope1_any (t : Tr) (p b : Nat) (l : List ByteArray) (va : Option Addr) (vc : Nat) (w : World) {B : Nat} (h : NTr w t p) (hb : w.cell? ⟨b, 0, none⟩ = some (.slice va l.length vc)) (hr : SRow B w (.slice va l.length vc) l) (hl : l.length ≤ 90000) :
    Calls Tryz.prog 245 #[nPtr p, .pointer (some ⟨b, 0, none⟩)] w fun e w' => e = .returned (.bool (hasB l t.tx)) ∧ Below w.heap.size w w' := by
  obtain ⟨hpl, _, c1, _⟩ := h.cells
  have HC := hide (contains_any l t.tx _ w.drew hr (by omega))
  clear h hr
  generalize t.tx = tx at c1 HC
  have hbl := cell_lt hb
  go_enter Tryz.func245, Tryz.ntmps245
  go_wp2_with fail
  refine wp_region_held (S := fun X => X = w.drew) (by kernel_rfl) ?_
  change wpAnyH _ _ _ _ _ _ _ _ (World.drew _)
  refine wh 0 (.slice va l.length vc) rfl ?_ (hy := Or.inl ⟨by kernel_rfl, fun X hX => by cases hX; go_simp⟩)
  refine wh 1 (nPtr p) rfl ?_
  refine wh 2 (nPtr p) rfl ?_
  refine wh 3 (.pointer (some ⟨p, 1, none⟩)) rfl ?_
  refine wh 4 (.string tx) rfl ?_ (hy := Or.inl ⟨by kernel_rfl, fun X hX => by cases hX; go_simp⟩)
  refine wq1 5 fun K hK => ?_
  go_simp
  refine Calls.mono HC.out ?_
  rintro e w2 ⟨rfl, rfl⟩
  refine hK.out _ _ rfl (fun _ => ?_)
  clear hK K HC
  refine wh 6 (.bool (hasB l tx)) rfl ?_
  refine wpAnyH_done (by kernel_rfl) ?_ _
  go_simp
  go_wp2_with fail
  go_ret
  exact ⟨rfl, (Below.refl _ _).drew⟩

theorem scope2_any (t : Tr) (p b : Nat) (ts : List Tr) (va : Option Addr) (vc : Nat) (w : World) {B : Nat} (h : NTr w t p) (hb : w.cell? ⟨b, 0, none⟩ = some (.slice va ts.length vc)) (hr : NRow B w (.slice va ts.length vc) ts) (hl : ts.length ≤ 90000) :
    Calls Tryz.prog 246 #[nPtr p, .pointer (some ⟨b, 0, none⟩)] w fun e w' => e = .returned (.bool (namedB ts t.tx)) ∧ Below w.heap.size w w' := by
  obtain ⟨hpl, _, c1, _⟩ := h.cells
  have HC := hide (named_any ts _ t.tx w.drew (hr.later (Below.refl _ _).drew) hl)
  clear h hr
  generalize t.tx = tx at c1 HC
  have hbl := cell_lt hb
  have hS0 : Below w.heap.size w w.drew := (Below.refl _ _).drew
  go_enter Tryz.func246, Tryz.ntmps246
  go_wp2_with fail
  refine wp_region_held (S := fun X => Below w.heap.size w X) (by kernel_rfl) ?_
  change wpAnyH _ _ _ _ _ _ _ _ (World.drew _)
  refine wh 0 (.slice va ts.length vc) hS0 ?_ (hy := Or.inl ⟨by kernel_rfl, fun X hX => by have hh := keepC hX hb; go_simp⟩)
  refine wh 1 (nPtr p) hS0 ?_
  refine wh 2 (nPtr p) hS0 ?_
  refine wh 3 (.pointer (some ⟨p, 1, none⟩)) hS0 ?_
  refine wh 4 (.string tx) hS0 ?_ (hy := Or.inl ⟨by kernel_rfl, fun X hX => by have hh := keepC hX c1; go_simp⟩)
  refine wq1 5 fun K hK => ?_
  go_simp
  refine Calls.mono HC.out ?_
  rintro e w2 ⟨rfl, hb2⟩
  have hS2 : Below w.heap.size w w2 := hS0.trans (hb2.mono (Nat.le_refl _))
  refine hK.out _ _ hS2 (fun _ => ?_)
  clear hK K HC
  refine wh 6 (.bool (namedB ts tx)) hS2 ?_
  refine wpAnyH_done (by kernel_rfl) ?_ _
  go_simp
  have HS2 := hide hS2
  clear hS2 hS0 hb2
  go_wp2_with fail
  go_ret
  exact ⟨rfl, unhide HS2⟩

theorem func1_any (t f : Tr) (p b q : Nat) (w : World) (h : NTr w t p) (hb : w.cell? ⟨b, 0, none⟩ = some (nPtr q)) (hf : NTr w f q) (hk : 1 ≤ f.kids.length) (hkl : f.kids.length ≤ 90000) (hl : (kidT f 0).kids.length ≤ 90000) :
    Calls Tryz.prog 251 #[nPtr p, .pointer (some ⟨b, 0, none⟩)] w fun e w' => e = .returned (.bool (namedB (kidT f 0).kids t.tx)) ∧ Below w.heap.size w w' := by
  obtain ⟨hpl, _, c1, _⟩ := h.cells
  have hS0 : Below w.heap.size w w.drew := (Below.refl _ _).drew
  have HP := hide (paramsE_any f q w.drew (hf.later hS0) hk hkl)
  clear h hf
  generalize t.tx = tx at c1
  have hbl := cell_lt hb
  go_enter Tryz.func251, Tryz.ntmps251
  go_wp2_with fail
  refine wp_region_held (S := fun X => Below w.heap.size w X) (by kernel_rfl) ?_
  change wpAnyH _ _ _ _ _ _ _ _ (World.drew _)
  refine wh 0 (nPtr q) hS0 ?_ (hy := Or.inl ⟨by kernel_rfl, fun X hX => by have hh := keepC hX hb; go_simp⟩)
  refine wh 2 (nPtr p) hS0 ?_
  refine wh 3 (nPtr p) hS0 ?_
  refine wh 4 (.pointer (some ⟨p, 1, none⟩)) hS0 ?_
  refine wh 5 (.string tx) hS0 ?_ (hy := Or.inl ⟨by kernel_rfl, fun X hX => by have hh := keepC hX c1; go_simp⟩)
  refine wq1 1 fun K hK => ?_
  go_simp
  refine Calls.mono HP.out ?_
  rintro e w2 ⟨⟨u, rfl, hr⟩, rfl⟩
  obtain ⟨va, vc, rfl⟩ := hr.form
  refine hK.out _ _ hS0 (fun _ => ?_)
  clear hK K HP
  have HC := hide (named_any (kidT f 0).kids _ tx w.drew hr hl)
  clear hr
  refine wq1 6 fun K hK => ?_
  go_simp
  refine Calls.mono HC.out ?_
  rintro e w3 ⟨rfl, hb3⟩
  have hS2 : Below w.heap.size w w3 := hS0.trans (hb3.mono (Nat.le_refl _))
  refine hK.out _ _ hS2 (fun _ => ?_)
  clear hK K HC
  refine wh 7 (.bool (namedB (kidT f 0).kids tx)) hS2 ?_
  refine wpAnyH_done (by kernel_rfl) ?_ _
  go_simp
  have HS2 := hide hS2
  clear hS2 hS0 hb3
  go_wp2_with fail
  go_ret
  exact ⟨rfl, unhide HS2⟩
end Go.Proofs.YtodmgaikhbmlnaaGreatDoor
