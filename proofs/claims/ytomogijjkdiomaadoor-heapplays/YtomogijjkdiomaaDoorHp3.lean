/-
  What is read of a heap.
-/
import Derived.Test.YtomogijjkdiomaaDoorHp2
set_option maxRecDepth 100000
set_option maxHeartbeats 16000000
namespace Go.Proofs.YtomogijjkdiomaaDoor
open Go.RowKit

def Mo.ob (M : Mo) (o : Int) : Option Ob := if o < 0 then none else M.objs[o.toNat]?
def Mo.ro (M : Mo) (s : Int) : Option Ro := if s < 0 then none else M.rooms[s.toNat]?
def Mo.prop (M : Mo) (o : Int) (nm : ByteArray) : Option Pr := (M.ob o).bind fun x => x.ps.find? fun p => isN nm p.name
def Mo.cel (M : Mo) (s : Int) (nm : ByteArray) : Option Ce := (M.ro s).bind fun x => x.cs.find? fun c => isN nm c.name
def Mo.objOf (M : Mo) (s : Int) : Int := ((M.ro s).map (·.object)).getD (-1)
def Mo.outOf (M : Mo) (s : Int) : Int := ((M.ro s).map (·.outer)).getD (-1)
def Mo.codeOf (M : Mo) (s : Int) : Int := ((M.ob s).map (·.code)).getD 0
def Mo.has (M : Mo) (s : Int) (nm : ByteArray) : Bool := (M.cel s nm).isSome || (M.prop (M.objOf s) nm).isSome
def Mo.kindOf (M : Mo) (s : Int) (nm : ByteArray) : Int := ((M.cel s nm).map (·.kind)).getD (-1)
/-- How great a heap is at most. -/
structure Mo.Small (M : Mo) (k : Nat) : Prop where
  o : M.objs.length ≤ k
  r : M.rooms.length ≤ k
  ps : ∀ x ∈ M.objs, x.ps.length ≤ k
  cs : ∀ x ∈ M.rooms, x.cs.length ≤ k
def vZ : Obj := .cells #[.int .i64 0, .int .i64 0, .string ⟨#[]⟩] 36
def noVal : Value := .agg #[.int .i64 0, .int .i64 0, .string ⟨#[]⟩]
def valP : Option Pr → Value
  | none => noVal
  | some p => .agg #[.int .i64 3, .int .i64 p.v, .string ⟨#[]⟩]
def hP (H : Nat) : Value := .pointer (some ⟨H, 0, none⟩)
theorem new3 {w w1 : World} {a b c : Value} {t : TypeId} (hb : Below (w.heap.size + 1) (w.alloc (.cells #[a, b, c] t)) w1) :
    w1.cell? ⟨w.heap.size, 0, none⟩ = some a ∧ w1.cell? ⟨w.heap.size, 1, none⟩ = some b ∧ w1.cell? ⟨w.heap.size, 2, none⟩ = some c ∧ (∀ j, w1.frozen? ⟨w.heap.size, j, none⟩ = false) ∧ w.heap.size < w1.heap.size := by
  have h : w1.heap[w.heap.size]? = some (.cells #[a, b, c] t (0, 0)) := (hb.block _ (Nat.lt_succ_self _)).trans (heap_alloc_new w _)
  refine ⟨by simp [World.cell?, h], by simp [World.cell?, h], by simp [World.cell?, h], fun j => by simp [World.frozen?, h], lt_of_block h⟩
theorem below3 {w W2 : World} {B b : Nat} (hb : Below B w W2) (h : B ≤ b) (v0 v1 v2 : Value) : Below B w (((W2.setCell ⟨b, 0, none⟩ v0).setCell ⟨b, 1, none⟩ v1).setCell ⟨b, 2, none⟩ v2) :=
  ((hb.setCell (p := ⟨b, 0, none⟩) h v0).setCell (p := ⟨b, 1, none⟩) h v1).setCell (p := ⟨b, 2, none⟩) h v2
theorem find_of {α : Type} (p : α → Bool) (l : List α) : (l.findIdx? p = none ∧ l.find? p = none) ∨ ∃ k c, l.findIdx? p = some k ∧ l[k]? = some c ∧ l.find? p = some c ∧ p c = true := by
  cases h : l.findIdx? p with
  | none =>
    left
    refine ⟨rfl, ?_⟩
    rw [List.findIdx?_eq_none_iff] at h
    rw [List.find?_eq_none]
    intro x hx
    simp [h x hx]
  | some k =>
    right
    obtain ⟨hk, h1, h2⟩ := List.findIdx?_eq_some_iff_getElem.1 h
    refine ⟨k, l[k], rfl, List.getElem?_eq_getElem hk, ?_, h1⟩
    rw [List.find?_eq_some_iff_getElem]
    exact ⟨h1, k, hk, rfl, fun j hj => by have := h2 j hj; simpa using this⟩

theorem ob_cases (M : Mo) (o : Int) : (M.ob o = none ∧ (o < 0 ∨ (M.objs.length : Int) ≤ o)) ∨ ∃ (i : Nat) (x : Ob), o = i ∧ M.objs[i]? = some x ∧ M.ob o = some x := by
  unfold Mo.ob
  by_cases h : o < 0
  · rw [if_pos h]; exact .inl ⟨rfl, .inl h⟩
  · rw [if_neg h]
    cases hx : M.objs[o.toNat]? with
    | none =>
      left
      refine ⟨rfl, .inr ?_⟩
      have := List.getElem?_eq_none_iff.1 hx
      omega
    | some x => exact .inr ⟨o.toNat, x, by omega, hx, rfl⟩
def cellsP (W : World) (gb k : Nat) (c : Pr) : Prop := (∀ j u, c.h[j]? = some u → W.cell? ⟨gb, k * 5 + j, none⟩ = some u) ∧ gb < W.heap.size ∧ ∀ j, W.frozen? ⟨gb, j, none⟩ = false
theorem atP {B : Nat} {w : World} {v : Value} {bs : List Pr} (hrow : w.ownsRow B 88 5 v bs.length (bs.flatMap Pr.h)) {k : Nat} {b : Pr} (hb : bs[k]? = some b) :
    ∃ g cap, v = .slice (some ⟨g, 0, none⟩) bs.length cap ∧ k < bs.length ∧ cellsP w g k b ∧ B ≤ g := by
  have hk : k < bs.length := (List.getElem?_eq_some_iff.1 hb).1
  rcases row_form hrow with ⟨_, hn⟩ | ⟨g, cap, rfl⟩
  · omega
  · refine ⟨g, cap, rfl, hk, ⟨fun j u hj => ?_, (hrow.lt g rfl).2, hrow.frozenAt⟩, (hrow.lt g rfl).1⟩
    have hj' : j < 5 := (List.getElem?_eq_some_iff.1 hj).1
    rw [hrow.cellAt _ (by omega), fm_get (s := 5) (fun _ => rfl) bs k j hj', hb]
    exact hj
/-- Where a name lies, as the program looks for it. -/
theorem lookP {H : Nat} {w : World} {M : Mo} {ov sv : Value} {os ss : List Value} (h : HP H w M ov sv os ss) {K : Nat} (hs : M.Small K) (hK : K ≤ 1000) (o : Int) (nm : ByteArray) :
    ∃ q r, Calls Tryd.prog 38 #[ov, .int .i64 o] w (fun e w' => e = .returned (.pointer q) ∧ w' = w) ∧ Calls Tryd.prog 41 #[.pointer q, .string nm] w (fun e w' => e = .returned (.pointer r) ∧ Below w.heap.size w w') ∧
      ((r = none ∧ M.prop o nm = none) ∨ ∃ (i : Nat) (x : Ob) (k : Nat) (c : Pr) (g cap : Nat), o = i ∧ M.objs[i]? = some x ∧ fP nm x.ps = some k ∧ x.ps[k]? = some c ∧ M.prop o nm = some c ∧ r = some ⟨g, k * 5, none⟩ ∧ os[i]? = some (.slice (some ⟨g, 0, none⟩) x.ps.length cap) ∧ ∀ W, Below w.heap.size w W → cellsP W g k c) := by
  rcases ob_cases M o with ⟨h0, hout⟩ | ⟨i, x, rfl, hx, h1⟩
  · refine ⟨none, none, at_outP ov _ (row_form h.ob.row) o (by simpa using hout) w, of_noneP nm w, .inl ⟨rfl, by simp [Mo.prop, h0]⟩⟩
  · obtain ⟨g, cap, v, e1, hlt, hv, hc, hrow, hg, hB, hf, _⟩ := h.ob.at_ (i := i) (e := x.h) (by simp [hx])
    have hsm := hs.ps x (List.mem_of_getElem? hx)
    have hc2 : w.cell? ⟨g, i * 2 + 1, none⟩ = some v := hc 1 v rfl
    have hrow' : w.ownsRow H 88 5 v x.ps.length (x.ps.flatMap Pr.h) := hrow
    refine ⟨some ⟨g, i * 2, none⟩, pptr 5 v (fP nm x.ps), ?_, of_anyP g (i * 2) v x.ps H nm w hc2 hrow' (by omega), ?_⟩
    · rw [e1]
      exact at_inP g cap _ i hlt w
    · rcases find_of (fun c => isN nm c.name) x.ps with ⟨f1, f2⟩ | ⟨k, c, f1, f2, f3, _⟩
      · left
        refine ⟨?_, by simp [Mo.prop, h1, f2]⟩
        rw [show fP nm x.ps = none from f1]
        exact pptr_none _ _
      · right
        obtain ⟨gb, capb, rfl, hkl, hcb, hBb⟩ := atP hrow' f2
        refine ⟨i, x, k, c, gb, capb, rfl, hx, f1, f2, by simp [Mo.prop, h1, f3], ?_, hv, fun W hW => ?_⟩
        · rw [show fP nm x.ps = some k from f1]; rfl
        · obtain ⟨g', cap', hv', _, hcc, _⟩ := atP (row_later hrow' hW) f2
          simp only [Value.slice.injEq, Option.some.injEq, Addr.mk.injEq, and_true, true_and] at hv'
          obtain ⟨rfl, rfl⟩ := hv'
          exact hcc

theorem ro_cases (M : Mo) (o : Int) : (M.ro o = none ∧ (o < 0 ∨ (M.rooms.length : Int) ≤ o)) ∨ ∃ (i : Nat) (x : Ro), o = i ∧ M.rooms[i]? = some x ∧ M.ro o = some x := by
  unfold Mo.ro
  by_cases h : o < 0
  · rw [if_pos h]; exact .inl ⟨rfl, .inl h⟩
  · rw [if_neg h]
    cases hx : M.rooms[o.toNat]? with
    | none =>
      left
      refine ⟨rfl, .inr ?_⟩
      have := List.getElem?_eq_none_iff.1 hx
      omega
    | some x => exact .inr ⟨o.toNat, x, by omega, hx, rfl⟩
def cellsC (W : World) (gb k : Nat) (c : Ce) : Prop := (∀ j u, c.h[j]? = some u → W.cell? ⟨gb, k * 6 + j, none⟩ = some u) ∧ gb < W.heap.size ∧ ∀ j, W.frozen? ⟨gb, j, none⟩ = false
theorem atC {B : Nat} {w : World} {v : Value} {bs : List Ce} (hrow : w.ownsRow B 98 6 v bs.length (bs.flatMap Ce.h)) {k : Nat} {b : Ce} (hb : bs[k]? = some b) :
    ∃ g cap, v = .slice (some ⟨g, 0, none⟩) bs.length cap ∧ k < bs.length ∧ cellsC w g k b ∧ B ≤ g := by
  have hk : k < bs.length := (List.getElem?_eq_some_iff.1 hb).1
  rcases row_form hrow with ⟨_, hn⟩ | ⟨g, cap, rfl⟩
  · omega
  · refine ⟨g, cap, rfl, hk, ⟨fun j u hj => ?_, (hrow.lt g rfl).2, hrow.frozenAt⟩, (hrow.lt g rfl).1⟩
    have hj' : j < 6 := (List.getElem?_eq_some_iff.1 hj).1
    rw [hrow.cellAt _ (by omega), fm_get (s := 6) (fun _ => rfl) bs k j hj', hb]
    exact hj
/-- Where a name lies, as the program looks for it. -/
theorem lookC {H : Nat} {w : World} {M : Mo} {ov sv : Value} {os ss : List Value} (h : HP H w M ov sv os ss) {K : Nat} (hs : M.Small K) (hK : K ≤ 1000) (o : Int) (nm : ByteArray) :
    ∃ q r, Calls Tryd.prog 37 #[sv, .int .i64 o] w (fun e w' => e = .returned (.pointer q) ∧ w' = w) ∧ Calls Tryd.prog 45 #[.pointer q, .string nm] w (fun e w' => e = .returned (.pointer r) ∧ Below w.heap.size w w') ∧
      ((r = none ∧ M.cel o nm = none) ∨ ∃ (i : Nat) (x : Ro) (k : Nat) (c : Ce) (g cap : Nat), o = i ∧ M.rooms[i]? = some x ∧ fC nm x.cs = some k ∧ x.cs[k]? = some c ∧ M.cel o nm = some c ∧ r = some ⟨g, k * 6, none⟩ ∧ ss[i]? = some (.slice (some ⟨g, 0, none⟩) x.cs.length cap) ∧ ∀ W, Below w.heap.size w W → cellsC W g k c) := by
  rcases ro_cases M o with ⟨h0, hout⟩ | ⟨i, x, rfl, hx, h1⟩
  · refine ⟨none, none, at_outC sv _ (row_form h.ro.row) o (by simpa using hout) w, of_noneC nm w, .inl ⟨rfl, by simp [Mo.cel, h0]⟩⟩
  · obtain ⟨g, cap, v, e1, hlt, hv, hc, hrow, hg, hB, hf, _⟩ := h.ro.at_ (i := i) (e := x.h) (by simp [hx])
    have hsm := hs.cs x (List.mem_of_getElem? hx)
    have hc2 : w.cell? ⟨g, i * 3 + 2, none⟩ = some v := hc 2 v rfl
    have hrow' : w.ownsRow H 98 6 v x.cs.length (x.cs.flatMap Ce.h) := hrow
    refine ⟨some ⟨g, i * 3, none⟩, pptr 6 v (fC nm x.cs), ?_, of_anyC g (i * 3) v x.cs H nm w hc2 hrow' (by omega), ?_⟩
    · rw [e1]
      exact at_inC g cap _ i hlt w
    · rcases find_of (fun c => isN nm c.name) x.cs with ⟨f1, f2⟩ | ⟨k, c, f1, f2, f3, _⟩
      · left
        refine ⟨?_, by simp [Mo.cel, h1, f2]⟩
        rw [show fC nm x.cs = none from f1]
        exact pptr_none _ _
      · right
        obtain ⟨gb, capb, rfl, hkl, hcb, hBb⟩ := atC hrow' f2
        refine ⟨i, x, k, c, gb, capb, rfl, hx, f1, f2, by simp [Mo.cel, h1, f3], ?_, hv, fun W hW => ?_⟩
        · rw [show fC nm x.cs = some k from f1]; rfl
        · obtain ⟨g', cap', hv', _, hcc, _⟩ := atC (row_later hrow' hW) f2
          simp only [Value.slice.injEq, Option.some.injEq, Addr.mk.injEq, and_true, true_and] at hv'
          obtain ⟨rfl, rfl⟩ := hv'
          exact hcc
end Go.Proofs.YtomogijjkdiomaaDoor
