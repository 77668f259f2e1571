/-
  Short words for the steps of a region.
-/
import Derived.Test.YtopehplicnppfaaDoorProg
import Derived.WalkKit
import Derived.WalkSpells
import Derived.WalkLawsBesides
import Derived.OneCell
import Derived.RegionTactic
import Derived.Deep.RegionHeld
import Derived.Laws.OwnMore
set_option maxRecDepth 100000
set_option maxHeartbeats 16000000
namespace Go.Proofs.YtopehplicnppfaaDoor
open Go.RowKit

theorem hide {p : Prop} (h : p) : Hid p := h
theorem ret_bool {a b : Bool} (h : a = b) : Ending.returned (.bool a) = .returned (.bool b) := by rw [h]
section
variable {P : Program} {md : Region.Mode} {ops : Array Oper} {Q : Exit → Act → World → Prop} {S : World → Prop} {fuel : Nat} {listed : Array Bool} {a : Act} {w : World}

theorem wt {oi : Oper} (i : Nat) (v : Value)
    (h : wpAny P md ops Q fuel (listed.setIfInBounds i true) (a.put oi.dst v) w) (hi : ops[i]? = some oi := by rfl)
    (hs : Region.noSelect ops = true := by kernel_rfl) (hf : Region.free md ops listed i = true := by kernel_rfl) (hr : (Region.ready md ops listed).contains i = true := by kernel_rfl)
    (hQ : ∀ c a w, Q (.panic c) (a.put oi.dst v) w → Q (.panic c) a w := by exact fun _ _ _ h => h) (hy : Yields P ops oi v a := by exact Or.inl ⟨by kernel_rfl, fun w => by go_simp⟩) : wpAny P md ops Q (fuel + 1) listed a w :=
  wpAny_take hi hs hf hr hQ hy h
theorem wg {oi : Oper} (i : Nat) (v : Value) (hi : ops[i]? = some oi) (hy : YieldsIf P ops S oi v a) (hS : S w)
    (h : wpAnyH P md ops Q S fuel (listed.setIfInBounds i true) (a.put oi.dst v) w)
    (hs : Region.noSelect ops = true := by kernel_rfl) (hf : Region.free md ops listed i = true := by kernel_rfl) (hr : (Region.ready md ops listed).contains i = true := by kernel_rfl)
    (hQ : ∀ c a w, Q (.panic c) (a.put oi.dst v) w → Q (.panic c) a w := by exact fun _ _ _ h => h) : wpAnyH P md ops Q S (fuel + 1) listed a w :=
  wpAnyH_take hi hs hf hr hQ hy hS h
theorem wh {oi : Oper} (i : Nat) (v : Value) (hS : S w)
    (h : wpAnyH P md ops Q S fuel (listed.setIfInBounds i true) (a.put oi.dst v) w) (hi : ops[i]? = some oi := by rfl)
    (hs : Region.noSelect ops = true := by kernel_rfl) (hf : Region.free md ops listed i = true := by kernel_rfl) (hr : (Region.ready md ops listed).contains i = true := by kernel_rfl)
    (hQ : ∀ c a w, Q (.panic c) (a.put oi.dst v) w → Q (.panic c) a w := by exact fun _ _ _ h => h) (hy : YieldsIf P ops S oi v a := by exact Or.inl ⟨by kernel_rfl, fun _ _ => by go_simp⟩) : wpAnyH P md ops Q S (fuel + 1) listed a w :=
  wpAnyH_take hi hs hf hr hQ hy hS h
theorem wr1 {o : Oper} (i : Nat)
    (h : ∀ K' : Act → World → Prop, (∀ a w, wpAny P md ops Q fuel (listed.setIfInBounds i true) a w → K' a w) → if Region.wanted o (yielded ops a.tmps) = true then Oper.wp P o a w K' Q else K' (a.put o.dst undef) w)
    (ho : ops[i]? = some o := by rfl) (hr : Region.ready md ops listed = [i] := by kernel_rfl) : wpAny P md ops Q (fuel + 1) listed a w :=
  wpAny_ready hr (by simp) (AllReady.cons ho h AllReady.nil)
theorem wr2 {o o' : Oper} (i j : Nat)
    (h : ∀ K' : Act → World → Prop, (∀ a w, wpAny P md ops Q fuel (listed.setIfInBounds i true) a w → K' a w) → if Region.wanted o (yielded ops a.tmps) = true then Oper.wp P o a w K' Q else K' (a.put o.dst undef) w)
    (h' : ∀ K' : Act → World → Prop, (∀ a w, wpAny P md ops Q fuel (listed.setIfInBounds j true) a w → K' a w) → if Region.wanted o' (yielded ops a.tmps) = true then Oper.wp P o' a w K' Q else K' (a.put o'.dst undef) w)
    (ho : ops[i]? = some o := by rfl) (ho' : ops[j]? = some o' := by rfl) (hr : Region.ready md ops listed = [i, j] := by kernel_rfl) : wpAny P md ops Q (fuel + 1) listed a w :=
  wpAny_ready hr (by simp) (AllReady.cons ho h (AllReady.cons ho' h' AllReady.nil))
theorem wq1 {o : Oper} (i : Nat)
    (h : ∀ K' : Act → World → Prop, Shut (∀ a w, S w → (S w → wpAnyH P md ops Q S fuel (listed.setIfInBounds i true) a w) → K' a w) → if Region.wanted o (yielded ops a.tmps) = true then Oper.wp P o a w K' Q else K' (a.put o.dst undef) w)
    (ho : ops[i]? = some o := by rfl) (hr : Region.ready md ops listed = [i] := by kernel_rfl) : wpAnyH P md ops Q S (fuel + 1) listed a w :=
  wpAnyH_ready hr (by simp) (AllReadyH.cons ho h AllReadyH.nil)
theorem via2 {H G : World → Nat → Prop} {goal : Prop} (h1 : (∀ wc pc, H wc pc → G wc pc) → goal) (h2 : ∀ wc pc, H wc pc → G wc pc) : goal := h1 h2
theorem wpAny_same {listed' : Array Bool} {a' : Act} (h1 : listed = listed') (h2 : a = a') (h : wpAny P md ops Q fuel listed' a' w) : wpAny P md ops Q fuel listed a w := by
  subst h1 h2
  exact h
end

theorem of_any (n : Int) (w : World) : Calls Tryd.prog 6 #[.int .i64 n] w fun e w' => e = .returned (.agg #[.int .i64 3, .int .i64 n, .string ⟨#[]⟩]) ∧ Below w.heap.size w w' := by
  go_enter Tryd.func6, Tryd.ntmps6
  go_wp2
  exact bodyPost_ret (v := .agg #[.int .i64 3, .int .i64 n, .string ⟨#[]⟩]) (by simp [results, Tryd.results6, go_sem]) rfl ⟨rfl, (Below.refl _ _).alloc (Nat.le_refl _) _⟩
theorem say_any (s : ByteArray) (w : World) : Calls Tryd.prog 10 #[.string s] w fun e w' => e = .returned (.agg #[.int .i64 4, .int .i64 0, .string s]) ∧ Below w.heap.size w w' := by
  go_enter Tryd.func10, Tryd.ntmps10
  go_wp2
  exact bodyPost_ret (v := .agg #[.int .i64 4, .int .i64 0, .string s]) (by simp [results, Tryd.results10, go_sem]) rfl ⟨rfl, (Below.refl _ _).alloc (Nat.le_refl _) _⟩

section
variable (w : World)
set_option maxRecDepth 100000
set_option maxHeartbeats 400000
theorem true_num (n : Int) (s : ByteArray) : Calls Tryd.prog 7 #[.agg #[.int .i64 3, .int .i64 n, .string s]] w fun e w' => e = .returned (.bool (n != 0)) ∧ Below w.heap.size w w' := by
  go_enter Tryd.func7, Tryd.ntmps7
  go_wp2_with fail
  all_goals go_ret
  exact ⟨rfl, (Below.refl _ _).alloc (Nat.le_refl _) _⟩
theorem true_bool (n : Int) (s : ByteArray) : Calls Tryd.prog 7 #[.agg #[.int .i64 2, .int .i64 n, .string s]] w fun e w' => e = .returned (.bool (n != 0)) ∧ Below w.heap.size w w' := by
  go_enter Tryd.func7, Tryd.ntmps7
  go_wp2_with fail
  all_goals go_ret
  exact ⟨rfl, (Below.refl _ _).alloc (Nat.le_refl _) _⟩
theorem true_text (n : Int) (s : ByteArray) : Calls Tryd.prog 7 #[.agg #[.int .i64 4, .int .i64 n, .string s]] w fun e w' => e = .returned (.bool (!s.toList.isEmpty)) ∧ Below w.heap.size w w' := by
  go_enter Tryd.func7, Tryd.ntmps7
  go_wp2_with fail
  all_goals go_ret
  exact ⟨rfl, (Below.refl _ _).alloc (Nat.le_refl _) _⟩
theorem true_undef (n : Int) (s : ByteArray) : Calls Tryd.prog 7 #[.agg #[.int .i64 0, .int .i64 n, .string s]] w fun e w' => e = .returned (.bool false) ∧ Below w.heap.size w w' := by
  go_enter Tryd.func7, Tryd.ntmps7
  go_wp2_with fail
  all_goals go_ret
  exact ⟨rfl, (Below.refl _ _).alloc (Nat.le_refl _) _⟩
theorem true_null (n : Int) (s : ByteArray) : Calls Tryd.prog 7 #[.agg #[.int .i64 1, .int .i64 n, .string s]] w fun e w' => e = .returned (.bool false) ∧ Below w.heap.size w w' := by
  go_enter Tryd.func7, Tryd.ntmps7
  go_wp2_with fail
  all_goals go_ret
  exact ⟨rfl, (Below.refl _ _).alloc (Nat.le_refl _) _⟩
theorem true_ref (n : Int) (s : ByteArray) : Calls Tryd.prog 7 #[.agg #[.int .i64 5, .int .i64 n, .string s]] w fun e w' => e = .returned (.bool true) ∧ Below w.heap.size w w' := by
  go_enter Tryd.func7, Tryd.ntmps7
  go_wp2_with fail
  all_goals go_ret
  exact ⟨rfl, (Below.refl _ _).alloc (Nat.le_refl _) _⟩
theorem is_true : Calls Tryd.prog 11 #[.bool true] w fun e w' => e = .returned (.agg #[.int .i64 2, .int .i64 1, .string ⟨#[]⟩]) ∧ Below w.heap.size w w' := by
  go_enter Tryd.func11, Tryd.ntmps11
  go_wp2_with fail
  exact bodyPost_ret (v := .agg #[.int .i64 2, .int .i64 1, .string ⟨#[]⟩]) (by simp [results, Tryd.results11, go_sem]) rfl ⟨rfl, (Below.refl _ _).alloc (Nat.le_refl _) _⟩
theorem is_false : Calls Tryd.prog 11 #[.bool false] w fun e w' => e = .returned (.agg #[.int .i64 2, .int .i64 0, .string ⟨#[]⟩]) ∧ Below w.heap.size w w' := by
  go_enter Tryd.func11, Tryd.ntmps11
  go_wp2_with fail
  exact bodyPost_ret (v := .agg #[.int .i64 2, .int .i64 0, .string ⟨#[]⟩]) (by simp [results, Tryd.results11, go_sem]) rfl ⟨rfl, (Below.refl _ _).alloc (Nat.le_refl _) _⟩
def boolT (b : Bool) : ByteArray := if b then ⟨#[116, 114, 117, 101]⟩ else ⟨#[102, 97, 108, 115, 101]⟩
theorem formatBool (b : Bool) : Calls Tryd.prog 19 #[.bool b] w fun e w' => e = .returned (.string (boolT b)) ∧ Below w.heap.size w w' := by
  cases b
  all_goals
    go_enter Tryd.func19, Tryd.ntmps19
    go_wp2
    go_ret
    exact ⟨rfl, Below.refl _ _⟩
variable (H : Nat)
theorem show_undef (n : Int) (s : ByteArray) : Calls Tryd.prog 8 #[.pointer (some ⟨H, 0, none⟩), .agg #[.int .i64 0, .int .i64 n, .string s]] w fun e w' => e = .returned (.string ⟨#[117, 110, 100, 101, 102, 105, 110, 101, 100]⟩) ∧ Below w.heap.size w w' := by
  go_enter Tryd.func8, Tryd.ntmps8
  go_wp2_with fail
  all_goals go_ret
  exact ⟨rfl, (Below.refl _ _).alloc (Nat.le_refl _) _⟩
theorem show_null (n : Int) (s : ByteArray) : Calls Tryd.prog 8 #[.pointer (some ⟨H, 0, none⟩), .agg #[.int .i64 1, .int .i64 n, .string s]] w fun e w' => e = .returned (.string ⟨#[110, 117, 108, 108]⟩) ∧ Below w.heap.size w w' := by
  go_enter Tryd.func8, Tryd.ntmps8
  go_wp2_with fail
  all_goals go_ret
  exact ⟨rfl, (Below.refl _ _).alloc (Nat.le_refl _) _⟩
theorem show_text (n : Int) (s : ByteArray) : Calls Tryd.prog 8 #[.pointer (some ⟨H, 0, none⟩), .agg #[.int .i64 4, .int .i64 n, .string s]] w fun e w' => e = .returned (.string s) ∧ Below w.heap.size w w' := by
  go_enter Tryd.func8, Tryd.ntmps8
  go_wp2_with fail
  all_goals go_ret
  exact ⟨rfl, (Below.refl _ _).alloc (Nat.le_refl _) _⟩
theorem show_bool (b : Bool) (s : ByteArray) : Calls Tryd.prog 8 #[.pointer (some ⟨H, 0, none⟩), .agg #[.int .i64 2, .int .i64 (if b then 1 else 0), .string s]] w fun e w' => e = .returned (.string (boolT b)) ∧ Below w.heap.size w w' := by
  obtain ⟨n, hn, hn'⟩ : ∃ n : Int, n = (if b then 1 else 0) ∧ (n != 0) = b := by cases b <;> simp
  rw [← hn]
  clear hn
  have HT := hide (fun W => true_bool W n s)
  rw [hn'] at HT
  have HF := hide (fun W => formatBool W b)
  clear hn'
  go_enter Tryd.func8, Tryd.ntmps8
  go_wp2_with fail
  refine Calls.mono (HT.out _) ?_
  rintro e w1 ⟨rfl, h1⟩
  have HB := hide h1
  clear h1
  go_wp2_with fail
  refine Calls.mono (HF.out _) ?_
  rintro e w2 ⟨rfl, h2⟩
  have HB2 := hide (HB.out.trans (h2.mono HB.out.size))
  clear h2
  go_wp2_with fail
  go_ret
  exact ⟨rfl, ((Below.refl _ _).alloc (Nat.le_refl _) _).trans (HB2.out.mono (by simp))⟩
end

/-- A binding. -/
structure Bd where
  name : ByteArray
  vk : Int
  vn : Int
  vs : ByteArray
  kind : Int
  ready : Bool
def Bd.cells (b : Bd) : List Value := [.string b.name, .int .i64 b.vk, .int .i64 b.vn, .string b.vs, .int .i64 b.kind, .bool b.ready]
def rowB (bs : List Bd) : List Value := bs.flatMap Bd.cells
theorem rowB_get : ∀ (bs : List Bd) (k j : Nat), j < 6 → (rowB bs)[k * 6 + j]? = (bs[k]?).bind fun b => b.cells[j]?
  | [], k, j, _ => by simp [rowB]
  | b :: bs, 0, j, hj => by
    have : j < b.cells.length := hj
    simp [rowB, List.getElem?_append_left this]
  | b :: bs, k + 1, j, hj => by
    have h := rowB_get bs k j hj
    have e : (k + 1) * 6 + j = b.cells.length + (k * 6 + j) := by show _ = 6 + _; omega
    rw [e]
    simp only [rowB, List.flatMap_cons] at h ⊢
    rw [List.getElem?_append_right (by omega), Nat.add_sub_cancel_left, h]
    simp
def isS (s : ByteArray) (b : Bd) : Bool := b.name.toList == s.toList
def firstS (s : ByteArray) (bs : List Bd) : Option Nat := bs.findIdx? (isS s)
def bptr : Value → Option Nat → Option Addr
  | .slice (some a) _ _, some k => some ⟨a.block, k * 6, none⟩
  | _, _ => none

theorem at_none (i : Int) (w : World) :
    Calls Tryd.prog 24 #[.slice none 0 0, .int .i64 i] w fun e w' => e = .returned (.pointer none) ∧ w' = w := by
  go_enter Tryd.func24, Tryd.ntmps24
  go_wp2
  all_goals go_ret
  all_goals exact ⟨rfl, rfl⟩
theorem at_out (v : Value) (n : Nat) (hv : v = .slice none 0 0 ∧ n = 0 ∨ ∃ g cap, v = .slice (some ⟨g, 0, none⟩) n cap) (i : Int) (hi : i < 0 ∨ (n : Int) ≤ i) (w : World) :
    Calls Tryd.prog 23 #[v, .int .i64 i] w fun e w' => e = .returned (.pointer none) ∧ w' = w := by
  rcases hv with ⟨rfl, rfl⟩ | ⟨g, cap, rfl⟩
  · go_enter Tryd.func23, Tryd.ntmps23
    go_wp2
    all_goals go_ret
    all_goals exact ⟨rfl, rfl⟩
  · go_enter Tryd.func23, Tryd.ntmps23
    go_wp2
    all_goals first | omega | skip
    all_goals go_ret
    all_goals exact ⟨rfl, rfl⟩
theorem at_in (g cap n : Nat) (i : Nat) (hi : i < n) (w : World) :
    Calls Tryd.prog 23 #[.slice (some ⟨g, 0, none⟩) n cap, .int .i64 (i : Int)] w fun e w' => e = .returned (.pointer (some ⟨g, i * 3, none⟩)) ∧ w' = w := by
  go_enter Tryd.func23, Tryd.ntmps23
  go_wp2
  all_goals first | omega | skip
  all_goals go_ret
  all_goals exact ⟨rfl, rfl⟩
theorem is_any (b : Nat) (k : Nat) (s x : ByteArray) (z : Nat) (w : World) (h : w.cell? ⟨b, k, none⟩ = some (.string x)) (hz : w.cell? ⟨z, 0, none⟩ = some (.string s)) :
    Calls Tryd.prog 40 #[.pointer (some ⟨b, k, none⟩), .pointer (some ⟨z, 0, none⟩)] w fun e w' => e = .returned (.bool (x.toList == s.toList)) ∧ w' = w.drew := by
  go_enter Tryd.func40, Tryd.ntmps40
  go_wp2
  go_region_with fail
  all_goals go_wp2
  all_goals go_ret
  all_goals exact ⟨rfl, rfl⟩

theorem row_form {w : World} {base : Nat} {e : TypeId} {size : Nat} {v : Value} {n : Nat} {xs : List Value} (h : w.ownsRow base e size v n xs) : v = .slice none 0 0 ∧ n = 0 ∨ ∃ g cap, v = .slice (some ⟨g, 0, none⟩) n cap := by
  rcases h.2 with h | ⟨g, cap, _, h, _⟩
  · exact .inl h
  · exact .inr ⟨g, cap, h⟩
theorem cell_below {w wr : World} {B : Nat} (h : Below B w wr) {a : Addr} (hb : a.block < B) : wr.cell? a = w.cell? a := World.cell?_of_block (h.block a.block hb)

theorem first_any (v : Value) (bs : List Bd) (base : Nat) (s : ByteArray) (z : Nat) (w : World) (hrow : w.ownsRow base 66 6 v bs.length (rowB bs)) (hm : bs.length ≤ 1000000) (hz : w.cell? ⟨z, 0, none⟩ = some (.string s)) :
    Calls Tryd.prog 39 #[v, .func (.func 40) #[] #[.pointer (some ⟨z, 0, none⟩)]] w fun e w' => e = .returned (.pointer (bptr v (firstS s bs))) ∧ Below w.heap.size w w' := by
  rcases row_form hrow with ⟨rfl, hn⟩ | ⟨g, cap, rfl⟩
  · have : bs = [] := List.length_eq_zero_iff.1 hn
    subst this
    clear hrow hn hm
    go_enter Tryd.func39, Tryd.ntmps39
    go_wp2_with fail
    go_loopw [8] (fun i wr => i = .int .i64 0 ∧ Below w.heap.size w wr) (fun i _ => 0)
    case atStart => exact ⟨rfl, Below.refl _ _⟩
    case round =>
      obtain ⟨rfl, hb⟩ := hrel
      go_wp2_with fail
      go_ret
      exact ⟨rfl, hb⟩
  · have hlt := (hrow.lt g rfl).2
    have HZL := hide (World.block_lt_of_cell? w _ hz)
    have HCELL : Hid (∀ k b, bs[k]? = some b → w.cell? ⟨g, k * 6, none⟩ = some (.string b.name)) := fun k b hb => by
      have hk : k < bs.length := (List.getElem?_eq_some_iff.1 hb).1
      have h := hrow.cellAt (k * 6 + 0) (by omega)
      rw [rowB_get bs k 0 (by decide), hb] at h
      simpa [Bd.cells] using h
    have HZ := hide hz
    have HLT := hide hlt
    clear hrow hz hlt
    go_enter Tryd.func39, Tryd.ntmps39
    go_wp2_with fail
    go_loopw [8] (fun i wr => ∃ k : Nat, k ≤ bs.length ∧ i = .int .i64 k ∧ (∀ j b, j < k → bs[j]? = some b → isS s b = false) ∧ Below w.heap.size w wr) (fun i _ => bs.length - (intOf i).toNat)
    case atStart => exact ⟨0, Nat.zero_le _, rfl, fun j b hj => absurd hj (Nat.not_lt_zero _), Below.refl _ _⟩
    case round =>
      obtain ⟨k, hk, rfl, hno, hb⟩ := hrel
      have HNO := hide hno
      have HB := hide hb
      clear hno hb
      by_cases hlt : k < bs.length
      · obtain ⟨b, hbk⟩ : ∃ b, bs[k]? = some b := ⟨_, List.getElem?_eq_getElem hlt⟩
        have h1 : wr.cell? ⟨g, k * 6, none⟩ = some (.string b.name) := (cell_below HB.out (a := ⟨g, k * 6, none⟩) HLT.out).trans (HCELL.out k b hbk)
        have h2 : wr.cell? ⟨z, 0, none⟩ = some (.string s) := (cell_below HB.out (a := ⟨z, 0, none⟩) HZL.out).trans HZ.out
        have HC := hide (is_any g (k * 6) s b.name z wr h1 h2)
        have HBK := hide hbk
        clear h1 h2 hbk
        cases hx : (b.name.toList == s.toList)
        · rw [hx] at HC
          have HX := hide hx
          clear hx
          go_wp2_with fail
          refine Calls.mono HC.out ?_
          rintro e w2 ⟨rfl, rfl⟩
          go_wp2_with fail
          go_roundw
          case rel =>
            refine ⟨k + 1, by omega, by go_num, ?_, HB.out.drew⟩
            intro j b' hj hb'
            rcases Nat.lt_or_ge j k with h | h
            · exact HNO.out j b' h hb'
            · have : j = k := by omega
              subst this
              rw [HBK.out] at hb'
              cases hb'
              exact HX.out
          case measure => simp [intOf]; omega
        · rw [hx] at HC
          have HX := hide hx
          clear hx
          go_wp2_with fail
          refine Calls.mono HC.out ?_
          rintro e w2 ⟨rfl, rfl⟩
          go_wp2_with fail
          go_ret
          have hf : firstS s bs = some k := by
            rw [firstS, List.findIdx?_eq_some_iff_getElem]
            refine ⟨hlt, ?_, ?_⟩
            · have := HBK.out
              rw [List.getElem?_eq_getElem hlt] at this
              rw [Option.some.inj this]
              exact HX.out
            · intro j hj
              have := HNO.out j bs[j] hj (List.getElem?_eq_getElem (by omega))
              simpa using this
          rw [hf]
          exact ⟨rfl, HB.out.drew⟩
      · have hke : k = bs.length := by omega
        subst hke
        go_wp2_with fail
        go_ret
        have hf : firstS s bs = none := by
          rw [firstS, List.findIdx?_eq_none_iff]
          intro b hb
          obtain ⟨j, hj, rfl⟩ := List.mem_iff_getElem.1 hb
          exact HNO.out j _ hj (List.getElem?_eq_getElem hj)
        rw [hf]
        exact ⟨rfl, HB.out⟩

theorem bind_none (s : ByteArray) (w : World) :
    Calls Tryd.prog 26 #[.pointer none, .string s] w fun e w' => e = .returned (.pointer none) ∧ Below w.heap.size w w' := by
  go_enter Tryd.func26, Tryd.ntmps26
  go_wp2_with fail
  go_ret
  exact ⟨rfl, (Below.refl _ _).alloc (Nat.le_refl _) _⟩
theorem bind_any (g k : Nat) (v : Value) (bs : List Bd) (base : Nat) (s : ByteArray) (w : World) (h : w.cell? ⟨g, k + 2, none⟩ = some v) (hrow : w.ownsRow base 66 6 v bs.length (rowB bs)) (hm : bs.length ≤ 1000000) :
    Calls Tryd.prog 26 #[.pointer (some ⟨g, k, none⟩), .string s] w fun e w' => e = .returned (.pointer (bptr v (firstS s bs))) ∧ Below w.heap.size w w' := by
  have hg := World.block_lt_of_cell? w _ h
  have hg' : g < w.heap.size := hg
  have HC := hide (first_any v bs base s w.heap.size (w.alloc (.cells #[.string s] 9)) (hrow.alloc _) hm (by simp))
  have hv := row_form hrow
  clear hg hrow
  go_enter Tryd.func26, Tryd.ntmps26
  rcases hv with ⟨rfl, hn⟩ | ⟨g', cap, rfl⟩
  all_goals
    go_wp2_with fail
    refine Calls.mono HC.out ?_
    rintro e w' ⟨rfl, hb⟩
    have HB := hide hb
    clear hb
    go_wp2_with fail
    go_ret
    refine ⟨rfl, ((Below.refl _ _).alloc (Nat.le_refl _) _).trans (HB.out.mono (by simp))⟩

structure Sc where
  outer : Int
  bs : List Bd
def rowS : List Sc → List Value → List Value
  | s :: L, v :: vs => .int .i64 s.outer :: .int .i64 (-1) :: v :: rowS L vs
  | _, _ => []
theorem rowS_get : ∀ (L : List Sc) (vs : List Value) (i : Nat) (s : Sc) (v : Value), L[i]? = some s → vs[i]? = some v →
    (rowS L vs)[i * 3]? = some (.int .i64 s.outer) ∧ (rowS L vs)[i * 3 + 1]? = some (.int .i64 (-1)) ∧ (rowS L vs)[i * 3 + 2]? = some v
  | [], _, i, s, v, h, _ => by simp at h
  | _ :: _, [], i, s, v, _, h => by simp at h
  | a :: L, b :: vs, 0, s, v, h, h' => by
    simp at h h'
    subst h h'
    simp [rowS]
  | a :: L, b :: vs, i + 1, s, v, h, h' => by
    have := rowS_get L vs i s v (by simpa using h) (by simpa using h')
    have e : (i + 1) * 3 = i * 3 + 3 := by omega
    rw [e]
    simpa [rowS, Nat.add_right_comm _ 3] using this
theorem rowS_len : ∀ (L : List Sc) (vs : List Value), vs.length = L.length → (rowS L vs).length = L.length * 3
  | [], _, _ => by simp [rowS]
  | _ :: _, [], h => by simp at h
  | a :: L, b :: vs, h => by
    have := rowS_len L vs (by simpa using h)
    simp [rowS, this]; omega
theorem rowS_app : ∀ (L L' : List Sc) (vs vs' : List Value), vs.length = L.length → rowS (L ++ L') (vs ++ vs') = rowS L vs ++ rowS L' vs'
  | [], L', [], vs', _ => by simp [rowS]
  | [], _, _ :: _, _, h => by simp at h
  | _ :: _, _, [], _, h => by simp at h
  | a :: L, L', b :: vs, vs', h => by
    have := rowS_app L L' vs vs' (by simpa using h)
    simp [rowS, this]
/-- The row behind a store of a scope's names. -/
theorem rowS_set : ∀ (L : List Sc) (vs : List Value) (i : Nat) (s s' : Sc) (v : Value), vs.length = L.length → L[i]? = some s → s'.outer = s.outer → rowS (L.set i s') (vs.set i v) = (rowS L vs).set (i * 3 + 2) v
  | [], _, i, s, s', v, _, h, _ => by simp at h
  | _ :: _, [], i, s, s', v, h, _, _ => by simp at h
  | a :: L, b :: vs, 0, s, s', v, _, h, ho => by
    simp at h
    subst h
    simp [rowS, ho]
  | a :: L, b :: vs, i + 1, s, s', v, hl, h, ho => by
    have := rowS_set L vs i s s' v (by simpa using hl) (by simpa using h) ho
    have e : (i + 1) * 3 + 2 = i * 3 + 2 + 1 + 1 + 1 := by omega
    rw [e]
    simp [rowS, this]

structure HR (H : Nat) (w : World) (L : List Sc) (sv : Value) (vs : List Value) : Prop where
  blk : w.heap[H]? = some (.cells #[.slice none 0 0, sv] 25 (0, 0))
  row : w.ownsRow H 57 3 sv L.length (rowS L vs)
  len : vs.length = L.length
  own : ∀ (i : Nat) s v, L[i]? = some s → vs[i]? = some v → w.ownsRow H 66 6 v s.bs.length (rowB s.bs)
  apart : ∀ (i j : Nat) a b g, vs[i]? = some a → vs[j]? = some b → a.ownBlock = some g → b.ownBlock = some g → i = j
  small : L.length ≤ 100
  smalls : ∀ (i : Nat) s, L[i]? = some s → s.bs.length ≤ 100

theorem grown_of {w w' : World} (hb : Below w.heap.size w w') : w.grownBy w' none := ⟨hb.os, hb.tape, hb.output, hb.size, fun k hk _ => hb.block k hk⟩
theorem row_later {w w' : World} {base : Nat} {e : TypeId} {size : Nat} {v : Value} {n : Nat} {xs : List Value} (h : w.ownsRow base e size v n xs) (hb : Below w.heap.size w w') : w'.ownsRow base e size v n xs :=
  h.kept (grown_of hb) (by cases v.ownBlock <;> simp)
theorem HR.later {H : Nat} {w w' : World} {L : List Sc} {sv : Value} {vs : List Value} (h : HR H w L sv vs) (hb : Below w.heap.size w w') : HR H w' L sv vs :=
  ⟨(hb.block H (lt_of_block h.blk)).trans h.blk, row_later h.row hb, h.len, fun i s v a b => row_later (h.own i s v a b) hb, h.apart, h.small, h.smalls⟩
theorem HR.c0 {H : Nat} {w : World} {L : List Sc} {sv : Value} {vs : List Value} (h : HR H w L sv vs) : w.cell? ⟨H, 0, none⟩ = some (.slice none 0 0) ∧ w.cell? ⟨H, 1, none⟩ = some sv ∧ w.frozen? ⟨H, 1, none⟩ = false ∧ H < w.heap.size := by
  refine ⟨?_, ?_, ?_, lt_of_block h.blk⟩
  · simp [World.cell?, h.blk]
  · simp [World.cell?, h.blk]
  · simp [World.frozen?, h.blk]
/-- What lies at a scope's place. -/
theorem HR.at_ {H : Nat} {w : World} {L : List Sc} {sv : Value} {vs : List Value} (h : HR H w L sv vs) {i : Nat} {s : Sc} (hi : L[i]? = some s) :
    ∃ g cap v, sv = .slice (some ⟨g, 0, none⟩) L.length cap ∧ i < L.length ∧ vs[i]? = some v ∧ w.cell? ⟨g, i * 3, none⟩ = some (.int .i64 s.outer) ∧ w.cell? ⟨g, i * 3 + 1, none⟩ = some (.int .i64 (-1)) ∧ w.cell? ⟨g, i * 3 + 2, none⟩ = some v ∧ w.ownsRow H 66 6 v s.bs.length (rowB s.bs) ∧ g < w.heap.size ∧ H ≤ g ∧ w.frozen? ⟨g, i * 3 + 2, none⟩ = false := by
  have hlt : i < L.length := (List.getElem?_eq_some_iff.1 hi).1
  obtain ⟨v, hv⟩ : ∃ v, vs[i]? = some v := ⟨_, List.getElem?_eq_getElem (by rw [h.len]; exact hlt)⟩
  rcases row_form h.row with ⟨_, hn⟩ | ⟨g, cap, rfl⟩
  · omega
  · obtain ⟨e0, e1, e2⟩ := rowS_get L vs i s v hi hv
    refine ⟨g, cap, v, rfl, hlt, hv, ?_, ?_, ?_, h.own i s v hi hv, (h.row.lt g rfl).2, (h.row.lt g rfl).1, h.row.frozenAt _⟩
    · rw [h.row.cellAt _ (by omega)]; exact e0
    · rw [h.row.cellAt _ (by omega)]; exact e1
    · rw [h.row.cellAt _ (by omega)]; exact e2
def hP (H : Nat) : Value := .pointer (some ⟨H, 0, none⟩)
def hasS (s : ByteArray) (c : Sc) : Bool := (firstS s c.bs).isSome
def noVal : Value := .agg #[.int .i64 0, .int .i64 0, .string ⟨#[]⟩]

theorem bptr_none (v : Value) : bptr v none = none := by
  cases v with
  | slice a _ _ => cases a <;> rfl
  | _ => rfl
theorem obj_of {H : Nat} {w : World} {L : List Sc} {sv : Value} {vs : List Value} (h : HR H w L sv vs) (i : Nat) (s : Sc) (hi : L[i]? = some s) :
    Calls Tryd.prog 28 #[hP H, .int .i64 (i : Int)] w fun e w' => e = .returned (.int .i64 (-1)) ∧ w' = w := by
  obtain ⟨h0, h1, hf, hl⟩ := h.c0
  obtain ⟨g, cap, v, rfl, hlt, hv, k0, k1, k2, hrow, hg, hHg, _⟩ := h.at_ hi
  have HC := hide (at_in g cap L.length i hlt w)
  unfold hP
  go_enter Tryd.func28, Tryd.ntmps28
  go_wp2_with fail
  refine Calls.mono HC.out ?_
  rintro e w' ⟨rfl, rfl⟩
  go_wp2_with fail
  go_ret
  exact ⟨rfl, rfl⟩
theorem outer_of {H : Nat} {w : World} {L : List Sc} {sv : Value} {vs : List Value} (h : HR H w L sv vs) (i : Nat) (s : Sc) (hi : L[i]? = some s) :
    Calls Tryd.prog 38 #[hP H, .int .i64 (i : Int)] w fun e w' => e = .returned (.int .i64 s.outer) ∧ w' = w := by
  obtain ⟨h0, h1, hf, hl⟩ := h.c0
  obtain ⟨g, cap, v, rfl, hlt, hv, k0, k1, k2, hrow, hg, hHg, _⟩ := h.at_ hi
  have HC := hide (at_in g cap L.length i hlt w)
  unfold hP
  go_enter Tryd.func38, Tryd.ntmps38
  go_wp2_with fail
  refine Calls.mono HC.out ?_
  rintro e w' ⟨rfl, rfl⟩
  go_wp2_with fail
  go_ret
  exact ⟨rfl, rfl⟩
theorem prop_none (s : ByteArray) (w : World) :
    Calls Tryd.prog 42 #[.pointer none, .string s] w fun e w' => e = .returned (.pointer none) ∧ Below w.heap.size w w' := by
  go_enter Tryd.func42, Tryd.ntmps42
  go_wp2_with fail
  go_ret
  exact ⟨rfl, (Below.refl _ _).alloc (Nat.le_refl _) _⟩
theorem new3 {w w1 : World} {a b c : Value} {t : TypeId} (hb : Below (w.heap.size + 1) (w.alloc (.cells #[a, b, c] t)) w1) :
    w1.cell? ⟨w.heap.size, 0, none⟩ = some a ∧ w1.cell? ⟨w.heap.size, 1, none⟩ = some b ∧ w1.cell? ⟨w.heap.size, 2, none⟩ = some c ∧ (∀ j, w1.frozen? ⟨w.heap.size, j, none⟩ = false) ∧ w.heap.size < w1.heap.size := by
  have h : w1.heap[w.heap.size]? = some (.cells #[a, b, c] t (0, 0)) := (hb.block _ (Nat.lt_succ_self _)).trans (heap_alloc_new w _)
  refine ⟨?_, ?_, ?_, fun j => ?_, lt_of_block h⟩
  all_goals simp [World.cell?, World.frozen?, h]
theorem below3 {w W2 : World} {B b : Nat} (hb : Below B w W2) (h : B ≤ b) (v0 v1 v2 : Value) : Below B w (((W2.setCell ⟨b, 0, none⟩ v0).setCell ⟨b, 1, none⟩ v1).setCell ⟨b, 2, none⟩ v2) :=
  ((hb.setCell (p := ⟨b, 0, none⟩) h _).setCell (p := ⟨b, 1, none⟩) h _).setCell (p := ⟨b, 2, none⟩) h _
def vZ : Obj := .cells #[.int .i64 0, .int .i64 0, .string ⟨#[]⟩] 28
theorem get_none {H : Nat} {w : World} {L : List Sc} {sv : Value} {vs : List Value} (h : HR H w L sv vs) (i : Int) (s : ByteArray) :
    Calls Tryd.prog 41 #[hP H, .int .i64 i, .string s] w fun e w' => e = .returned (.tuple #[noVal, .bool false]) ∧ Below w.heap.size w w' := by
  obtain ⟨h0, h1, hf, hl⟩ := h.c0
  have HC := hide (at_none i (w.alloc vZ))
  have HD := hide (prop_none s (w.alloc vZ))
  unfold vZ at HC HD
  clear h
  unfold hP
  go_enter Tryd.func41, Tryd.ntmps41
  go_wp2_with fail
  refine Calls.mono HC.out ?_
  rintro e w' ⟨rfl, rfl⟩
  go_wp2_with fail
  refine Calls.mono HD.out ?_
  rintro e w1 ⟨rfl, hb⟩
  obtain ⟨n0, n1, n2, nf, nl⟩ := new3 (hb.mono (by simp))
  have HB := hide (((Below.refl _ w).alloc (Nat.le_refl _) _).trans (hb.mono (by simp)))
  clear hb
  go_wp2_with fail
  refine bodyPost_ret (v := .tuple #[noVal, .bool false]) (by simp [results, Tryd.results41, go_sem, noVal, n0, n1, n2]) rfl ⟨rfl, ?_⟩
  exact below3 HB.out (Nat.le_refl _) _ _ _
theorem has_any {H : Nat} {w : World} {L : List Sc} {sv : Value} {vs : List Value} (h : HR H w L sv vs) (i : Nat) (s : Sc) (hi : L[i]? = some s) (nm : ByteArray) :
    Calls Tryd.prog 29 #[hP H, .int .i64 (i : Int), .string nm] w fun e w' => e = .returned (.bool (hasS nm s)) ∧ Below w.heap.size w w' := by
  obtain ⟨h0, h1, hf, hl⟩ := h.c0
  obtain ⟨g, cap, v, rfl, hlt, hv, k0, k1, k2, hrow, hg, hHg, _⟩ := h.at_ hi
  have HC := hide (at_in g cap L.length i hlt w)
  have HD := hide (bind_any g (i * 3) v s.bs H nm w k2 hrow (Nat.le_trans (h.smalls i s hi) (by decide)))
  have HH := hide h
  have HI := hide hi
  have hbp : bptr v (firstS nm s.bs) = none ∧ hasS nm s = false ∨ (∃ a, bptr v (firstS nm s.bs) = some a) ∧ hasS nm s = true := by
    unfold hasS
    cases hq : firstS nm s.bs with
    | none => exact .inl ⟨bptr_none v, rfl⟩
    | some k =>
      right
      rcases row_form hrow with ⟨rfl, hn⟩ | ⟨g', cap', rfl⟩
      · rw [List.length_eq_zero_iff.1 hn] at hq
        simp [firstS] at hq
      · exact ⟨⟨_, rfl⟩, rfl⟩
  clear h hi k0 k1 k2 hrow
  rw [show (hP H) = .pointer (some ⟨H, 0, none⟩) from rfl]
  rcases hbp with ⟨hq, hs⟩ | ⟨⟨a, hq⟩, hs⟩
  · rw [hq] at HD
    rw [hs]
    clear hq hs
    go_enter Tryd.func29, Tryd.ntmps29
    go_wp2_with fail
    refine Calls.mono HC.out ?_
    rintro e w' ⟨rfl, rfl⟩
    go_wp2_with fail
    refine Calls.mono HD.out ?_
    rintro e w1 ⟨rfl, hb⟩
    have HB := hide hb
    have HH1 := hide (HH.out.later hb)
    have HO := hide (obj_of HH1.out i s HI.out)
    have HG := hide (get_none HH1.out (-1) nm)
    unfold hP at HO HG
    unfold noVal at HG
    clear hb
    go_wp2_with fail
    refine Calls.mono HO.out ?_
    rintro e w' ⟨rfl, rfl⟩
    go_wp2_with fail
    refine Calls.mono HG.out ?_
    rintro e w2 ⟨rfl, hb2⟩
    have HB2 := hide (HB.out.trans (hb2.mono HB.out.size))
    clear hb2
    go_wp2_with fail
    go_ret
    exact ⟨rfl, HB2.out.alloc HB2.out.size _⟩
  · rw [hq] at HD
    rw [hs]
    clear hq hs
    go_enter Tryd.func29, Tryd.ntmps29
    go_wp2_with fail
    refine Calls.mono HC.out ?_
    rintro e w' ⟨rfl, rfl⟩
    go_wp2_with fail
    refine Calls.mono HD.out ?_
    rintro e w1 ⟨rfl, hb⟩
    have HB := hide hb
    clear hb
    go_wp2_with fail
    go_ret
    exact ⟨rfl, HB.out⟩

/-- From a scope on outwards: where a name is found. -/
inductive Finds (L : List Sc) (nm : ByteArray) : Int → Int → Prop where
  | out (i : Int) (h : i < 0 ∨ (L.length : Int) ≤ i) : Finds L nm i (-1)
  | here (i : Nat) (s : Sc) (h : L[i]? = some s) (hh : hasS nm s = true) : Finds L nm i i
  | on (i : Nat) (s : Sc) (r : Int) (h : L[i]? = some s) (hh : hasS nm s = false) (ho : s.outer < i) (hr : Finds L nm s.outer r) : Finds L nm i r

theorem find_any {H : Nat} {w : World} {L : List Sc} {sv : Value} {vs : List Value} (h : HR H w L sv vs) (i r : Int) (nm : ByteArray) (hf : Finds L nm i r) :
    Calls Tryd.prog 25 #[hP H, .int .i64 i, .string nm] w fun e w' => e = .returned (.int .i64 r) ∧ Below w.heap.size w w' := by
  have HH := hide h
  have HF := hide hf
  clear h hf
  unfold hP
  go_enter Tryd.func25, Tryd.ntmps25
  go_wp2_with fail
  go_loopw [1] (fun i' wr => ∃ j : Int, i' = .int .i64 j ∧ Finds L nm j r ∧ Below w.heap.size w wr) (fun i' _ => (intOf i' + 1).toNat)
  case atStart => exact ⟨i, rfl, HF.out, Below.refl _ _⟩
  case round =>
    obtain ⟨j, rfl, hfj, hb⟩ := hrel
    have HB := hide hb
    have HHr := hide (HH.out.later hb)
    clear hb
    obtain ⟨h0, h1, _, hl⟩ := HHr.out.c0
    cases hfj with
    | out _ ho =>
      have HC := hide (at_out sv L.length (row_form HHr.out.row) j ho wr)
      have hsv := row_form HHr.out.row
      rcases hsv with ⟨rfl, hn⟩ | ⟨g, cap, rfl⟩
      all_goals
        go_wp2_with fail
        refine Calls.mono HC.out ?_
        rintro e w2 ⟨rfl, rfl⟩
        go_wp2_with fail
        go_ret
        exact ⟨rfl, HB.out⟩
    | here k s hk hh =>
      obtain ⟨g, cap, v, rfl, hlt, hv, k0, k1, k2, hrow, hg, hHg, _⟩ := HHr.out.at_ hk
      have HC := hide (at_in g cap L.length k hlt wr)
      have HS := hide (has_any HHr.out k s hk nm)
      rw [hh] at HS
      unfold hP at HS
      clear hrow k0 k1 k2 hv hh hk
      go_wp2_with fail
      refine Calls.mono HC.out ?_
      rintro e w2 ⟨rfl, rfl⟩
      go_wp2_with fail
      refine Calls.mono HS.out ?_
      rintro e w2 ⟨rfl, hb2⟩
      have HB2 := hide (HB.out.trans (hb2.mono HB.out.size))
      clear hb2
      go_wp2_with fail
      go_ret
      exact ⟨rfl, HB2.out⟩
    | on k s _ hk hh ho hr =>
      obtain ⟨g, cap, v, rfl, hlt, hv, k0, k1, k2, hrow, hg, hHg, _⟩ := HHr.out.at_ hk
      have HC := hide (at_in g cap L.length k hlt wr)
      have HS := hide (has_any HHr.out k s hk nm)
      rw [hh] at HS
      unfold hP at HS
      have HK := hide hk
      have HRr := hide hr
      have HO := hide ho
      clear hrow k0 k1 k2 hv hh hk hr ho
      go_wp2_with fail
      refine Calls.mono HC.out ?_
      rintro e w2 ⟨rfl, rfl⟩
      go_wp2_with fail
      refine Calls.mono HS.out ?_
      rintro e w2 ⟨rfl, hb2⟩
      have HU := hide (outer_of (HHr.out.later hb2) k s HK.out)
      unfold hP at HU
      have HB2 := hide (HB.out.trans (hb2.mono HB.out.size))
      clear hb2
      go_wp2_with fail
      refine Calls.mono HU.out ?_
      rintro e w3 ⟨rfl, rfl⟩
      go_wp2_with fail
      go_roundw
      case rel => exact ⟨s.outer, rfl, HRr.out, HB2.out⟩
      case measure =>
        have := HO.out
        simp [intOf]; omega

/-- What is read of a name that is there, and ready. -/
def vOf (b : Bd) : Value := .agg #[.int .i64 b.vk, .int .i64 b.vn, .string b.vs]
theorem bd_cells {w : World} {base : Nat} {v : Value} {bs : List Bd} (hrow : w.ownsRow base 66 6 v bs.length (rowB bs)) {k : Nat} {b : Bd} (hb : bs[k]? = some b) :
    ∃ g cap, v = .slice (some ⟨g, 0, none⟩) bs.length cap ∧ k < bs.length ∧ w.cell? ⟨g, k * 6, none⟩ = some (.string b.name) ∧ w.cell? ⟨g, k * 6 + 1, none⟩ = some (.int .i64 b.vk) ∧ w.cell? ⟨g, k * 6 + 2, none⟩ = some (.int .i64 b.vn) ∧ w.cell? ⟨g, k * 6 + 3, none⟩ = some (.string b.vs) ∧ w.cell? ⟨g, k * 6 + 4, none⟩ = some (.int .i64 b.kind) ∧ w.cell? ⟨g, k * 6 + 5, none⟩ = some (.bool b.ready) ∧ g < w.heap.size ∧ base ≤ g ∧ ∀ j, w.frozen? ⟨g, j, none⟩ = false := by
  have hk : k < bs.length := (List.getElem?_eq_some_iff.1 hb).1
  rcases row_form hrow with ⟨_, hn⟩ | ⟨g, cap, rfl⟩
  · omega
  · have hc : ∀ j, j < 6 → w.cell? ⟨g, k * 6 + j, none⟩ = b.cells[j]? := fun j hj => by
      rw [hrow.cellAt _ (by omega), rowB_get bs k j hj, hb]; rfl
    exact ⟨g, cap, rfl, hk, hc 0 (by decide), hc 1 (by decide), hc 2 (by decide), hc 3 (by decide), hc 4 (by decide), hc 5 (by decide), (hrow.lt g rfl).2, (hrow.lt g rfl).1, hrow.frozenAt⟩
theorem read_ok {H : Nat} {w : World} {L : List Sc} {sv : Value} {vs : List Value} (h : HR H w L sv vs) (i : Nat) (s : Sc) (hi : L[i]? = some s) (nm : ByteArray) (k : Nat) (b : Bd) (hk : firstS nm s.bs = some k) (hb : s.bs[k]? = some b) (hr : b.ready = true) :
    Calls Tryd.prog 15 #[hP H, .int .i64 (i : Int), .string nm] w fun e w' => e = .returned (.tuple #[vOf b, .nilIface]) ∧ Below w.heap.size w w' := by
  obtain ⟨h0, h1, hf, hl⟩ := h.c0
  obtain ⟨g, cap, v, rfl, hlt, hv, k0, k1, k2, hrow, hg, hHg, _⟩ := h.at_ hi
  have HC := hide (at_in g cap L.length i hlt (w.alloc vZ))
  have hrow' := hrow.alloc vZ
  have k2' : (w.alloc vZ).cell? ⟨g, i * 3 + 2, none⟩ = some v := by rw [World.cell?_alloc_lt _ _ _ hg]; exact k2
  have HD := hide (bind_any g (i * 3) v s.bs H nm (w.alloc vZ) k2' hrow' (Nat.le_trans (h.smalls i s hi) (by decide)))
  obtain ⟨gb, capb, rfl, hkl, -⟩ := bd_cells hrow hb
  have HROW := hide hrow'
  rw [hk] at HD
  have HBB := hide hb
  have HRR := hide hr
  clear h hi k0 k1 k2 k2' hrow hrow' hk hb hr
  unfold hP
  unfold vZ at HC HD HROW
  simp only [bptr] at HD
  go_enter Tryd.func15, Tryd.ntmps15
  go_wp2_with fail
  refine Calls.mono HC.out ?_
  rintro e w' ⟨rfl, rfl⟩
  go_wp2_with fail
  refine Calls.mono HD.out ?_
  rintro e w1 ⟨rfl, hb⟩
  obtain ⟨n0, n1, n2, nf, nl⟩ := new3 (hb.mono (by simp))
  obtain ⟨g', cap', hv', _, c0, c1, c2, c3, c4, c5, hgl, _, cf⟩ := bd_cells (row_later HROW.out hb) HBB.out
  simp only [Value.slice.injEq, Option.some.injEq, Addr.mk.injEq, and_true, true_and] at hv'
  obtain ⟨rfl, rfl⟩ := hv'
  rw [HRR.out] at c5
  have HB := hide (((Below.refl _ w).alloc (Nat.le_refl _) _).trans (hb.mono (by simp)))
  clear hb HC HD HROW
  go_wp2_with fail
  trace_state
  refine bodyPost_ret (v := .tuple #[vOf b, .nilIface]) (by simp [results, Tryd.results15, go_sem, vOf, n0, n1, n2]) rfl ⟨rfl, ?_⟩
  exact below3 HB.out (Nat.le_refl _) _ _ _

theorem row_tag {w : World} {base : Nat} {e : TypeId} {size : Nat} {v : Value} {n : Nat} {xs : List Value} (h : w.ownsRow base e size v n xs) {k : Nat} (hk : v.ownBlock = some k) : ∃ cur, w.heap[k]? = some (.cells cur e (0, 0)) := by
  rcases h.2 with ⟨rfl, _⟩ | ⟨g, cap, cur, rfl, _, hg, _⟩
  · simp [Value.ownBlock] at hk
  · simp [Value.ownBlock] at hk
    subst hk
    exact ⟨cur, hg⟩
theorem tags_ne {w : World} {j k : Nat} {c c' : Array Value} {e e' : TypeId} {z z' : Nat × Nat} (h : w.heap[j]? = some (.cells c e z)) (h' : w.heap[k]? = some (.cells c' e' z')) (hne : e ≠ e') : j ≠ k := by
  rintro rfl
  rw [h] at h'
  simp at h'
  exact hne h'.2.1
/-- What stays: all below the heap's own blocks, and every block that is not of its kinds. -/
structure Fr (H : Nat) (w w' : World) : Prop where
  below : Below H w w'
  ints : ∀ (b : Nat) c (e : TypeId), w.heap[b]? = some (.cells c e (0, 0)) → e ≠ 25 ∧ e ≠ 57 ∧ e ≠ 66 → w'.heap[b]? = some (.cells c e (0, 0))
theorem Fr.of {H : Nat} {w w' : World} (hb : Below w.heap.size w w') (hH : H ≤ w.heap.size) : Fr H w w' :=
  ⟨hb.mono hH, fun b _ _ h _ => (hb.block b (lt_of_block h)).trans h⟩
theorem Fr.trans {H : Nat} {a b c : World} (h : Fr H a b) (k : Fr H b c) : Fr H a c := ⟨h.below.trans k.below, fun x y e z q => k.ints x y e (h.ints x y e z q) q⟩
theorem Fr.grown {H : Nat} {w w' : World} {row : Option Nat} (hg : w.grownBy w' row) (hH : H ≤ w.heap.size) (h : ∀ k, row = some k → H ≤ k ∧ ∃ c e, w.heap[k]? = some (.cells c e (0, 0)) ∧ (e = 25 ∨ e = 57 ∨ e = 66)) : Fr H w w' := by
  refine ⟨⟨hg.os, hg.tape, hg.output, hg.size, fun k hk => ?_⟩, fun b _ e' hb he => ?_⟩
  · exact hg.block k (Nat.lt_of_lt_of_le hk hH) (fun e => by have := (h k e.symm).1; omega)
  · refine (hg.block b (lt_of_block hb) (fun e => ?_)).trans hb
    obtain ⟨_, c', e'', h1, h2⟩ := h b e.symm
    exact tags_ne h1 hb (by rintro rfl; rcases h2 with q | q | q <;> simp [q] at he) rfl
theorem Fr.setCell {H : Nat} {w w' : World} (h : Fr H w w') {g j : Nat} {c : Array Value} {e : TypeId} (hg : w'.heap[g]? = some (.cells c e (0, 0))) (he : e = 25 ∨ e = 57 ∨ e = 66) (hH : H ≤ g) (u : Value) : Fr H w (w'.setCell ⟨g, j, none⟩ u) := by
  refine ⟨h.below.setCell (p := ⟨g, j, none⟩) hH _, fun b d e' hb he' => ?_⟩
  have h1 := h.ints b d e' hb he'
  rw [heap_setCell_other _ _ _ _ (by exact (tags_ne hg h1 (by rintro rfl; rcases he with q | q | q <;> simp [q] at he')).symm)]
  exact h1

theorem HR.ne {H : Nat} {w : World} {L : List Sc} {sv : Value} {vs : List Value} (h : HR H w L sv vs) {i : Nat} {v : Value} (hv : vs[i]? = some v) : ∃ s, L[i]? = some s ∧ (∀ k, v.ownBlock = some k → H < k ∧ k < w.heap.size ∧ sv.ownBlock ≠ some k ∧ ∃ c, w.heap[k]? = some (.cells c 66 (0, 0))) := by
  have hl : i < L.length := by
    have := (List.getElem?_eq_some_iff.1 hv).1
    rw [h.len] at this; exact this
  refine ⟨L[i], List.getElem?_eq_getElem hl, fun k hk => ?_⟩
  have hr := h.own i L[i] v (List.getElem?_eq_getElem hl) hv
  obtain ⟨c, hc⟩ := row_tag hr hk
  have h1 := (hr.lt k hk)
  have h2 : k ≠ H := tags_ne hc h.blk (by decide)
  refine ⟨by omega, h1.2, fun e => ?_, c, hc⟩
  obtain ⟨c', hc'⟩ := row_tag h.row e
  exact tags_ne hc hc' (by decide) rfl
/-- A scope's names are others: in their own block alone. -/
theorem HR.bump {H : Nat} {w w1 : World} {L : List Sc} {sv : Value} {vs : List Value} (h : HR H w L sv vs) {i : Nat} {s : Sc} {v : Value} (hi : L[i]? = some s) (hv : vs[i]? = some v)
    (hgr : w.grownBy w1 v.ownBlock) {bs' : List Bd} (hown : w1.ownsRow H 66 6 v bs'.length (rowB bs')) (hl : bs'.length ≤ 100) : HR H w1 (L.set i ⟨s.outer, bs'⟩) sv vs ∧ Fr H w w1 := by
  obtain ⟨s0, _, hne⟩ := h.ne hv
  have hHl := lt_of_block h.blk
  have hvs : vs.set i v = vs := by
    obtain ⟨hx, rfl⟩ := List.getElem?_eq_some_iff.1 hv
    exact List.set_getElem_self hx
  refine ⟨⟨?_, ?_, by simpa using h.len, ?_, h.apart, by simpa using h.small, ?_⟩, Fr.grown hgr (Nat.le_of_lt hHl) fun k hk => ⟨Nat.le_of_lt (hne k hk).1, (hne k hk).2.2.2.choose, 66, (hne k hk).2.2.2.choose_spec, by decide⟩⟩
  · rw [hgr.block H hHl (fun e => by have := (hne H e.symm).1; omega)]; exact h.blk
  · have hk := h.row.kept hgr (by
      cases hs : sv.ownBlock with
      | none => exact .inl rfl
      | some q => exact .inr fun e => (hne q e.symm).2.2.1 hs)
    have e := rowS_set L vs i s ⟨s.outer, bs'⟩ v h.len hi rfl
    rw [hvs] at e
    obtain ⟨_, _, e2⟩ := rowS_get L vs i s v hi hv
    rw [List.length_set, e]
    rw [show (rowS L vs).set (i * 3 + 2) v = rowS L vs by
      obtain ⟨hx, rfl⟩ := List.getElem?_eq_some_iff.1 e2
      exact List.set_getElem_self hx]
    exact hk
  · intro j s' v' hj hv'
    by_cases hji : i = j
    · subst hji
      rw [hv] at hv'
      cases hv'
      have : i < L.length := (List.getElem?_eq_some_iff.1 hi).1
      simp [List.getElem?_set_self this] at hj
      subst hj
      exact hown
    · rw [List.getElem?_set_ne hji] at hj
      refine (h.own j s' v' hj hv').kept hgr ?_
      cases hq : v'.ownBlock with
      | none => exact .inl rfl
      | some q => exact .inr fun e => hji (h.apart i j v v' q hv hv' e.symm hq)
  · intro j s' hj
    by_cases hji : i = j
    · subst hji
      have : i < L.length := (List.getElem?_eq_some_iff.1 hi).1
      simp [List.getElem?_set_self this] at hj
      subst hj
      exact hl
    · rw [List.getElem?_set_ne hji] at hj
      exact h.smalls j s' hj
/-- A scope's names lie elsewhere: stored. -/
theorem HR.put {H : Nat} {w w1 : World} {L : List Sc} {vs : List Value} {g cap : Nat} (h : HR H w L (.slice (some ⟨g, 0, none⟩) L.length cap) vs) {i : Nat} {s : Sc} {v : Value} (hi : L[i]? = some s) (hv : vs[i]? = some v)
    (hgr : w.grownBy w1 v.ownBlock) {v' : Value} {bs' : List Bd} (hown : w1.ownsRow H 66 6 v' bs'.length (rowB bs')) (hg' : v'.ownBlock = v.ownBlock ∨ ∃ q, v'.ownBlock = some q ∧ w.heap.size ≤ q) (hl : bs'.length ≤ 100) :
    HR H (w1.setCell ⟨g, i * 3 + 2, none⟩ v') (L.set i ⟨s.outer, bs'⟩) (.slice (some ⟨g, 0, none⟩) L.length cap) (vs.set i v') ∧ Fr H w (w1.setCell ⟨g, i * 3 + 2, none⟩ v') := by
  obtain ⟨s0, _, hne⟩ := h.ne hv
  have hHl := lt_of_block h.blk
  have hgl := h.row.lt g rfl
  obtain ⟨cg, hcg⟩ := row_tag h.row (k := g) rfl
  have hgH : g ≠ H := tags_ne hcg h.blk (by decide)
  have hgv : v.ownBlock ≠ some g := fun e => (hne g e).2.2.1 rfl
  have hgv' : v'.ownBlock ≠ some g := fun e => by
    rcases hg' with h1 | ⟨q, h1, h2⟩
    · exact hgv (h1 ▸ e)
    · rw [h1] at e; cases e; omega
  have hk := h.row.kept hgr (.inr (fun e => hgv e.symm))
  obtain ⟨hst, hgs⟩ := hk.stored (i * 3 + 2) v'
  obtain ⟨c1, hc1⟩ := row_tag hk (k := g) rfl
  have e := rowS_set L vs i s ⟨s.outer, bs'⟩ v' h.len hi rfl
  have hlt : i < L.length := (List.getElem?_eq_some_iff.1 hi).1
  refine ⟨⟨?_, ?_, by simpa using h.len, ?_, ?_, by simpa using h.small, ?_⟩, ?_⟩
  · rw [heap_setCell_other _ _ _ _ (by exact hgH.symm), hgr.block H hHl (fun e => by have := (hne H e.symm).1; omega)]; exact h.blk
  · rw [List.length_set, e]
    exact hst
  · intro j s' u hj hu
    by_cases hji : i = j
    · subst hji
      rw [List.getElem?_set_self (by rw [h.len]; exact hlt)] at hu
      cases hu
      simp [List.getElem?_set_self hlt] at hj
      subst hj
      exact ownsRow_setCell_other hown hgv' _
    · rw [List.getElem?_set_ne hji] at hj hu
      have hko : w1.ownsRow H 66 6 u s'.bs.length (rowB s'.bs) := by
        refine (h.own j s' u hj hu).kept hgr ?_
        cases hq : u.ownBlock with
        | none => exact .inl rfl
        | some q => exact .inr fun e => hji (h.apart i j v u q hv hu e.symm hq)
      obtain ⟨_, _, hnj⟩ := h.ne hu
      exact ownsRow_setCell_other hko (fun e => (hnj g e).2.2.1 rfl) _
  · have key : ∀ (j : Nat) b q, j ≠ i → vs[j]? = some b → v'.ownBlock = some q → b.ownBlock = some q → False := by
      intro j b q hj hb h1 h2
      rcases hg' with h3 | ⟨q', h3, h4⟩
      · rw [h3] at h1
        exact hj (h.apart j i b v q hb hv h2 h1)
      · rw [h3] at h1; cases h1
        obtain ⟨_, _, hnj⟩ := h.ne hb
        have := (hnj q h2).2.1
        omega
    intro a b x y q ha hb hx hy
    by_cases hai : i = a
    · subst hai
      by_cases hbi : i = b
      · exact hbi
      · rw [List.getElem?_set_self (by rw [h.len]; exact hlt)] at ha
        cases ha
        rw [List.getElem?_set_ne hbi] at hb
        exact (key b y q (fun e => hbi e.symm) hb hx hy).elim
    · rw [List.getElem?_set_ne hai] at ha
      by_cases hbi : i = b
      · subst hbi
        rw [List.getElem?_set_self (by rw [h.len]; exact hlt)] at hb
        cases hb
        exact (key a x q (fun e => hai e.symm) ha hy hx).elim
      · rw [List.getElem?_set_ne hbi] at hb
        exact h.apart a b x y q ha hb hx hy
  · intro j s' hj
    by_cases hji : i = j
    · subst hji
      simp [List.getElem?_set_self hlt] at hj
      subst hj
      exact hl
    · rw [List.getElem?_set_ne hji] at hj
      exact h.smalls j s' hj
  · exact Fr.setCell (Fr.grown hgr (Nat.le_of_lt hHl) fun k hk => ⟨Nat.le_of_lt (hne k hk).1, (hne k hk).2.2.2.choose, 66, (hne k hk).2.2.2.choose_spec, by decide⟩) hc1 (by decide) hgl.1 _

theorem grown_trans {a b c : World} {r : Option Nat} (h : a.grownBy b r) (k : b.grownBy c r) : a.grownBy c r :=
  ⟨k.os.trans h.os, k.tape.trans h.tape, k.output.trans h.output, Nat.le_trans h.size k.size, fun j hj hr => (k.block j (Nat.lt_of_lt_of_le hj h.size) hr).trans (h.block j hj hr)⟩
theorem rowB_setv : ∀ (bs : List Bd) (k : Nat) (b : Bd) (a n : Int) (t : ByteArray) (r : Bool), bs[k]? = some b →
    ((((rowB bs).set (k * 6 + 1) (.int .i64 a)).set (k * 6 + 2) (.int .i64 n)).set (k * 6 + 3) (.string t)).set (k * 6 + 5) (.bool r) = rowB (bs.set k ⟨b.name, a, n, t, b.kind, r⟩)
  | [], k, b, a, n, t, r, h => by simp at h
  | c :: bs, 0, b, a, n, t, r, h => by
    simp at h
    subst h
    simp [rowB, Bd.cells]
  | c :: bs, k + 1, b, a, n, t, r, h => by
    have := rowB_setv bs k b a n t r (by simpa using h)
    have e : ∀ j, (k + 1) * 6 + j = k * 6 + j + 1 + 1 + 1 + 1 + 1 + 1 := fun j => by omega
    simp only [e, List.set_cons_succ, rowB, List.flatMap_cons, Bd.cells, List.cons_append, List.nil_append] at this ⊢
    rw [this]
/-- A binding's value is set (and whether it is ready). -/
theorem HR.setv {H : Nat} {w : World} {L : List Sc} {sv : Value} {vs : List Value} (h : HR H w L sv vs) {i : Nat} {s : Sc} (hi : L[i]? = some s) {g cap : Nat} {m : Nat} (hv : vs[i]? = some (.slice (some ⟨g, 0, none⟩) m cap)) {k : Nat} {b : Bd} (hb : s.bs[k]? = some b) (a n : Int) (t : ByteArray) (r : Bool) :
    HR H ((((w.setCell ⟨g, k * 6 + 1, none⟩ (.int .i64 a)).setCell ⟨g, k * 6 + 2, none⟩ (.int .i64 n)).setCell ⟨g, k * 6 + 3, none⟩ (.string t)).setCell ⟨g, k * 6 + 5, none⟩ (.bool r)) (L.set i ⟨s.outer, s.bs.set k ⟨b.name, a, n, t, b.kind, r⟩⟩) sv vs ∧
    Fr H w ((((w.setCell ⟨g, k * 6 + 1, none⟩ (.int .i64 a)).setCell ⟨g, k * 6 + 2, none⟩ (.int .i64 n)).setCell ⟨g, k * 6 + 3, none⟩ (.string t)).setCell ⟨g, k * 6 + 5, none⟩ (.bool r)) := by
  have hrow := h.own i s _ hi hv
  obtain ⟨g', cap', hv', _⟩ := bd_cells hrow hb
  simp only [Value.slice.injEq, Option.some.injEq, Addr.mk.injEq, and_true] at hv'
  obtain ⟨rfl, rfl, rfl⟩ := hv'
  obtain ⟨r1, q1⟩ := hrow.stored (k * 6 + 1) (.int .i64 a)
  obtain ⟨r2, q2⟩ := r1.stored (k * 6 + 2) (.int .i64 n)
  obtain ⟨r3, q3⟩ := r2.stored (k * 6 + 3) (.string t)
  obtain ⟨r4, q4⟩ := r3.stored (k * 6 + 5) (.bool r)
  rw [rowB_setv s.bs k b a n t r hb] at r4
  have hl : (s.bs.set k ⟨b.name, a, n, t, b.kind, r⟩).length = s.bs.length := by simp
  refine h.bump hi hv (grown_trans (grown_trans (grown_trans q1 q2) q3) q4) (by rw [hl]; exact r4) (by rw [hl]; exact h.smalls i s hi)

theorem rowB_setv3 : ∀ (bs : List Bd) (k : Nat) (b : Bd) (a n : Int) (t : ByteArray), bs[k]? = some b →
    (((rowB bs).set (k * 6 + 1) (.int .i64 a)).set (k * 6 + 2) (.int .i64 n)).set (k * 6 + 3) (.string t) = rowB (bs.set k ⟨b.name, a, n, t, b.kind, b.ready⟩)
  | [], k, b, a, n, t, h => by simp at h
  | c :: bs, 0, b, a, n, t, h => by
    simp at h
    subst h
    simp [rowB, Bd.cells]
  | c :: bs, k + 1, b, a, n, t, h => by
    have := rowB_setv3 bs k b a n t (by simpa using h)
    have e : ∀ j, (k + 1) * 6 + j = k * 6 + j + 1 + 1 + 1 + 1 + 1 + 1 := fun j => by omega
    simp only [e, List.set_cons_succ, rowB, List.flatMap_cons, Bd.cells, List.cons_append, List.nil_append] at this ⊢
    rw [this]
theorem HR.setv3 {H : Nat} {w : World} {L : List Sc} {sv : Value} {vs : List Value} (h : HR H w L sv vs) {i : Nat} {s : Sc} (hi : L[i]? = some s) {g cap : Nat} {m : Nat} (hv : vs[i]? = some (.slice (some ⟨g, 0, none⟩) m cap)) {k : Nat} {b : Bd} (hb : s.bs[k]? = some b) (a n : Int) (t : ByteArray) :
    HR H (((w.setCell ⟨g, k * 6 + 1, none⟩ (.int .i64 a)).setCell ⟨g, k * 6 + 2, none⟩ (.int .i64 n)).setCell ⟨g, k * 6 + 3, none⟩ (.string t)) (L.set i ⟨s.outer, s.bs.set k ⟨b.name, a, n, t, b.kind, b.ready⟩⟩) sv vs ∧
    Fr H w (((w.setCell ⟨g, k * 6 + 1, none⟩ (.int .i64 a)).setCell ⟨g, k * 6 + 2, none⟩ (.int .i64 n)).setCell ⟨g, k * 6 + 3, none⟩ (.string t)) := by
  have hrow := h.own i s _ hi hv
  obtain ⟨g', cap', hv', _⟩ := bd_cells hrow hb
  simp only [Value.slice.injEq, Option.some.injEq, Addr.mk.injEq, and_true] at hv'
  obtain ⟨rfl, rfl, rfl⟩ := hv'
  obtain ⟨r1, q1⟩ := hrow.stored (k * 6 + 1) (.int .i64 a)
  obtain ⟨r2, q2⟩ := r1.stored (k * 6 + 2) (.int .i64 n)
  obtain ⟨r3, q3⟩ := r2.stored (k * 6 + 3) (.string t)
  rw [rowB_setv3 s.bs k b a n t hb] at r3
  have hl : (s.bs.set k ⟨b.name, a, n, t, b.kind, b.ready⟩).length = s.bs.length := by simp
  refine h.bump hi hv (grown_trans (grown_trans q1 q2) q3) (by rw [hl]; exact r3) (by rw [hl]; exact h.smalls i s hi)

theorem write_ok {H : Nat} {w : World} {L : List Sc} {sv : Value} {vs : List Value} (h : HR H w L sv vs) (i : Nat) (s : Sc) (hi : L[i]? = some s) (nm : ByteArray) (k : Nat) (b : Bd) (hk : firstS nm s.bs = some k) (hb : s.bs[k]? = some b) (hr : b.ready = true) (h2 : b.kind ≠ 2) (h3 : b.kind ≠ 3) (a n : Int) (t : ByteArray) :
    Calls Tryd.prog 16 #[hP H, .int .i64 (i : Int), .string nm, .agg #[.int .i64 a, .int .i64 n, .string t]] w fun e w' => e = .returned .nilIface ∧ HR H w' (L.set i ⟨s.outer, s.bs.set k ⟨b.name, a, n, t, b.kind, true⟩⟩) sv vs ∧ Fr H w w' := by
  obtain ⟨W0, hW0⟩ : ∃ W0, W0 = w.alloc (.cells #[.int .i64 a, .int .i64 n, .string t] 28) := ⟨_, rfl⟩
  have hb0 : Below w.heap.size w W0 := by rw [hW0]; exact (Below.refl _ _).alloc (Nat.le_refl _) _
  have hsz : W0.heap.size = w.heap.size + 1 := by rw [hW0]; simp
  have h0 := h.later hb0
  have HWL := hide (lt_of_block h.blk)
  have HS := hide (has_any h0 i s hi nm)
  rw [show hasS nm s = true by simp [hasS, hk]] at HS
  have HH0 := hide h0
  have HI := hide hi
  have HK := hide hk
  have HBB := hide hb
  have HRR := hide hr
  have HB0 := hide hb0
  have HSZ := hide hsz
  have HN : Hid (∀ w1, Below W0.heap.size W0 w1 → Below (w.heap.size + 1) (w.alloc (.cells #[.int .i64 a, .int .i64 n, .string t] 28)) w1) := fun w1 hb => by rw [← hW0, ← hsz]; exact hb
  clear h hi hk hb hr h0 hb0 hsz
  unfold hP at HS ⊢
  go_enter Tryd.func16, Tryd.ntmps16
  go_wp2_with fail
  rw [← hW0]
  clear hW0
  refine Calls.mono HS.out ?_
  rintro e w1 ⟨rfl, hb1⟩
  have HH1 := hide (HH0.out.later hb1)
  have HB1 := hide hb1
  obtain ⟨c0, c1, cf, cl⟩ := HH1.out.c0
  obtain ⟨g, cap, v, rfl, hlt, hv, k0, k1, k2, hrow, hg, hHg, _⟩ := HH1.out.at_ HI.out
  have HC := hide (at_in g cap L.length i hlt w1)
  have HD := hide (bind_any g (i * 3) v s.bs H nm w1 k2 hrow (Nat.le_trans (HH1.out.smalls i s HI.out) (by decide)))
  obtain ⟨gb, capb, rfl, hkl, -⟩ := bd_cells hrow HBB.out
  rw [HK.out] at HD
  simp only [bptr] at HD
  have HV := hide hv
  have hne : gb ≠ w.heap.size := by
    obtain ⟨_, _, hnn⟩ := HH1.out.ne HV.out
    obtain ⟨_, _, _, cc, hcc⟩ := hnn gb rfl
    intro e
    subst e
    have : w1.heap[w.heap.size]? = some (.cells #[.int .i64 a, .int .i64 n, .string t] 28 (0, 0)) := ((HN.out _ HB1.out).block _ (Nat.lt_succ_self _)).trans (heap_alloc_new w _)
    rw [this] at hcc
    simp at hcc
  clear hb1 k0 k1 k2 hrow hv HS
  go_wp2_with fail
  refine Calls.mono HC.out ?_
  rintro e w2 ⟨rfl, rfl⟩
  go_wp2_with fail
  refine Calls.mono HD.out ?_
  rintro e w2 ⟨rfl, hb2⟩
  have HH2 := hide (HH1.out.later hb2)
  have HB2 := hide (HB1.out.trans (hb2.mono HB1.out.size))
  obtain ⟨n0, n1, n2, nf, nl⟩ := new3 (HN.out _ HB2.out)
  obtain ⟨g', cap', hv', _, d0, d1, d2, d3, d4, d5, hgl, _, df⟩ := bd_cells (HH2.out.own i s _ HI.out HV.out) HBB.out
  simp only [Value.slice.injEq, Option.some.injEq, Addr.mk.injEq, and_true, true_and] at hv'
  obtain ⟨rfl, rfl⟩ := hv'
  rw [HRR.out] at d5
  have HB02 := hide (HB0.out.trans (HB2.out.mono (by rw [HSZ.out]; exact Nat.le_succ _)))
  clear hb2 HC HD
  go_wp2_with fail
  go_ret
  have hz := HH2.out.setv3 HI.out HV.out HBB.out a n t
  rw [HRR.out] at hz
  exact ⟨rfl, hz.1, (Fr.of HB02.out (Nat.le_of_lt HWL.out)).trans hz.2⟩
end Go.Proofs.YtopehplicnppfaaDoor
