/-
  A heap of objects and scopes: how it lies; the first of a name.
-/
import Derived.Test.YtomogijjkdiomaaDoorHp1
set_option maxRecDepth 100000
set_option maxHeartbeats 16000000
namespace Go.Proofs.YtomogijjkdiomaaDoor
open Go.RowKit

structure Pr where
  name : ByteArray
  v : Int
  fixed : Bool
structure Ce where
  name : ByteArray
  v : Int
  kind : Int
  ready : Bool
structure Ob where
  code : Int
  ps : List Pr
structure Ro where
  outer : Int
  object : Int
  cs : List Ce
structure Mo where
  objs : List Ob
  rooms : List Ro
def Pr.h (p : Pr) : List Value := [.string p.name, .int .i64 3, .int .i64 p.v, .string ⟨#[]⟩, .bool p.fixed]
def Pr.r (p : Pr) : List Value := [.string p.name, .int .i64 p.v, .bool p.fixed]
def Ce.h (c : Ce) : List Value := [.string c.name, .int .i64 3, .int .i64 c.v, .string ⟨#[]⟩, .int .i64 c.kind, .bool c.ready]
def Ce.r (c : Ce) : List Value := [.string c.name, .int .i64 c.v, .int .i64 c.kind, .bool c.ready]
def Ob.h (o : Ob) : El := ⟨[.int .i64 o.code], o.ps.length, o.ps.flatMap Pr.h⟩
def Ob.r (o : Ob) : El := ⟨[], o.ps.length, o.ps.flatMap Pr.r⟩
def Ro.h (r : Ro) : El := ⟨[.int .i64 r.outer, .int .i64 r.object], r.cs.length, r.cs.flatMap Ce.h⟩
def Ro.r (r : Ro) : El := ⟨[.int .i64 r.outer, .int .i64 r.object], r.cs.length, r.cs.flatMap Ce.r⟩
def isN (nm : ByteArray) (x : ByteArray) : Bool := x.toList == nm.toList
def fP (nm : ByteArray) (ps : List Pr) : Option Nat := ps.findIdx? fun p => isN nm p.name
def fC (nm : ByteArray) (cs : List Ce) : Option Nat := cs.findIdx? fun c => isN nm c.name
theorem fm_get {α : Type} {f : α → List Value} {s : Nat} (hf : ∀ a, (f a).length = s) : ∀ (l : List α) (k j : Nat), j < s → (l.flatMap f)[k * s + j]? = (l[k]?).bind fun a => (f a)[j]?
  | [], k, j, _ => by simp
  | a :: l, 0, j, hj => by
    rw [List.flatMap_cons, Nat.zero_mul, Nat.zero_add, List.getElem?_append_left (by rw [hf]; exact hj)]
    rfl
  | a :: l, k + 1, j, hj => by
    have h := fm_get hf l k j hj
    rw [List.flatMap_cons, show (k + 1) * s + j = (f a).length + (k * s + j) by rw [hf, Nat.add_mul]; omega, List.getElem?_append_right (by omega), Nat.add_sub_cancel_left, h]
    rfl
theorem fm_len {α : Type} {f : α → List Value} {s : Nat} (hf : ∀ a, (f a).length = s) (l : List α) : (l.flatMap f).length = l.length * s := by
  induction l with
  | nil => simp
  | cons a l ih => rw [List.flatMap_cons, List.length_append, ih, hf, List.length_cons, Nat.add_mul]; omega
structure HP (H : Nat) (w : World) (M : Mo) (ov sv : Value) (os ss : List Value) : Prop where
  blk : w.heap[H]? = some (.cells #[ov, sv] 26 (0, 0))
  ob : Tb H 73 2 88 5 w ov (M.objs.map Ob.h) os
  ro : Tb H 76 3 98 6 w sv (M.rooms.map Ro.h) ss
def HeapH (H : Nat) (w : World) (M : Mo) : Prop := ∃ ov sv os ss, HP H w M ov sv os ss
theorem HP.later {H : Nat} {w w' : World} {M : Mo} {ov sv : Value} {os ss : List Value} (h : HP H w M ov sv os ss) (hb : Below w.heap.size w w') : HP H w' M ov sv os ss :=
  ⟨(hb.block H (lt_of_block h.blk)).trans h.blk, h.ob.later hb, h.ro.later hb⟩
theorem HP.c {H : Nat} {w : World} {M : Mo} {ov sv : Value} {os ss : List Value} (h : HP H w M ov sv os ss) : w.cell? ⟨H, 0, none⟩ = some ov ∧ w.cell? ⟨H, 1, none⟩ = some sv ∧ w.frozen? ⟨H, 0, none⟩ = false ∧ w.frozen? ⟨H, 1, none⟩ = false ∧ H < w.heap.size := by
  refine ⟨?_, ?_, ?_, ?_, lt_of_block h.blk⟩
  · simp [World.cell?, h.blk]
  · simp [World.cell?, h.blk]
  · simp [World.frozen?, h.blk]
  · simp [World.frozen?, h.blk]
def pptr (s : Nat) : Value → Option Nat → Option Addr
  | .slice (some a) _ _, some k => some ⟨a.block, k * s, none⟩
  | _, _ => none
theorem pptr_none (s : Nat) (v : Value) : pptr s v none = none := by cases v <;> simp [pptr]

theorem at_outP (v : Value) (n : Nat) (hv : v = .slice none 0 0 ∧ n = 0 ∨ ∃ g cap, v = .slice (some ⟨g, 0, none⟩) n cap) (i : Int) (hi : i < 0 ∨ (n : Int) ≤ i) (w : World) :
    Calls Tryd.prog 38 #[v, .int .i64 i] w fun e w' => e = .returned (.pointer none) ∧ w' = w := by
  rcases hv with ⟨rfl, rfl⟩ | ⟨g, cap, rfl⟩
  · go_enter Tryd.func38, Tryd.ntmps38
    go_wp2
    all_goals go_ret
    all_goals exact ⟨rfl, rfl⟩
  · go_enter Tryd.func38, Tryd.ntmps38
    go_wp2
    all_goals first | omega | skip
    all_goals go_ret
    all_goals exact ⟨rfl, rfl⟩
theorem at_inP (g cap n : Nat) (i : Nat) (hi : i < n) (w : World) :
    Calls Tryd.prog 38 #[.slice (some ⟨g, 0, none⟩) n cap, .int .i64 (i : Int)] w fun e w' => e = .returned (.pointer (some ⟨g, i * 2, none⟩)) ∧ w' = w := by
  go_enter Tryd.func38, Tryd.ntmps38
  go_wp2
  all_goals first | omega | skip
  all_goals go_ret
  all_goals exact ⟨rfl, rfl⟩
theorem is_anyP (b : Nat) (k : Nat) (s x : ByteArray) (z : Nat) (w : World) (h : w.cell? ⟨b, k, none⟩ = some (.string x)) (hz : w.cell? ⟨z, 0, none⟩ = some (.string s)) :
    Calls Tryd.prog 56 #[.pointer (some ⟨b, k, none⟩), .pointer (some ⟨z, 0, none⟩)] w fun e w' => e = .returned (.bool (x.toList == s.toList)) ∧ w' = w.drew := by
  go_enter Tryd.func56, Tryd.ntmps56
  go_wp2
  go_region_with fail
  all_goals go_wp2
  all_goals go_ret
  all_goals exact ⟨rfl, rfl⟩
theorem first_anyP (v : Value) (bs : List Pr) (base : Nat) (s : ByteArray) (z : Nat) (w : World) (hrow : w.ownsRow base 88 5 v bs.length (bs.flatMap Pr.h)) (hm : bs.length ≤ 1000000) (hz : w.cell? ⟨z, 0, none⟩ = some (.string s)) :
    Calls Tryd.prog 55 #[v, .func (.func 56) #[] #[.pointer (some ⟨z, 0, none⟩)]] w fun e w' => e = .returned (.pointer (pptr 5 v (fP s bs))) ∧ Below w.heap.size w w' := by
  rcases row_form hrow with ⟨rfl, hn⟩ | ⟨g, cap, rfl⟩
  · have : bs = [] := List.length_eq_zero_iff.1 hn
    subst this
    clear hrow hn hm
    go_enter Tryd.func55, Tryd.ntmps55
    go_wp2_with fail
    go_loopw [8] (fun i wr => i = .int .i64 0 ∧ Below w.heap.size w wr) (fun i _ => 0)
    case atStart => exact ⟨rfl, Below.refl _ _⟩
    case round =>
      obtain ⟨rfl, hb⟩ := hrel
      go_wp2_with fail
      go_ret
      exact ⟨rfl, hb⟩
  · have hlt := (hrow.lt g rfl).2
    have HZL := hide (World.block_lt_of_cell? w _ hz)
    have HCELL : Hid (∀ k b, bs[k]? = some b → w.cell? ⟨g, k * 5, none⟩ = some (.string b.name)) := fun k b hb => by
      have hk : k < bs.length := (List.getElem?_eq_some_iff.1 hb).1
      have h := hrow.cellAt (k * 5 + 0) (by omega)
      rw [fm_get (s := 5) (fun _ => rfl) bs k 0 (by decide), hb] at h
      simpa [Pr.h] using h
    have HZ := hide hz
    have HLT := hide hlt
    clear hrow hz hlt
    go_enter Tryd.func55, Tryd.ntmps55
    go_wp2_with fail
    go_loopw [8] (fun i wr => ∃ k : Nat, k ≤ bs.length ∧ i = .int .i64 k ∧ (∀ j b, j < k → bs[j]? = some b → isN s b.name = false) ∧ Below w.heap.size w wr) (fun i _ => bs.length - (intOf i).toNat)
    case atStart => exact ⟨0, Nat.zero_le _, rfl, fun j b hj => absurd hj (Nat.not_lt_zero _), Below.refl _ _⟩
    case round =>
      obtain ⟨k, hk, rfl, hno, hb⟩ := hrel
      have HNO := hide hno
      have HB := hide hb
      clear hno hb
      by_cases hlt : k < bs.length
      · obtain ⟨b, hbk⟩ : ∃ b, bs[k]? = some b := ⟨_, List.getElem?_eq_getElem hlt⟩
        have h1 : wr.cell? ⟨g, k * 5, none⟩ = some (.string b.name) := (cell_below HB.out (a := ⟨g, k * 5, none⟩) HLT.out).trans (HCELL.out k b hbk)
        have h2 : wr.cell? ⟨z, 0, none⟩ = some (.string s) := (cell_below HB.out (a := ⟨z, 0, none⟩) HZL.out).trans HZ.out
        have HC := hide (is_anyP g (k * 5) s b.name z wr h1 h2)
        have HBK := hide hbk
        clear h1 h2 hbk
        cases hx : (b.name.toList == s.toList)
        · rw [hx] at HC
          have HX := hide hx
          clear hx
          go_wp2_with fail
          refine Calls.mono HC.out ?_
          rintro e w2 ⟨rfl, rfl⟩
          go_wp2_with fail
          go_roundw
          case rel =>
            refine ⟨k + 1, by omega, by go_num, ?_, HB.out.drew⟩
            intro j b' hj hb'
            rcases Nat.lt_or_ge j k with h | h
            · exact HNO.out j b' h hb'
            · have : j = k := by omega
              subst this
              rw [HBK.out] at hb'
              cases hb'
              exact HX.out
          case measure => simp [intOf]; omega
        · rw [hx] at HC
          have HX := hide hx
          clear hx
          go_wp2_with fail
          refine Calls.mono HC.out ?_
          rintro e w2 ⟨rfl, rfl⟩
          go_wp2_with fail
          go_ret
          have hf : fP s bs = some k := by
            rw [fP, List.findIdx?_eq_some_iff_getElem]
            refine ⟨hlt, ?_, ?_⟩
            · have := HBK.out
              rw [List.getElem?_eq_getElem hlt] at this
              rw [Option.some.inj this]
              exact HX.out
            · intro j hj
              have := HNO.out j bs[j] hj (List.getElem?_eq_getElem (by omega))
              simpa using this
          rw [hf]
          exact ⟨rfl, HB.out.drew⟩
      · have hke : k = bs.length := by omega
        subst hke
        go_wp2_with fail
        go_ret
        have hf : fP s bs = none := by
          rw [fP, List.findIdx?_eq_none_iff]
          intro b hb
          obtain ⟨j, hj, rfl⟩ := List.mem_iff_getElem.1 hb
          exact HNO.out j _ hj (List.getElem?_eq_getElem hj)
        rw [hf]
        exact ⟨rfl, HB.out⟩
theorem of_noneP (s : ByteArray) (w : World) :
    Calls Tryd.prog 41 #[.pointer none, .string s] w fun e w' => e = .returned (.pointer none) ∧ Below w.heap.size w w' := by
  go_enter Tryd.func41, Tryd.ntmps41
  go_wp2_with fail
  go_ret
  exact ⟨rfl, (Below.refl _ _).alloc (Nat.le_refl _) _⟩
theorem of_anyP (g k : Nat) (v : Value) (bs : List Pr) (base : Nat) (s : ByteArray) (w : World) (h : w.cell? ⟨g, k + 1, none⟩ = some v) (hrow : w.ownsRow base 88 5 v bs.length (bs.flatMap Pr.h)) (hm : bs.length ≤ 1000000) :
    Calls Tryd.prog 41 #[.pointer (some ⟨g, k, none⟩), .string s] w fun e w' => e = .returned (.pointer (pptr 5 v (fP s bs))) ∧ Below w.heap.size w w' := by
  have hg := World.block_lt_of_cell? w _ h
  have hg' : g < w.heap.size := hg
  have HC := hide (first_anyP v bs base s w.heap.size (w.alloc (.cells #[.string s] 9)) (hrow.alloc _) hm (by simp))
  have hv := row_form hrow
  clear hg hrow
  go_enter Tryd.func41, Tryd.ntmps41
  rcases hv with ⟨rfl, hn⟩ | ⟨g', cap, rfl⟩
  all_goals
    go_wp2_with fail
    refine Calls.mono HC.out ?_
    rintro e w' ⟨rfl, hb⟩
    have HB := hide hb
    clear hb
    go_wp2_with fail
    go_ret
    refine ⟨rfl, ((Below.refl _ _).alloc (Nat.le_refl _) _).trans (HB.out.mono (by simp))⟩

theorem at_outC (v : Value) (n : Nat) (hv : v = .slice none 0 0 ∧ n = 0 ∨ ∃ g cap, v = .slice (some ⟨g, 0, none⟩) n cap) (i : Int) (hi : i < 0 ∨ (n : Int) ≤ i) (w : World) :
    Calls Tryd.prog 37 #[v, .int .i64 i] w fun e w' => e = .returned (.pointer none) ∧ w' = w := by
  rcases hv with ⟨rfl, rfl⟩ | ⟨g, cap, rfl⟩
  · go_enter Tryd.func37, Tryd.ntmps37
    go_wp2
    all_goals go_ret
    all_goals exact ⟨rfl, rfl⟩
  · go_enter Tryd.func37, Tryd.ntmps37
    go_wp2
    all_goals first | omega | skip
    all_goals go_ret
    all_goals exact ⟨rfl, rfl⟩
theorem at_inC (g cap n : Nat) (i : Nat) (hi : i < n) (w : World) :
    Calls Tryd.prog 37 #[.slice (some ⟨g, 0, none⟩) n cap, .int .i64 (i : Int)] w fun e w' => e = .returned (.pointer (some ⟨g, i * 3, none⟩)) ∧ w' = w := by
  go_enter Tryd.func37, Tryd.ntmps37
  go_wp2
  all_goals first | omega | skip
  all_goals go_ret
  all_goals exact ⟨rfl, rfl⟩
theorem is_anyC (b : Nat) (k : Nat) (s x : ByteArray) (z : Nat) (w : World) (h : w.cell? ⟨b, k, none⟩ = some (.string x)) (hz : w.cell? ⟨z, 0, none⟩ = some (.string s)) :
    Calls Tryd.prog 59 #[.pointer (some ⟨b, k, none⟩), .pointer (some ⟨z, 0, none⟩)] w fun e w' => e = .returned (.bool (x.toList == s.toList)) ∧ w' = w.drew := by
  go_enter Tryd.func59, Tryd.ntmps59
  go_wp2
  go_region_with fail
  all_goals go_wp2
  all_goals go_ret
  all_goals exact ⟨rfl, rfl⟩
theorem first_anyC (v : Value) (bs : List Ce) (base : Nat) (s : ByteArray) (z : Nat) (w : World) (hrow : w.ownsRow base 98 6 v bs.length (bs.flatMap Ce.h)) (hm : bs.length ≤ 1000000) (hz : w.cell? ⟨z, 0, none⟩ = some (.string s)) :
    Calls Tryd.prog 58 #[v, .func (.func 59) #[] #[.pointer (some ⟨z, 0, none⟩)]] w fun e w' => e = .returned (.pointer (pptr 6 v (fC s bs))) ∧ Below w.heap.size w w' := by
  rcases row_form hrow with ⟨rfl, hn⟩ | ⟨g, cap, rfl⟩
  · have : bs = [] := List.length_eq_zero_iff.1 hn
    subst this
    clear hrow hn hm
    go_enter Tryd.func58, Tryd.ntmps58
    go_wp2_with fail
    go_loopw [8] (fun i wr => i = .int .i64 0 ∧ Below w.heap.size w wr) (fun i _ => 0)
    case atStart => exact ⟨rfl, Below.refl _ _⟩
    case round =>
      obtain ⟨rfl, hb⟩ := hrel
      go_wp2_with fail
      go_ret
      exact ⟨rfl, hb⟩
  · have hlt := (hrow.lt g rfl).2
    have HZL := hide (World.block_lt_of_cell? w _ hz)
    have HCELL : Hid (∀ k b, bs[k]? = some b → w.cell? ⟨g, k * 6, none⟩ = some (.string b.name)) := fun k b hb => by
      have hk : k < bs.length := (List.getElem?_eq_some_iff.1 hb).1
      have h := hrow.cellAt (k * 6 + 0) (by omega)
      rw [fm_get (s := 6) (fun _ => rfl) bs k 0 (by decide), hb] at h
      simpa [Ce.h] using h
    have HZ := hide hz
    have HLT := hide hlt
    clear hrow hz hlt
    go_enter Tryd.func58, Tryd.ntmps58
    go_wp2_with fail
    go_loopw [8] (fun i wr => ∃ k : Nat, k ≤ bs.length ∧ i = .int .i64 k ∧ (∀ j b, j < k → bs[j]? = some b → isN s b.name = false) ∧ Below w.heap.size w wr) (fun i _ => bs.length - (intOf i).toNat)
    case atStart => exact ⟨0, Nat.zero_le _, rfl, fun j b hj => absurd hj (Nat.not_lt_zero _), Below.refl _ _⟩
    case round =>
      obtain ⟨k, hk, rfl, hno, hb⟩ := hrel
      have HNO := hide hno
      have HB := hide hb
      clear hno hb
      by_cases hlt : k < bs.length
      · obtain ⟨b, hbk⟩ : ∃ b, bs[k]? = some b := ⟨_, List.getElem?_eq_getElem hlt⟩
        have h1 : wr.cell? ⟨g, k * 6, none⟩ = some (.string b.name) := (cell_below HB.out (a := ⟨g, k * 6, none⟩) HLT.out).trans (HCELL.out k b hbk)
        have h2 : wr.cell? ⟨z, 0, none⟩ = some (.string s) := (cell_below HB.out (a := ⟨z, 0, none⟩) HZL.out).trans HZ.out
        have HC := hide (is_anyC g (k * 6) s b.name z wr h1 h2)
        have HBK := hide hbk
        clear h1 h2 hbk
        cases hx : (b.name.toList == s.toList)
        · rw [hx] at HC
          have HX := hide hx
          clear hx
          go_wp2_with fail
          refine Calls.mono HC.out ?_
          rintro e w2 ⟨rfl, rfl⟩
          go_wp2_with fail
          go_roundw
          case rel =>
            refine ⟨k + 1, by omega, by go_num, ?_, HB.out.drew⟩
            intro j b' hj hb'
            rcases Nat.lt_or_ge j k with h | h
            · exact HNO.out j b' h hb'
            · have : j = k := by omega
              subst this
              rw [HBK.out] at hb'
              cases hb'
              exact HX.out
          case measure => simp [intOf]; omega
        · rw [hx] at HC
          have HX := hide hx
          clear hx
          go_wp2_with fail
          refine Calls.mono HC.out ?_
          rintro e w2 ⟨rfl, rfl⟩
          go_wp2_with fail
          go_ret
          have hf : fC s bs = some k := by
            rw [fC, List.findIdx?_eq_some_iff_getElem]
            refine ⟨hlt, ?_, ?_⟩
            · have := HBK.out
              rw [List.getElem?_eq_getElem hlt] at this
              rw [Option.some.inj this]
              exact HX.out
            · intro j hj
              have := HNO.out j bs[j] hj (List.getElem?_eq_getElem (by omega))
              simpa using this
          rw [hf]
          exact ⟨rfl, HB.out.drew⟩
      · have hke : k = bs.length := by omega
        subst hke
        go_wp2_with fail
        go_ret
        have hf : fC s bs = none := by
          rw [fC, List.findIdx?_eq_none_iff]
          intro b hb
          obtain ⟨j, hj, rfl⟩ := List.mem_iff_getElem.1 hb
          exact HNO.out j _ hj (List.getElem?_eq_getElem hj)
        rw [hf]
        exact ⟨rfl, HB.out⟩
theorem of_noneC (s : ByteArray) (w : World) :
    Calls Tryd.prog 45 #[.pointer none, .string s] w fun e w' => e = .returned (.pointer none) ∧ Below w.heap.size w w' := by
  go_enter Tryd.func45, Tryd.ntmps45
  go_wp2_with fail
  go_ret
  exact ⟨rfl, (Below.refl _ _).alloc (Nat.le_refl _) _⟩
theorem of_anyC (g k : Nat) (v : Value) (bs : List Ce) (base : Nat) (s : ByteArray) (w : World) (h : w.cell? ⟨g, k + 2, none⟩ = some v) (hrow : w.ownsRow base 98 6 v bs.length (bs.flatMap Ce.h)) (hm : bs.length ≤ 1000000) :
    Calls Tryd.prog 45 #[.pointer (some ⟨g, k, none⟩), .string s] w fun e w' => e = .returned (.pointer (pptr 6 v (fC s bs))) ∧ Below w.heap.size w w' := by
  have hg := World.block_lt_of_cell? w _ h
  have hg' : g < w.heap.size := hg
  have HC := hide (first_anyC v bs base s w.heap.size (w.alloc (.cells #[.string s] 9)) (hrow.alloc _) hm (by simp))
  have hv := row_form hrow
  clear hg hrow
  go_enter Tryd.func45, Tryd.ntmps45
  rcases hv with ⟨rfl, hn⟩ | ⟨g', cap, rfl⟩
  all_goals
    go_wp2_with fail
    refine Calls.mono HC.out ?_
    rintro e w' ⟨rfl, hb⟩
    have HB := hide hb
    clear hb
    go_wp2_with fail
    go_ret
    refine ⟨rfl, ((Below.refl _ _).alloc (Nat.le_refl _) _).trans (HB.out.mono (by simp))⟩
end Go.Proofs.YtomogijjkdiomaaDoor
