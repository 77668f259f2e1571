/-
  Walks of the readers of package lex: fail, escaped, HasPrefix; what a reader hands back ('RPost').
-/
import Derived.Test.YtlpbpcdjifadiaaDoorLaid
import Derived.Test.YtlpbpcdjifadiaaDoorName
namespace Go.Proofs.YtlpbpcdjifadiaaDoor
open Go.RowKit

theorem bcell {W w1 : World} (hb : Below W.heap.size W w1) : (∀ b o, b < W.heap.size → w1.cell? ⟨b, o, none⟩ = W.cell? ⟨b, o, none⟩) ∧ (∀ b o, b < W.heap.size → w1.frozen? ⟨b, o, none⟩ = W.frozen? ⟨b, o, none⟩) :=
  ⟨fun b o h => hb.cell (p := ⟨b, o, none⟩) h, fun b o h => hb.frozen (p := ⟨b, o, none⟩) h⟩

/-- What is read at a place: a token and the place behind it, or an error and its place. -/
inductive Rd where
  | tok (kd : Int) (tx : ByteArray) (n : Int) (e : Nat)
  | bad (er : Int) (p : Nat)

abbrev noTok : Value := .agg #[.int .i64 0, .string ⟨#[]⟩, .int .i64 0, .int .i64 0]

def RPost (k : Nat) (r : Rd) (w : World) (e : Ending) (w' : World) : Prop :=
  match r with
  | .tok kd tx n e' => e = .returned (.tuple #[.agg #[.int .i64 kd, .string tx, .int .i64 n, .int .i64 (k : Int)], .int .i64 (e' : Int), .nilIface]) ∧ Below w.heap.size w w'
  | .bad er p => ∃ b, e = .returned (.tuple #[noTok, .int .i64 0, .iface 58 (.pointer (some ⟨b, 0, none⟩))]) ∧ w'.heap[b]? = some (.cells #[.int .i64 er, .int .i64 (p : Int)] 60 (0, 0)) ∧ w.heap.size ≤ b ∧ Below w.heap.size w w'

/-- Behind a failure the reader's own result cell is written once more. -/
theorem bad_end {w w1 : World} {b : Nat} {o X : Obj} (hbel : Below (w.alloc o).heap.size (w.alloc o) w1) (hlb : (w.alloc o).heap.size ≤ b) (hb : w1.heap[b]? = some X) (v0 v1 v2 v3 : Value) :
    ((((w1.setCell ⟨w.heap.size, 0, none⟩ v0).setCell ⟨w.heap.size, 1, none⟩ v1).setCell ⟨w.heap.size, 2, none⟩ v2).setCell ⟨w.heap.size, 3, none⟩ v3).heap[b]? = some X ∧ w.heap.size ≤ b ∧
      Below w.heap.size w ((((w1.setCell ⟨w.heap.size, 0, none⟩ v0).setCell ⟨w.heap.size, 1, none⟩ v1).setCell ⟨w.heap.size, 2, none⟩ v2).setCell ⟨w.heap.size, 3, none⟩ v3) := by
  have hz : (w.alloc o).heap.size = w.heap.size + 1 := by simp
  have hne : b ≠ w.heap.size := by omega
  have b0 : Below w.heap.size w (w.alloc o) := (Below.refl _ _).alloc (Nat.le_refl _) _
  have b1 : Below w.heap.size w w1 := b0.trans (hbel.mono (by omega))
  refine ⟨?_, by omega, (((b1.setCell (Nat.le_refl _) _).setCell (Nat.le_refl _) _).setCell (Nat.le_refl _) _).setCell (Nat.le_refl _) _⟩
  rw [Below.heap_setCell _ _ _ _ hne, Below.heap_setCell _ _ _ _ hne, Below.heap_setCell _ _ _ _ hne, Below.heap_setCell _ _ _ _ hne]
  exact hb

set_option maxHeartbeats 400000 in
theorem fail_any (er p : Int) (w : World) : Calls Tryd.prog 45 #[.int .i64 er, .int .i64 p] w fun e w' =>
    ∃ b, e = .returned (.tuple #[noTok, .int .i64 0, .iface 58 (.pointer (some ⟨b, 0, none⟩))]) ∧ w'.heap[b]? = some (.cells #[.int .i64 er, .int .i64 p] 60 (0, 0)) ∧ w.heap.size ≤ b ∧ Below w.heap.size w w' := by
  go_enter Tryd.func45, Tryd.ntmps45
  go_wp2
  refine bodyPost_ret (v := .tuple #[noTok, .int .i64 0, .iface 58 (.pointer (some ⟨w.heap.size + 1, 0, none⟩))]) (by simp [results, Tryd.results45, go_sem]) rfl ⟨_, rfl, ?_, by omega, ((Below.refl _ _).alloc (Nat.le_refl _) _).alloc (by simp) _⟩
  simpa using heap_alloc_new (w.alloc (.cells #[.int .i64 0, .string ⟨#[]⟩, .int .i64 0, .int .i64 0] 35)) (.cells #[.int .i64 er, .int .i64 p] 60)

/-- A text begins with another. -/
def pfxB (x p : ByteArray) : Bool := decide (p.size ≤ x.size) && ((x.extract 0 p.size).toList == p.toList)

set_option maxHeartbeats 400000 in
theorem hasPrefix_any (x p : ByteArray) (w : World) (_hx : x.size ≤ maxLen) (_hp : p.size ≤ maxLen) :
    Calls Tryd.prog 18 #[.string x, .string p] w fun e w' => e = .returned (.bool (pfxB x p)) ∧ w' = w := by
  unfold maxLen at _hx _hp
  by_cases h : p.size ≤ x.size
  · go_enter Tryd.func18, Tryd.ntmps18
    go_wp2
    go_ret
    exact ⟨ret_bool (by simp [pfxB, h]), rfl⟩
  · go_enter Tryd.func18, Tryd.ntmps18
    go_wp2
    go_ret
    exact ⟨ret_bool (by simp [pfxB, h]), rfl⟩

/-- The sign at a place: the first of the list with which the rest of the text begins. -/
def rdSign (gs : List ByteArray) (s : ByteArray) (k : Nat) : Rd :=
  match gs.find? (fun g => pfxB (s.extract k s.size) g) with
  | some g => .tok 5 g 0 (k + g.size)
  | none => .bad 3 k

theorem find_hit {gs : List ByteArray} {f : ByteArray → Bool} {i : Nat} (hi : i < gs.length) (h0 : ∀ j, (hj : j < i) → f (gs[j]'(by omega)) = false) (h : f gs[i] = true) : gs.find? f = some gs[i] := by
  rw [List.find?_eq_some_iff_getElem]
  exact ⟨h, i, hi, rfl, fun j hj => by rw [h0 j hj]; rfl⟩
theorem find_none {gs : List ByteArray} {f : ByteArray → Bool} (h0 : ∀ j, (hj : j < gs.length) → f gs[j] = false) : gs.find? f = none := by
  rw [List.find?_eq_none]
  intro x hx
  obtain ⟨j, hj, rfl⟩ := List.getElem_of_mem hx
  rw [h0 j hj]; simp

theorem extract_size (s : ByteArray) (a b : Nat) (h1 : a ≤ b) (h2 : b ≤ s.size) : (s.extract a b).size = b - a := by
  simp; omega

set_option maxRecDepth 100000 in
set_option maxHeartbeats 1000000 in
theorem readSign_any (gs : List ByteArray) (s : ByteArray) (k : Nat) (w : World) (hs : s.size ≤ 3000) (hk : k < s.size) (hn : gs.length = 19) (hsz : ∀ i, i < 19 → (gs.getD i ByteArray.empty).size ≤ 3) (t : TypeId) (fr : Nat × Nat)
    (hg : w.heap[3]? = some (.cells (gs.map Value.string).toArray t fr)) :
    Calls Tryd.prog 35 #[.string s, .int .i64 (k : Int)] w (RPost k (rdSign gs s k) w) := by
  obtain ⟨cs, hcs⟩ : ∃ cs, cs = (gs.map Value.string).toArray := ⟨_, rfl⟩
  rw [← hcs] at hg
  have hsz1 : cs.size = 19 := by rw [hcs]; simpa using hn
  have hix : ∀ k : Nat, k < 19 → ∀ W, (Instr.index 53 (.agg cs) (.int .i64 (k : Int))).run Tryd.prog W = .ok (.string (gs.getD k ByteArray.empty)) W := fun k hk W =>
    idx53 cs k hk _ (by rw [hcs]; simp [hn, hk]) W
  have HIX := hide hix
  have Hcs := hide hcs
  have Hsz := hide hsz
  have Hsz1 := hide hsz1
  have Hn := hide hn
  have Hg : Hid ((w.alloc (.cells #[.int .i64 0, .string ⟨#[]⟩, .int .i64 0, .int .i64 0] 35)).heap[3]? = some (.cells cs t fr)) := by
    have hlt : 3 < w.heap.size := (Array.getElem?_eq_some_iff.1 hg).1
    show _ = _
    rw [Below.heap_alloc w _ 3 hlt]; exact hg
  clear hix hcs hsz hg hn hsz1
  go_enter Tryd.func35, Tryd.ntmps35
  go_wp2_with (refine wpList_load_row rfl 53 _ rfl 3 rfl t cs fr _ (unhide Hg) Tryd.underlying53 rfl (by rw [unhide Hsz1]; kernel_rfl) ?_)
  go_loopw [8, 10] (fun _ i wr => ∃ j : Nat, j ≤ 19 ∧ i = .int .i64 j ∧ (∀ q, q < j → pfxB (s.extract k s.size) (gs.getD q ByteArray.empty) = false) ∧ wr = w.alloc (.cells #[.int .i64 0, .string ⟨#[]⟩, .int .i64 0, .int .i64 0] 35)) (fun _ i _ => 19 - (intOf i).toNat)
  case atStart => exact ⟨0, Nat.zero_le _, rfl, fun q hq => absurd hq (Nat.not_lt_zero _), rfl⟩
  case round =>
    obtain ⟨j, hj, rfl, he, rfl⟩ := hrel
    have HE := hide he
    clear he
    by_cases hlt : j < 19
    · have hck := unhide HIX j hlt
      have hgz := unhide Hsz j hlt
      obtain ⟨g, hg⟩ : ∃ g, g = gs.getD j ByteArray.empty := ⟨_, rfl⟩
      rw [← hg] at hck hgz
      have HGJ := hide hg
      clear hg
      cases hp : pfxB (s.extract k s.size) g
      · have HP := hide hp
        clear hp
        go_wp2_with fail
        refine (hasPrefix_any _ _ _ (by unfold maxLen; simp; omega) (by unfold maxLen; omega)).mono ?_
        rw [unhide HP]
        rintro e w' ⟨rfl, rfl⟩
        go_wp2_with fail
        go_roundw
        case rel => exact ⟨j + 1, by omega, by go_num, fun q hq => by (by_cases hqj : q = j); (rw [hqj, ← unhide HGJ]; exact unhide HP); exact unhide HE q (by omega), by trivial⟩
        case measure => simp [intOf]; omega
      · have HP := hide hp
        clear hp
        go_wp2_with fail
        refine (hasPrefix_any _ _ _ (by unfold maxLen; simp; omega) (by unfold maxLen; omega)).mono ?_
        rw [unhide HP]
        rintro e w' ⟨rfl, rfl⟩
        go_wp2_with fail
        have hr : rdSign gs s k = .tok 5 g 0 (k + g.size) := by
          unfold rdSign
          have hgj : g = gs[j]'(by rw [unhide Hn]; exact hlt) := by rw [unhide HGJ, List.getD_eq_getElem?_getD, List.getElem?_eq_getElem (by rw [unhide Hn]; exact hlt)]; rfl
          rw [find_hit (i := j) (by rw [unhide Hn]; exact hlt) (fun q hq => by
            have := unhide HE q hq
            rw [List.getD_eq_getElem?_getD, List.getElem?_eq_getElem (by rw [unhide Hn]; omega)] at this
            exact this) (by rw [← hgj]; exact unhide HP), ← hgj]
        rw [hr]
        exact bodyPost_ret (v := .tuple #[.agg #[.int .i64 5, .string g, .int .i64 0, .int .i64 (k : Int)], .int .i64 ((k : Int) + (g.size : Int)), .nilIface]) (by simp [results, Tryd.results35, go_sem]) rfl ⟨by simp, (Below.refl _ _).alloc (Nat.le_refl _) _⟩
    · go_wp2_with fail
      refine (fail_any _ _ _).mono ?_
      rintro e w1 ⟨b, rfl, hb, hlb, hbel⟩
      obtain ⟨hc, hf⟩ := bcell hbel
      have HB := hide hb
      have HBEL := hide hbel
      clear hb hbel
      go_wp2_with fail
      have hr : rdSign gs s k = .bad 3 k := by
        unfold rdSign
        rw [find_none (fun q hq => by
          have := unhide HE q (by rw [unhide Hn] at hq; omega)
          rw [List.getD_eq_getElem?_getD, List.getElem?_eq_getElem hq] at this
          exact this)]
      rw [hr]
      exact bodyPost_ret (v := .tuple #[noTok, .int .i64 0, .iface 58 (.pointer (some ⟨b, 0, none⟩))]) (by simp [results, Tryd.results35, go_sem, hc]) rfl ⟨b, rfl, bad_end (unhide HBEL) hlb (unhide HB) _ _ _ _⟩

end Go.Proofs.YtlpbpcdjifadiaaDoor
