/-
  Walks of IsName: the project's (a statement that leaves its order open, with closures made and called in it) and the reference's.
-/
import Derived.Test.YtlpbpcdjifadiaaDoorWord
import Derived.Deep.RegionWith
import Derived.Deep.DrawnRows
namespace Go.Proofs.YtlpbpcdjifadiaaDoor
open Go.RowKit
attribute [local go_sem ↓] Go.wp_at_zero Go.wp_at_succ

theorem notEmpty (s : ByteArray) (h1 : 1 ≤ s.size) : s.toList.isEmpty = false := by
  rw [ByteArray.toList_eq]
  cases hd : s.data.toList with
  | nil =>
    have h2 : s.data.toList.length = 0 := by rw [hd]; rfl
    have h3 : s.size = s.data.toList.length := by simp
    omega
  | cons a l => rfl

section
variable {P : Program} {ops : Array Oper} {Q : Exit → Act → World → Prop} {md : Region.Mode}
/-- An operation whose guard says no, taken first. -/
theorem take_no {i : Nat} {oi : Oper} {fuel : Nat} {listed : Array Bool} {a : Act} {w : World} (hi : ops[i]? = some oi)
    (hs : Region.noSelect ops = true) (hf : Region.free md ops listed i = true) (hr : (Region.ready md ops listed).contains i = true)
    (hQ : ∀ c a w, Q (.panic c) (a.put oi.dst undef) w → Q (.panic c) a w) (hy : Region.wanted oi (yielded ops a.tmps) = false)
    (h : wpAny P md ops Q fuel (listed.setIfInBounds i true) (a.put oi.dst undef) w) : wpAny P md ops Q (fuel + 1) listed a w :=
  wpAny_take (v := undef) hi hs hf hr hQ (Or.inr ⟨hy, rfl⟩) h
end

set_option maxRecDepth 100000 in
set_option maxHeartbeats 1000000 in
theorem isName_bad1 (s : ByteArray) (w : World) (h1 : 1 ≤ s.size) (h2 : s.size ≤ 20) (hl : letB (s[0].toNat : Int) = false) :
    Calls Tryd.prog 9 #[.string s] w fun e w' => e = .returned (.bool false) ∧ Below w.heap.size w w' := by
  have he := notEmpty s h1
  have hpos : 0 < s.size := h1
  have HL := hide hl
  clear hl
  go_enter Tryd.func9, Tryd.ntmps9
  go_wp2
  refine wp_region_any (by kernel_rfl) ?_
  change wpAny _ _ _ _ _ _ _ (World.drew _)
  refine wpAny_take (i := 1) (v := .string s) rfl (by kernel_rfl) (by kernel_rfl) (by kernel_rfl) (fun _ _ _ h => h) (Or.inl ⟨by kernel_rfl, fun w => by go_simp⟩) ?_
  refine wpAny_take (i := 2) (v := .int .u8 (s[0].toNat : Int)) rfl (by kernel_rfl) (by kernel_rfl) (by kernel_rfl) (fun _ _ _ h => h) (Or.inl ⟨by kernel_rfl, fun w => by go_simp⟩) ?_
  refine wpAny_ready (rs := [0]) (by kernel_rfl) (by simp) (AllReady.cons rfl (fun K hK => ?_) AllReady.nil)
  go_simp
  refine (letter_any _).mono ?_
  rintro e w1 ⟨x, rfl, ⟨f1, c1, rfl, ef1, hf1⟩, hb1⟩
  refine hK _ _ ?_
  clear hK K
  refine wpAny_ready (rs := [3]) (by kernel_rfl) (by simp) (AllReady.cons rfl (fun K hK => ?_) AllReady.nil)
  go_simp
  refine Calls.mono (hf1 w1 (Below.refl _ _) _) ?_
  rw [unhide HL]
  rintro e w2 ⟨rfl, rfl⟩
  have HB1 := hide hb1
  clear hf1 hb1
  refine hK _ _ ?_
  clear hK K
  refine wpAny_take (i := 4) (v := .bool false) rfl (by kernel_rfl) (by kernel_rfl) (by kernel_rfl) (fun _ _ _ h => h) (Or.inl ⟨by kernel_rfl, fun w => by go_simp⟩) ?_
  refine take_no (i := 5) rfl (by kernel_rfl) (by kernel_rfl) (by kernel_rfl) (fun _ _ _ h => h) (by kernel_rfl) ?_
  refine take_no (i := 6) rfl (by kernel_rfl) (by kernel_rfl) (by kernel_rfl) (fun _ _ _ h => h) (by kernel_rfl) ?_
  refine take_no (i := 7) rfl (by kernel_rfl) (by kernel_rfl) (by kernel_rfl) (fun _ _ _ h => h) (by kernel_rfl) ?_
  refine take_no (i := 8) rfl (by kernel_rfl) (by kernel_rfl) (by kernel_rfl) (fun _ _ _ h => h) (by kernel_rfl) ?_
  refine take_no (i := 9) rfl (by kernel_rfl) (by kernel_rfl) (by kernel_rfl) (fun _ _ _ h => h) (by kernel_rfl) ?_
  refine take_no (i := 10) rfl (by kernel_rfl) (by kernel_rfl) (by kernel_rfl) (fun _ _ _ h => h) (by kernel_rfl) ?_
  refine wpAny_take (i := 11) (v := .bool false) rfl (by kernel_rfl) (by kernel_rfl) (by kernel_rfl) (fun _ _ _ h => h) (Or.inl ⟨by kernel_rfl, fun w => by go_simp⟩) ?_
  refine wpAny_take (i := 12) (v := .bool false) rfl (by kernel_rfl) (by kernel_rfl) (by kernel_rfl) (fun _ _ _ h => h) (Or.inl ⟨by kernel_rfl, fun w => by go_simp⟩) ?_
  refine take_no (i := 13) rfl (by kernel_rfl) (by kernel_rfl) (by kernel_rfl) (fun _ _ _ h => h) (by kernel_rfl) ?_
  refine take_no (i := 14) rfl (by kernel_rfl) (by kernel_rfl) (by kernel_rfl) (fun _ _ _ h => h) (by kernel_rfl) ?_
  refine take_no (i := 15) rfl (by kernel_rfl) (by kernel_rfl) (by kernel_rfl) (fun _ _ _ h => h) (by kernel_rfl) ?_
  refine wpAny_take (i := 16) (v := .bool false) rfl (by kernel_rfl) (by kernel_rfl) (by kernel_rfl) (fun _ _ _ h => h) (Or.inl ⟨by kernel_rfl, fun w => by go_simp⟩) ?_
  refine wpAny_take (i := 17) (v := .bool false) rfl (by kernel_rfl) (by kernel_rfl) (by kernel_rfl) (fun _ _ _ h => h) (Or.inl ⟨by kernel_rfl, fun w => by go_simp⟩) ?_
  refine wpAny_done (by kernel_rfl) ?_ _
  go_simp
  go_wp2
  go_ret
  exact ⟨rfl, (Below.refl _ _).drew.trans (unhide HB1)⟩

set_option maxRecDepth 100000 in
set_option maxHeartbeats 1000000 in
theorem isName_bad2 (s : ByteArray) (w : World) (hs : s.size ≤ maxLen) (h1 : 1 ≤ s.size) (h2 : s.size ≤ 20) (hl : letB (s[0].toNat : Int) = true) (hp : (((pastN lodB s 0 : Nat) : Int) == (s.size : Int)) = false) :
    Calls Tryd.prog 9 #[.string s] w fun e w' => e = .returned (.bool false) ∧ Below w.heap.size w w' := by
  have he := notEmpty s h1
  have hpos : 0 < s.size := h1
  have HL := hide hl
  have HS := hide hs
  clear hl hs
  go_enter Tryd.func9, Tryd.ntmps9
  go_wp2
  refine wp_region_any (by kernel_rfl) ?_
  change wpAny _ _ _ _ _ _ _ (World.drew _)
  refine wpAny_take (i := 1) (v := .string s) rfl (by kernel_rfl) (by kernel_rfl) (by kernel_rfl) (fun _ _ _ h => h) (Or.inl ⟨by kernel_rfl, fun w => by go_simp⟩) ?_
  refine wpAny_take (i := 2) (v := .int .u8 (s[0].toNat : Int)) rfl (by kernel_rfl) (by kernel_rfl) (by kernel_rfl) (fun _ _ _ h => h) (Or.inl ⟨by kernel_rfl, fun w => by go_simp⟩) ?_
  refine wpAny_ready (rs := [0]) (by kernel_rfl) (by simp) (AllReady.cons rfl (fun K hK => ?_) AllReady.nil)
  go_simp
  refine (letter_any _).mono ?_
  rintro e w1 ⟨x, rfl, ⟨f1, c1, rfl, ef1, hf1⟩, hb1⟩
  refine hK _ _ ?_
  clear hK K
  refine wpAny_ready (rs := [3]) (by kernel_rfl) (by simp) (AllReady.cons rfl (fun K hK => ?_) AllReady.nil)
  go_simp
  refine Calls.mono (hf1 w1 (Below.refl _ _) _) ?_
  rw [unhide HL]
  rintro e w2 ⟨rfl, rfl⟩
  have HB1 := hide hb1
  clear hf1 hb1
  refine hK _ _ ?_
  clear hK K
  refine wpAny_take (i := 4) (v := .bool true) rfl (by kernel_rfl) (by kernel_rfl) (by kernel_rfl) (fun _ _ _ h => h) (Or.inl ⟨by kernel_rfl, fun w => by go_simp⟩) ?_
  refine wpAny_take (i := 5) (v := .string s) rfl (by kernel_rfl) (by kernel_rfl) (by kernel_rfl) (fun _ _ _ h => h) (Or.inl ⟨by kernel_rfl, fun w => by go_simp⟩) ?_
  refine wpAny_take (i := 8) (v := .string s) rfl (by kernel_rfl) (by kernel_rfl) (by kernel_rfl) (fun _ _ _ h => h) (Or.inl ⟨by kernel_rfl, fun w => by go_simp⟩) ?_
  refine wpAny_take (i := 9) (v := .int .i64 (s.size : Int)) rfl (by kernel_rfl) (by kernel_rfl) (by kernel_rfl) (fun _ _ _ h => h) (Or.inl ⟨by kernel_rfl, fun w => by go_simp⟩) ?_
  refine wpAny_ready (rs := [6]) (by kernel_rfl) (by simp) (AllReady.cons rfl (fun K hK => ?_) AllReady.nil)
  go_simp
  refine (lod_any _).mono ?_
  rintro e w3 ⟨x2, rfl, hx2, hb2⟩
  have HX2 := hide hx2
  have HB2 := hide hb2
  clear hx2 hb2
  refine hK _ _ ?_
  clear hK K
  refine wpAny_ready (rs := [7]) (by kernel_rfl) (by simp) (AllReady.cons rfl (fun K hK => ?_) AllReady.nil)
  go_simp
  refine (past_any s 0 x2 lodB w3 (unhide HS) (Nat.zero_le _) (unhide HX2)).mono ?_
  rintro e w4 ⟨rfl, rfl⟩
  refine hK _ _ ?_
  clear hK K
  refine wpAny_take (i := 10) (v := .bool false) rfl (by kernel_rfl) (by kernel_rfl) (by kernel_rfl) (fun _ _ _ h => h) (Or.inl ⟨by kernel_rfl, fun w => by go_simp⟩) ?_
  refine wpAny_take (i := 11) (v := .bool false) rfl (by kernel_rfl) (by kernel_rfl) (by kernel_rfl) (fun _ _ _ h => h) (Or.inl ⟨by kernel_rfl, fun w => by go_simp⟩) ?_
  refine wpAny_take (i := 12) (v := .bool false) rfl (by kernel_rfl) (by kernel_rfl) (by kernel_rfl) (fun _ _ _ h => h) (Or.inl ⟨by kernel_rfl, fun w => by go_simp⟩) ?_
  refine take_no (i := 13) rfl (by kernel_rfl) (by kernel_rfl) (by kernel_rfl) (fun _ _ _ h => h) (by kernel_rfl) ?_
  refine take_no (i := 14) rfl (by kernel_rfl) (by kernel_rfl) (by kernel_rfl) (fun _ _ _ h => h) (by kernel_rfl) ?_
  refine take_no (i := 15) rfl (by kernel_rfl) (by kernel_rfl) (by kernel_rfl) (fun _ _ _ h => h) (by kernel_rfl) ?_
  refine wpAny_take (i := 16) (v := .bool false) rfl (by kernel_rfl) (by kernel_rfl) (by kernel_rfl) (fun _ _ _ h => h) (Or.inl ⟨by kernel_rfl, fun w => by go_simp⟩) ?_
  refine wpAny_take (i := 17) (v := .bool false) rfl (by kernel_rfl) (by kernel_rfl) (by kernel_rfl) (fun _ _ _ h => h) (Or.inl ⟨by kernel_rfl, fun w => by go_simp⟩) ?_
  refine wpAny_done (by kernel_rfl) ?_ _
  go_simp
  go_wp2
  go_ret
  exact ⟨rfl, (Below.refl _ _).drew.trans ((unhide HB1).trans ((unhide HB2).mono (unhide HB1).size))⟩

set_option maxRecDepth 100000 in
set_option maxHeartbeats 1000000 in
theorem isName_last (ws : List ByteArray) (s : ByteArray) (w : World) (hs : s.size ≤ maxLen) (h1 : 1 ≤ s.size) (h2 : s.size ≤ 20) (hl : letB (s[0].toNat : Int) = true) (hp : (((pastN lodB s 0 : Nat) : Int) == (s.size : Int)) = true)
    (hn : ws.length = 19) (t : TypeId) (fr : Nat × Nat) (hg : w.heap[1]? = some (.cells (ws.map Value.string).toArray t fr)) :
    Calls Tryd.prog 9 #[.string s] w fun e w' => e = .returned (.bool (!isIn ws s)) ∧ Below w.heap.size w w' := by
  have he := notEmpty s h1
  have hpos : 0 < s.size := h1
  have HL := hide hl
  have HS := hide hs
  have HG := hide hg
  have HN := hide hn
  clear hl hs hg hn
  go_enter Tryd.func9, Tryd.ntmps9
  go_wp2
  refine wp_region_any (by kernel_rfl) ?_
  change wpAny _ _ _ _ _ _ _ (World.drew _)
  refine wpAny_take (i := 1) (v := .string s) rfl (by kernel_rfl) (by kernel_rfl) (by kernel_rfl) (fun _ _ _ h => h) (Or.inl ⟨by kernel_rfl, fun w => by go_simp⟩) ?_
  refine wpAny_take (i := 2) (v := .int .u8 (s[0].toNat : Int)) rfl (by kernel_rfl) (by kernel_rfl) (by kernel_rfl) (fun _ _ _ h => h) (Or.inl ⟨by kernel_rfl, fun w => by go_simp⟩) ?_
  refine wpAny_ready (rs := [0]) (by kernel_rfl) (by simp) (AllReady.cons rfl (fun K hK => ?_) AllReady.nil)
  go_simp
  refine (letter_any _).mono ?_
  rintro e w1 ⟨x, rfl, ⟨f1, c1, rfl, ef1, hf1⟩, hb1⟩
  refine hK _ _ ?_
  clear hK K
  refine wpAny_ready (rs := [3]) (by kernel_rfl) (by simp) (AllReady.cons rfl (fun K hK => ?_) AllReady.nil)
  go_simp
  refine Calls.mono (hf1 w1 (Below.refl _ _) _) ?_
  rw [unhide HL]
  rintro e w2 ⟨rfl, rfl⟩
  have HB1 := hide hb1
  clear hf1 hb1
  refine hK _ _ ?_
  clear hK K
  refine wpAny_take (i := 4) (v := .bool true) rfl (by kernel_rfl) (by kernel_rfl) (by kernel_rfl) (fun _ _ _ h => h) (Or.inl ⟨by kernel_rfl, fun w => by go_simp⟩) ?_
  refine wpAny_take (i := 5) (v := .string s) rfl (by kernel_rfl) (by kernel_rfl) (by kernel_rfl) (fun _ _ _ h => h) (Or.inl ⟨by kernel_rfl, fun w => by go_simp⟩) ?_
  refine wpAny_take (i := 8) (v := .string s) rfl (by kernel_rfl) (by kernel_rfl) (by kernel_rfl) (fun _ _ _ h => h) (Or.inl ⟨by kernel_rfl, fun w => by go_simp⟩) ?_
  refine wpAny_take (i := 9) (v := .int .i64 (s.size : Int)) rfl (by kernel_rfl) (by kernel_rfl) (by kernel_rfl) (fun _ _ _ h => h) (Or.inl ⟨by kernel_rfl, fun w => by go_simp⟩) ?_
  refine wpAny_ready (rs := [6]) (by kernel_rfl) (by simp) (AllReady.cons rfl (fun K hK => ?_) AllReady.nil)
  go_simp
  refine (lod_any _).mono ?_
  rintro e w3 ⟨x2, rfl, hx2, hb2⟩
  have HX2 := hide hx2
  have HB2 := hide hb2
  clear hx2 hb2
  refine hK _ _ ?_
  clear hK K
  refine wpAny_ready (rs := [7]) (by kernel_rfl) (by simp) (AllReady.cons rfl (fun K hK => ?_) AllReady.nil)
  go_simp
  refine (past_any s 0 x2 lodB w3 (unhide HS) (Nat.zero_le _) (unhide HX2)).mono ?_
  rintro e w4 ⟨rfl, rfl⟩
  refine hK _ _ ?_
  clear hK K
  refine wpAny_take (i := 10) (v := .bool true) rfl (by kernel_rfl) (by kernel_rfl) (by kernel_rfl) (fun _ _ _ h => h) (Or.inl ⟨by kernel_rfl, fun w => by go_simp⟩) ?_
  refine wpAny_take (i := 11) (v := .bool true) rfl (by kernel_rfl) (by kernel_rfl) (by kernel_rfl) (fun _ _ _ h => h) (Or.inl ⟨by kernel_rfl, fun w => by go_simp⟩) ?_
  refine wpAny_take (i := 12) (v := .bool true) rfl (by kernel_rfl) (by kernel_rfl) (by kernel_rfl) (fun _ _ _ h => h) (Or.inl ⟨by kernel_rfl, fun w => by go_simp⟩) ?_
  refine wpAny_take (i := 13) (v := .string s) rfl (by kernel_rfl) (by kernel_rfl) (by kernel_rfl) (fun _ _ _ h => h) (Or.inl ⟨by kernel_rfl, fun w => by go_simp⟩) ?_
  refine wpAny_ready (rs := [14]) (by kernel_rfl) (by simp) (AllReady.cons rfl (fun K hK => ?_) AllReady.nil)
  go_simp
  have hb : Below w.heap.size w w4 := (Below.refl _ _).drew.trans ((unhide HB1).trans ((unhide HB2).mono (unhide HB1).size))
  have HB := hide hb
  have hlt : 1 < w.heap.size := (Array.getElem?_eq_some_iff.1 (unhide HG)).1
  refine (isWord_any ws s w4 (unhide HN) t fr (by rw [hb.block 1 hlt]; exact unhide HG)).mono ?_
  clear hb
  rintro e w5 ⟨rfl, rfl⟩
  refine hK _ _ ?_
  clear hK K
  refine wpAny_take (i := 15) (v := .bool (!isIn ws s)) rfl (by kernel_rfl) (by kernel_rfl) (by kernel_rfl) (fun _ _ _ h => h) (Or.inl ⟨by kernel_rfl, fun w => by go_simp⟩) ?_
  refine wpAny_take (i := 16) (v := .bool (!isIn ws s)) rfl (by kernel_rfl) (by kernel_rfl) (by kernel_rfl) (fun _ _ _ h => h) (Or.inl ⟨by kernel_rfl, fun w => by go_simp⟩) ?_
  refine wpAny_take (i := 17) (v := .bool (!isIn ws s)) rfl (by kernel_rfl) (by kernel_rfl) (by kernel_rfl) (fun _ _ _ h => h) (Or.inl ⟨by kernel_rfl, fun w => by go_simp⟩) ?_
  refine wpAny_done (by kernel_rfl) ?_ _
  go_simp
  go_wp2
  go_ret
  exact ⟨rfl, unhide HB⟩

set_option maxHeartbeats 400000 in
theorem isName_short (s : ByteArray) (w : World) (h1 : s.size = 0) :
    Calls Tryd.prog 9 #[.string s] w fun e w' => e = .returned (.bool false) ∧ w' = w := by
  have he : s.toList.isEmpty = true := by
    rw [ByteArray.toList_eq]
    have h3 : s.size = s.data.toList.length := by simp
    rw [List.isEmpty_iff_length_eq_zero]; omega
  clear h1
  go_enter Tryd.func9, Tryd.ntmps9
  go_wp2
  go_ret
  exact ⟨rfl, rfl⟩

set_option maxHeartbeats 400000 in
theorem isName_long (s : ByteArray) (w : World) (h1 : 20 < s.size) :
    Calls Tryd.prog 9 #[.string s] w fun e w' => e = .returned (.bool false) ∧ w' = w := by
  have he := notEmpty s (by omega)
  go_enter Tryd.func9, Tryd.ntmps9
  go_wp2
  go_ret
  exact ⟨rfl, rfl⟩

/-- What IsName tells of a text. -/
def nameB (ws : List ByteArray) (s : ByteArray) : Bool :=
  decide (1 ≤ s.size) && (decide (s.size ≤ 20) && (letB (((s.data.toList.getD 0 0).toNat : Nat) : Int) && ((((pastN lodB s 0 : Nat) : Int) == (s.size : Int)) && !isIn ws s)))

theorem head_eq (s : ByteArray) (h : 1 ≤ s.size) : s.data.toList.getD 0 0 = s[0] := by
  have h3 : 0 < s.data.toList.length := by (have h4 : s.data.toList.length = s.size := by simp); omega
  rw [List.getD_eq_getElem?_getD, List.getElem?_eq_getElem h3]; rfl

/-- lex.IsName. -/
theorem isName_any (ws : List ByteArray) (s : ByteArray) (w : World) (hs : s.size ≤ maxLen)
    (hn : ws.length = 19) (t : TypeId) (fr : Nat × Nat) (hg : w.heap[1]? = some (.cells (ws.map Value.string).toArray t fr)) :
    Calls Tryd.prog 9 #[.string s] w fun e w' => e = .returned (.bool (nameB ws s)) ∧ Below w.heap.size w w' := by
  by_cases h1 : 1 ≤ s.size
  · by_cases h2 : s.size ≤ 20
    · have hh := head_eq s h1
      cases hl : letB (s[0].toNat : Int)
      · have e : nameB ws s = false := by unfold nameB; rw [hh, hl]; simp
        rw [e]; exact isName_bad1 s w h1 h2 hl
      · cases hp : (((pastN lodB s 0 : Nat) : Int) == (s.size : Int))
        · have e : nameB ws s = false := by unfold nameB; rw [hh, hl, hp]; simp
          rw [e]; exact isName_bad2 s w hs h1 h2 hl hp
        · have e : nameB ws s = !isIn ws s := by unfold nameB; rw [hh, hl, hp]; simp [h1, h2]
          rw [e]; exact isName_last ws s w hs h1 h2 hl hp hn t fr hg
    · have e : nameB ws s = false := by simp [nameB, h2]
      rw [e]; exact (isName_long s w (by omega)).mono (fun _ _ ⟨a, b⟩ => ⟨a, b ▸ Below.refl _ _⟩)
  · have e : nameB ws s = false := by simp [nameB, h1]
    rw [e]; exact (isName_short s w (by omega)).mono (fun _ _ ⟨a, b⟩ => ⟨a, b ▸ Below.refl _ _⟩)

end Go.Proofs.YtlpbpcdjifadiaaDoor
