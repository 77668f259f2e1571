/-
  The walk of the reference's IsName: a loop over the text's bytes, then the bounds and the list of words; it tells what the project's IsName tells.
-/
import Derived.Test.YtlpbpcdjifadiaaDoorName
namespace Go.Proofs.YtlpbpcdjifadiaaDoor
open Go.RowKit

theorem past_all (p : Int → Bool) (s : ByteArray) (h : ∀ i, (hi : i < s.size) → p (s[i].toNat : Int) = true) : ∀ n k, n + k = s.size → pastN p s k = s.size
  | 0, k, e => by rw [pastN_end p s k (by omega)]; omega
  | n + 1, k, e => by rw [← pastN_go p s k (by omega) (h k (by omega))]; exact past_all p s h n (k + 1) (by omega)

theorem past_bad (p : Int → Bool) (s : ByteArray) (i : Nat) (hi : i < s.size) (hp : p (s[i].toNat : Int) = false) : ∀ n k, n + k = i → pastN p s k ≠ s.size
  | 0, k, e => by
    have e' : k = i := by omega
    subst e'
    rw [pastN_stop p s k hi hp]; omega
  | n + 1, k, e => by
    cases hk : p ((s[k]'(by omega)).toNat : Int)
    · rw [pastN_stop p s k (by omega) hk]; omega
    · rw [← pastN_go p s k (by omega) hk]; exact past_bad p s i hi hp n (k + 1) (by omega)

/-- The byte at a place may stand in a name there. -/
def okB (s : ByteArray) (i : Nat) : Bool := letB (((s.data.toList.getD i 0).toNat : Nat) : Int) || (i != 0 && digB (((s.data.toList.getD i 0).toNat : Nat) : Int))

theorem at_eq (s : ByteArray) (i : Nat) (h : i < s.size) : s.data.toList.getD i 0 = s[i] := by
  have h3 : i < s.data.toList.length := by (have h4 : s.data.toList.length = s.size := by simp); omega
  rw [List.getD_eq_getElem?_getD, List.getElem?_eq_getElem h3]; rfl

theorem name_bad (ws : List ByteArray) (s : ByteArray) (i : Nat) (hi : i < s.size) (h : okB s i = false) : nameB ws s = false := by
  unfold okB at h
  rw [at_eq s i hi, Bool.or_eq_false_iff] at h
  obtain ⟨hl, h⟩ := h
  by_cases h0 : i = 0
  · subst h0
    unfold nameB
    rw [head_eq s hi, hl]; simp
  · have hd : digB (s[i].toNat : Int) = false := by simpa [h0] using h
    have hp := past_bad lodB s i hi (by unfold lodB; rw [hl, hd]; rfl) i 0 rfl
    have hp' : (((pastN lodB s 0 : Nat) : Int) == (s.size : Int)) = false := beq_eq_false_iff_ne.2 (by omega)
    unfold nameB
    rw [hp']; simp

theorem name_good (ws : List ByteArray) (s : ByteArray) (h : ∀ i, i < s.size → okB s i = true) : nameB ws s = (decide (1 ≤ s.size) && (decide (s.size ≤ 20) && !isIn ws s)) := by
  by_cases h1 : 1 ≤ s.size
  · have h0 := h 0 h1
    unfold okB at h0
    have hl : letB (((s.data.toList.getD 0 0).toNat : Nat) : Int) = true := by simpa using h0
    have hp := past_all lodB s (fun i hi => by
      have := h i hi
      unfold okB at this
      rw [at_eq s i hi] at this
      unfold lodB
      cases hl : letB (s[i].toNat : Int)
      · rw [hl] at this; simp at this; simp [this.2]
      · rfl) s.size 0 rfl
    unfold nameB
    rw [hl, hp]; simp
  · simp [nameB, h1]

set_option maxRecDepth 100000 in
set_option maxHeartbeats 1000000 in
/-- sloppyref.IsName. -/
theorem refIsName_any (a : Addr) (cap : Nat) (ws : List ByteArray) (s : ByteArray) (w : World) (hs : s.size ≤ maxLen) (hn : ws.length = 19)
    (hg : w.cell? ⟨2, 0, none⟩ = some (.slice (some a) 19 cap))
    (hc : ∀ i, i < ws.length → w.cell? (a.add i) = some (.string (ws.getD i ByteArray.empty))) :
    Calls Tryd.prog 10 #[.string s] w fun e w' => e = .returned (.bool (nameB ws s)) ∧ w' = w := by
  unfold maxLen at hs
  have HC := hide (refIsWord_any a cap ws s w hn hg hc)
  clear hc hn hg
  go_enter Tryd.func10, Tryd.ntmps10
  go_wp2
  go_loopw [3, 6] (fun _ i wr => ∃ k : Nat, k ≤ s.size ∧ i = .int .i64 k ∧ (∀ j, j < k → okB s j = true) ∧ wr = w) (fun _ i _ => s.size - (intOf i).toNat)
  case atStart => exact ⟨0, Nat.zero_le _, rfl, fun j hj => absurd hj (Nat.not_lt_zero _), rfl⟩
  case round =>
    obtain ⟨k, hk, rfl, he, rfl⟩ := hrel
    have HE := hide he
    clear he
    by_cases hlt : k < s.size
    · have hat := at_eq s k hlt
      cases hl : letB (s[k].toNat : Int)
      · by_cases h0 : k = 0
        · have hb : okB s k = false := by unfold okB; rw [hat, hl]; simp [h0]
          have HB := hide (name_bad ws s k hlt hb)
          have HL := hide hl
          have hk0 : ((k : Int) == 0) = true := by simp [h0]
          clear hb hat hl h0
          go_wp2_with fail
          refine (isLetter_any _ _).mono ?_
          rw [unhide HL]
          rintro e w' ⟨rfl, rfl⟩
          go_wp2_with fail
          go_ret
          exact ⟨ret_bool (unhide HB).symm, rfl⟩
        · have hk0 : ((k : Int) == 0) = false := by simp [h0]
          cases hd : digB (s[k].toNat : Int)
          · have hb : okB s k = false := by unfold okB; rw [hat, hl, hd]; simp
            have HB := hide (name_bad ws s k hlt hb)
            have HL := hide hl
            have HD := hide hd
            clear hb hat hl h0 hd
            go_wp2_with fail
            refine (isLetter_any _ _).mono ?_
            rw [unhide HL]
            rintro e w' ⟨rfl, rfl⟩
            go_wp2_with fail
            refine (isDigit_any _ _).mono ?_
            rw [unhide HD]
            rintro e w' ⟨rfl, rfl⟩
            go_wp2_with fail
            go_ret
            exact ⟨ret_bool (unhide HB).symm, rfl⟩
          · have hb : okB s k = true := by unfold okB; rw [hat, hl, hd]; simp [h0]
            have HB := hide hb
            have HL := hide hl
            have HD := hide hd
            clear hb hat hl h0 hd
            go_wp2_with fail
            refine (isLetter_any _ _).mono ?_
            rw [unhide HL]
            rintro e w' ⟨rfl, rfl⟩
            go_wp2_with fail
            refine (isDigit_any _ _).mono ?_
            rw [unhide HD]
            rintro e w' ⟨rfl, rfl⟩
            go_wp2_with fail
            go_roundw
            case rel => exact ⟨k + 1, by omega, by go_num, fun j hj => by (by_cases hjk : j = k); (rw [hjk]; exact unhide HB); exact unhide HE j (by omega), by trivial⟩
            case measure => simp [intOf]; omega
      · have hb : okB s k = true := by unfold okB; rw [hat, hl]; rfl
        have HB := hide hb
        have HL := hide hl
        clear hb hat hl
        go_wp2_with fail
        refine (isLetter_any _ _).mono ?_
        rw [unhide HL]
        rintro e w' ⟨rfl, rfl⟩
        go_wp2_with fail
        go_roundw
        case rel => exact ⟨k + 1, by omega, by go_num, fun j hj => by (by_cases hjk : j = k); (rw [hjk]; exact unhide HB); exact unhide HE j (by omega), by trivial⟩
        case measure => simp [intOf]; omega
    · have hgood := name_good ws s (fun i hi => unhide HE i (by omega))
      have HG := hide hgood
      clear hgood
      by_cases h1 : 1 ≤ s.size
      · by_cases h2 : s.size ≤ 20
        · go_wp2_with fail
          refine (unhide HC).mono ?_
          rintro e w' ⟨rfl, rfl⟩
          go_wp2_with fail
          go_ret
          exact ⟨ret_bool (by rw [unhide HG]; simp [h1, h2]), rfl⟩
        · go_wp2_with fail
          go_ret
          exact ⟨ret_bool (by rw [unhide HG]; simp [h2]), rfl⟩
      · go_wp2_with fail
        go_ret
        exact ⟨ret_bool (by rw [unhide HG]; simp [h1]), rfl⟩

end Go.Proofs.YtlpbpcdjifadiaaDoor
