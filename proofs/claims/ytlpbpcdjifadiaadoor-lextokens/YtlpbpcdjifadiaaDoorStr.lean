/-
  What a string is, read from a place on; the walk of escaped; what the call's own row of bytes gives.
-/
import Derived.Test.YtlpbpcdjifadiaaDoorReadA
import Derived.Test.YtlpbpcdjifadiaaDoorRef
import Derived.Laws.IdiomStrings
import Derived.Laws.BytesArg
namespace Go.Proofs.YtlpbpcdjifadiaaDoor
open Go.RowKit

def bt (s : ByteArray) (i : Nat) : UInt8 := s.data.toList.getD i 0
theorem bt_eq (s : ByteArray) (i : Nat) (h : i < s.size) : bt s i = s[i] := at_eq s i h

/-- What stands for what behind a backslash. -/
def esc (c : UInt8) : Option UInt8 := if c = 110 then some 10 else if c = 39 ∨ c = 92 then some c else none

inductive SR where
  | ok (said : List UInt8) (e : Nat)
  | bad (p : Nat)

/-- A string's rest from a place on, what it has said so far at hand. -/
def strR (s : ByteArray) (i : Nat) (said : List UInt8) : SR :=
  if i < s.size then
    if bt s i = 39 then .ok said (i + 1)
    else if bt s i = 10 then .bad i
    else if bt s i = 92 then
      if i + 1 < s.size then
        match esc (bt s (i + 1)) with
        | some m => strR s (i + 2) (said ++ [m])
        | none => .bad (i + 1)
      else .bad (i + 1)
    else strR s (i + 1) (said ++ [bt s i])
  else .bad s.size
termination_by s.size - i

def rdStr (s : ByteArray) (k : Nat) : Rd :=
  match strR s (k + 1) [] with
  | .ok said e => if 500 < said.length then .bad 4 k else .tok 4 (ofBytes said) 0 e
  | .bad p => .bad 3 p

theorem strR_end (s : ByteArray) (i : Nat) (said : List UInt8) (h : ¬ i < s.size) : strR s i said = .bad s.size := by rw [strR, if_neg h]
theorem strR_quote (s : ByteArray) (i : Nat) (said : List UInt8) (h : i < s.size) (hc : bt s i = 39) : strR s i said = .ok said (i + 1) := by rw [strR, if_pos h, if_pos hc]
theorem strR_lf (s : ByteArray) (i : Nat) (said : List UInt8) (h : i < s.size) (hc : bt s i = 10) : strR s i said = .bad i := by rw [strR, if_pos h, if_neg (by rw [hc]; decide), if_pos hc]
theorem strR_esc (s : ByteArray) (i : Nat) (said : List UInt8) (m : UInt8) (h : i < s.size) (hc : bt s i = 92) (h1 : i + 1 < s.size) (hm : esc (bt s (i + 1)) = some m) : strR s i said = strR s (i + 2) (said ++ [m]) := by
  conv => lhs; rw [strR]
  rw [if_pos h, if_neg (by rw [hc]; decide), if_neg (by rw [hc]; decide), if_pos hc, if_pos h1, hm]
theorem strR_noesc (s : ByteArray) (i : Nat) (said : List UInt8) (h : i < s.size) (hc : bt s i = 92) (hm : i + 1 < s.size → esc (bt s (i + 1)) = none) : strR s i said = .bad (i + 1) := by
  rw [strR, if_pos h, if_neg (by rw [hc]; decide), if_neg (by rw [hc]; decide), if_pos hc]
  by_cases h1 : i + 1 < s.size
  · rw [if_pos h1, hm h1]
  · rw [if_neg h1]
theorem strR_plain (s : ByteArray) (i : Nat) (said : List UInt8) (h : i < s.size) (h1 : bt s i ≠ 39) (h2 : bt s i ≠ 10) (h3 : bt s i ≠ 92) : strR s i said = strR s (i + 1) (said ++ [bt s i]) := by
  conv => lhs; rw [strR]
  rw [if_pos h, if_neg h1, if_neg h2, if_neg h3]

theorem byte_eq (b c : UInt8) : (((b.toNat : Nat) : Int) == ((c.toNat : Nat) : Int)) = decide (b = c) := by
  by_cases h : b = c
  · subst h; simp
  · have : b.toNat ≠ c.toNat := fun e => h (UInt8.toNat_inj.1 e)
    simp [h]; omega

/-- escaped, at a place that is there. -/
def escV (o : Option UInt8) : Value := match o with | some m => .tuple #[.int .u8 (m.toNat : Int), .bool true] | none => .tuple #[.int .u8 0, .bool false]

set_option maxHeartbeats 400000 in
theorem escaped_out (s : ByteArray) (i : Nat) (w : World) (h : s.size ≤ i) :
    Calls Tryd.prog 46 #[.string s, .int .i64 (i : Int)] w fun e w' => e = .returned (.tuple #[.int .u8 0, .bool false]) ∧ w' = w := by
  go_enter Tryd.func46, Tryd.ntmps46
  go_wp2
  go_ret2
  exact ⟨rfl, rfl⟩

set_option maxHeartbeats 400000 in
theorem escaped_in (s : ByteArray) (i : Nat) (w : World) (h : i < s.size) :
    Calls Tryd.prog 46 #[.string s, .int .i64 (i : Int)] w fun e w' => e = .returned (escV (esc (bt s i))) ∧ w' = w := by
  rw [bt_eq s i h]
  obtain ⟨b, hb⟩ : ∃ b, b = s[i] := ⟨_, rfl⟩
  have b1 := byte_eq b 110
  have b2 := byte_eq b 39
  have b3 := byte_eq b 92
  rw [← hb]
  by_cases h1 : b = 110
  · have e : esc b = some 10 := by simp [esc, h1]
    have c1 : (((s[i].toNat : Nat) : Int) == 110) = true := by rw [← hb, h1]; rfl
    rw [e]
    clear b1 b2 b3 hb h1
    go_enter Tryd.func46, Tryd.ntmps46
    go_wp2
    go_ret2
    exact ⟨rfl, rfl⟩
  · have c1 : (((s[i].toNat : Nat) : Int) == 110) = false := by rw [← hb]; simpa [h1] using b1
    by_cases h2 : b = 39
    · have e : esc b = some 39 := by simp [esc, h2]
      have c2 : (((s[i].toNat : Nat) : Int) == 39) = true := by rw [← hb, h2]; rfl
      have hv : ((s[i].toNat : Nat) : Int) = 39 := by rw [← hb, h2]; rfl
      rw [e]
      have HV := hide hv
      clear b1 b2 b3 hb h1 h2 hv
      go_enter Tryd.func46, Tryd.ntmps46
      go_wp2
      go_ret2
      refine ⟨?_, rfl⟩
      show Ending.returned (.tuple #[.int .u8 (s[i].toNat : Int), .bool true]) = _
      rw [unhide HV]; rfl
    · have c2 : (((s[i].toNat : Nat) : Int) == 39) = false := by rw [← hb]; simpa [h2] using b2
      by_cases h3 : b = 92
      · have e : esc b = some 92 := by simp [esc, h3]
        have c3 : (((s[i].toNat : Nat) : Int) == 92) = true := by rw [← hb, h3]; rfl
        have hv : ((s[i].toNat : Nat) : Int) = 92 := by rw [← hb, h3]; rfl
        rw [e]
        have HV := hide hv
        clear b1 b2 b3 hb h1 h2 hv
        go_enter Tryd.func46, Tryd.ntmps46
        go_wp2
        go_ret2
        refine ⟨?_, rfl⟩
        show Ending.returned (.tuple #[.int .u8 (s[i].toNat : Int), .bool true]) = _
        rw [unhide HV]; rfl
      · have e : esc b = none := by simp [esc, h1, h2, h3]
        have c3 : (((s[i].toNat : Nat) : Int) == 92) = false := by rw [← hb]; simpa [h3] using b3
        rw [e]
        clear b1 b2 b3 hb h1 h2
        go_enter Tryd.func46, Tryd.ntmps46
        go_wp2
        go_ret2
        exact ⟨rfl, rfl⟩

/-- The cells of a row of bytes. -/
def cellsOf (l : List UInt8) : List Value := l.map (fun b => Value.int .u8 (b.toNat : Int))

theorem row_shape {w : World} {base : Nat} {v : Value} {n : Nat} {xs : List Value} (h : w.ownsRow base 5 1 v n xs) : ∃ a cap, v = .slice a n cap := by
  obtain ⟨_, ⟨rfl, rfl⟩ | ⟨g, cap, cur, rfl, _⟩⟩ := h
  · exact ⟨_, _, rfl⟩
  · exact ⟨_, _, rfl⟩

theorem row_text {w : World} {base : Nat} {v : Value} (l : List UInt8) (h : w.ownsRow base 5 1 v l.length (cellsOf l)) : (convert 67 9 v).run Tryd.prog w = .ok (.string (ofBytes l)) w := by
  obtain ⟨hl, ⟨rfl, h0⟩ | ⟨g, cap, cur, rfl, hb, hh, hn, hm, hs, ht⟩⟩ := h
  · have : l = [] := List.length_eq_zero_iff.1 h0
    subst this
    exact run_convert_bytes_nil w 67 5 Tryd.underlying67 Tryd.underlying5 0 0 9 Tryd.underlying9
  · refine run_convert_bytes_back w 67 9 5 ⟨g, 0, none⟩ cap l Tryd.underlying67 Tryd.underlying5 Tryd.underlying9 ?_
    intro j hj
    have h1 : (cellsOf l)[j]? = some (.int .u8 (l[j].toNat : Int)) := by unfold cellsOf; rw [List.getElem?_map, List.getElem?_eq_getElem hj]; rfl
    rw [← ht, List.getElem?_take_of_lt (by omega)] at h1
    have h2 : cur[j]? = some (.int .u8 (l[j].toNat : Int)) := by simpa using h1
    have e : (Addr.add ⟨g, 0, none⟩ j) = ⟨g, j, none⟩ := by simp [Addr.add]; intro h; exact h.symm
    rw [e]
    simp only [World.cell?, hh]
    simpa using h2

end Go.Proofs.YtlpbpcdjifadiaaDoor
