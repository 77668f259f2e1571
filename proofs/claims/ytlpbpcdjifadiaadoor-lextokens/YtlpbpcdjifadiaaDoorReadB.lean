/-
  The walk of readNumber.
-/
import Derived.Test.YtlpbpcdjifadiaaDoorAtoi
import Derived.Test.YtlpbpcdjifadiaaDoorRef
namespace Go.Proofs.YtlpbpcdjifadiaaDoor
open Go.RowKit

set_option maxHeartbeats 400000 in
theorem atoi_any (x : ByteArray) (w : World) (h1 : 1 ≤ x.size) (h2 : x.size ≤ 10) (hd : ∀ i, (hi : i < x.size) → digB (x[i].toNat : Int) = true) :
    Calls Tryd.prog 17 #[.string x] w fun e w' => e = .returned (.tuple #[.int .i64 (numL x.data.toList), .nilIface]) ∧ Below w.heap.size w w' := by
  have HD := hide hd
  clear hd
  go_enter Tryd.func17, Tryd.ntmps17
  go_wp2_with fail
  refine (iatoi_any x w h1 h2 (unhide HD)).mono ?_
  rintro e w1 ⟨rfl, hb⟩
  have HB := hide hb
  clear hb
  go_wp2_with fail
  go_ret2
  exact ⟨rfl, unhide HB⟩

theorem data_len (x : ByteArray) : x.data.toList.length = x.size := by simp

theorem past_in (p : Int → Bool) (s : ByteArray) : ∀ n k, n + k = s.size → ∀ i, k ≤ i → i < pastN p s k → (hi : i < s.size) → p (s[i].toNat : Int) = true
  | 0, k, e, i, h1, h2, hi => by omega
  | n + 1, k, e, i, h1, h2, hi => by
    cases hk : p ((s[k]'(by omega)).toNat : Int)
    · rw [pastN_stop p s k (by omega) hk] at h2; omega
    · by_cases hik : i = k
      · subst hik; exact hk
      · rw [← pastN_go p s k (by omega) hk] at h2
        exact past_in p s n (k + 1) (by omega) i (by omega) h2 hi

theorem extract_at (s : ByteArray) (a b i : Nat) (h1 : b ≤ s.size) (hi : i < (s.extract a b).size) : (s.extract a b)[i] = s[a + i]'(by simp at hi; omega) := by
  simp [ByteArray.getElem_extract]

/-- The number at a place. -/
def rdNum (s : ByteArray) (k : Nat) : Rd :=
  if 10 < pastN digB s k - k then .bad 3 k
  else if 1 < pastN digB s k - k ∧ (((s.data.toList.getD k 0).toNat : Nat) : Int) = 48 then .bad 3 k
  else if 1000000000 < numL (s.extract k (pastN digB s k)).data.toList then .bad 2 k
  else .tok 3 ⟨#[]⟩ (numL (s.extract k (pastN digB s k)).data.toList) (pastN digB s k)

set_option maxRecDepth 100000 in
set_option maxHeartbeats 1000000 in
theorem readNum_long (s : ByteArray) (k e : Nat) (w : World) (hs : s.size ≤ 3000) (hk : k < s.size) (he : pastN digB s k = e) (hke : k < e) (hes : e ≤ s.size) (h10 : 10 < e - k) :
    Calls Tryd.prog 33 #[.string s, .int .i64 (k : Int)] w (RPost k (.bad 3 k) w) := by
  have HE := hide he
  clear he
  go_enter Tryd.func33, Tryd.ntmps33
  go_wp2_with fail
  refine (digit_any _).mono ?_
  rintro e1 w1 ⟨x, rfl, hx, hbel⟩
  obtain ⟨hc, hf⟩ := bcell hbel
  have HBEL := hide hbel
  have HX := hide hx
  clear hx hbel
  go_wp2_with fail
  have hpast := past_any s k x digB w1 (by unfold maxLen; omega) (by omega) (unhide HX)
  rw [unhide HE] at hpast
  refine hpast.mono ?_
  clear hpast
  rintro e2 w2 ⟨rfl, rfl⟩
  go_wp2_with fail
  refine (fail_any _ _ _).mono ?_
  rintro e4 w4 ⟨b, rfl, hb, hlb, hbel2⟩
  have hbel := (unhide HBEL).trans (hbel2.mono (unhide HBEL).size)
  have hlb2 := Nat.le_trans (unhide HBEL).size hlb
  clear hc hf
  obtain ⟨hc, hf⟩ := bcell hbel
  have HB := hide hb
  have HBEL2 := hide hbel
  clear hb hbel hbel2 hlb
  go_wp2_with fail
  exact bodyPost_ret (v := .tuple #[noTok, .int .i64 0, .iface 58 (.pointer (some ⟨b, 0, none⟩))]) (by simp [results, Tryd.results33, go_sem, hc]) rfl ⟨b, rfl, bad_end (unhide HBEL2) hlb2 (unhide HB) _ _ _ _⟩

set_option maxRecDepth 100000 in
set_option maxHeartbeats 1000000 in
theorem readNum_zero (s : ByteArray) (k e : Nat) (w : World) (hs : s.size ≤ 3000) (hk : k < s.size) (he : pastN digB s k = e) (hke : k < e) (hes : e ≤ s.size) (hpos : 0 < (s.extract k e).size) (h10 : ¬ 10 < e - k) (h1 : 1 < e - k) (h48 : (((s.extract k e)[0].toNat : Int) == 48) = true) :
    Calls Tryd.prog 33 #[.string s, .int .i64 (k : Int)] w (RPost k (.bad 3 k) w) := by
  have HE := hide he
  clear he
  go_enter Tryd.func33, Tryd.ntmps33
  go_wp2_with fail
  refine (digit_any _).mono ?_
  rintro e1 w1 ⟨x, rfl, hx, hbel⟩
  obtain ⟨hc, hf⟩ := bcell hbel
  have HBEL := hide hbel
  have HX := hide hx
  clear hx hbel
  go_wp2_with fail
  have hpast := past_any s k x digB w1 (by unfold maxLen; omega) (by omega) (unhide HX)
  rw [unhide HE] at hpast
  refine hpast.mono ?_
  clear hpast
  rintro e2 w2 ⟨rfl, rfl⟩
  go_wp2_with fail
  refine (fail_any _ _ _).mono ?_
  rintro e4 w4 ⟨b, rfl, hb, hlb, hbel2⟩
  have hbel := (unhide HBEL).trans (hbel2.mono (unhide HBEL).size)
  have hlb2 := Nat.le_trans (unhide HBEL).size hlb
  clear hc hf
  obtain ⟨hc, hf⟩ := bcell hbel
  have HB := hide hb
  have HBEL2 := hide hbel
  clear hb hbel hbel2 hlb
  go_wp2_with fail
  exact bodyPost_ret (v := .tuple #[noTok, .int .i64 0, .iface 58 (.pointer (some ⟨b, 0, none⟩))]) (by simp [results, Tryd.results33, go_sem, hc]) rfl ⟨b, rfl, bad_end (unhide HBEL2) hlb2 (unhide HB) _ _ _ _⟩

set_option maxRecDepth 100000 in
set_option maxHeartbeats 1000000 in
theorem readNum_big (s : ByteArray) (k e : Nat) (w : World) (hs : s.size ≤ 3000) (hk : k < s.size) (he : pastN digB s k = e) (hke : k < e) (hes : e ≤ s.size) (hpos : 0 < (s.extract k e).size) (n : Int) (hn : numL (s.extract k e).data.toList = n) (h10 : ¬ 10 < e - k) (h1 : 1 < e - k) (h48 : (((s.extract k e)[0].toNat : Int) == 48) = false) (hb : 1000000000 < n) :
    Calls Tryd.prog 33 #[.string s, .int .i64 (k : Int)] w (RPost k (.bad 2 k) w) := by
  have HNN := hide hn
  clear hn
  have HE := hide he
  clear he
  go_enter Tryd.func33, Tryd.ntmps33
  go_wp2_with fail
  refine (digit_any _).mono ?_
  rintro e1 w1 ⟨x, rfl, hx, hbel⟩
  obtain ⟨hc, hf⟩ := bcell hbel
  have HBEL := hide hbel
  have HX := hide hx
  clear hx hbel
  go_wp2_with fail
  have hpast := past_any s k x digB w1 (by unfold maxLen; omega) (by omega) (unhide HX)
  rw [unhide HE] at hpast
  refine hpast.mono ?_
  clear hpast
  rintro e2 w2 ⟨rfl, rfl⟩
  go_wp2_with fail
  have hds : ∀ i, (hi : i < (s.extract k e).size) → digB ((s.extract k e)[i].toNat : Int) = true := fun i hi => by
    rw [extract_at s k e i hes hi]
    have hi2 : i < e - k := by rw [extract_size s k e (by omega) hes] at hi; exact hi
    exact past_in digB s (s.size - k) k (by omega) (k + i) (by omega) (by rw [unhide HE]; omega) (by omega)
  have hsz := extract_size s k e (by omega) hes
  refine (atoi_any (s.extract k e) w2 (by omega) (by omega) hds).mono ?_
  rw [unhide HNN]
  rintro e3 w3 ⟨rfl, hbel3⟩
  have hbelA := (unhide HBEL).trans (hbel3.mono (unhide HBEL).size)
  clear hc hf HBEL
  obtain ⟨hc, hf⟩ := bcell hbelA
  have HBEL := hide hbelA
  clear hbelA hbel3 hds hsz
  go_wp2_with fail
  refine (fail_any _ _ _).mono ?_
  rintro e4 w4 ⟨b, rfl, hb, hlb, hbel2⟩
  have hbel := (unhide HBEL).trans (hbel2.mono (unhide HBEL).size)
  have hlb2 := Nat.le_trans (unhide HBEL).size hlb
  clear hc hf
  obtain ⟨hc, hf⟩ := bcell hbel
  have HB := hide hb
  have HBEL2 := hide hbel
  clear hb hbel hbel2 hlb
  go_wp2_with fail
  exact bodyPost_ret (v := .tuple #[noTok, .int .i64 0, .iface 58 (.pointer (some ⟨b, 0, none⟩))]) (by simp [results, Tryd.results33, go_sem, hc]) rfl ⟨b, rfl, bad_end (unhide HBEL2) hlb2 (unhide HB) _ _ _ _⟩

set_option maxRecDepth 100000 in
set_option maxHeartbeats 1000000 in
theorem readNum_many (s : ByteArray) (k e : Nat) (w : World) (hs : s.size ≤ 3000) (hk : k < s.size) (he : pastN digB s k = e) (hke : k < e) (hes : e ≤ s.size) (hpos : 0 < (s.extract k e).size) (n : Int) (hn : numL (s.extract k e).data.toList = n) (h10 : ¬ 10 < e - k) (h1 : 1 < e - k) (h48 : (((s.extract k e)[0].toNat : Int) == 48) = false) (hb : ¬ 1000000000 < n) :
    Calls Tryd.prog 33 #[.string s, .int .i64 (k : Int)] w (RPost k (.tok 3 ⟨#[]⟩ n e) w) := by
  have HNN := hide hn
  clear hn
  have HE := hide he
  clear he
  go_enter Tryd.func33, Tryd.ntmps33
  go_wp2_with fail
  refine (digit_any _).mono ?_
  rintro e1 w1 ⟨x, rfl, hx, hbel⟩
  obtain ⟨hc, hf⟩ := bcell hbel
  have HBEL := hide hbel
  have HX := hide hx
  clear hx hbel
  go_wp2_with fail
  have hpast := past_any s k x digB w1 (by unfold maxLen; omega) (by omega) (unhide HX)
  rw [unhide HE] at hpast
  refine hpast.mono ?_
  clear hpast
  rintro e2 w2 ⟨rfl, rfl⟩
  go_wp2_with fail
  have hds : ∀ i, (hi : i < (s.extract k e).size) → digB ((s.extract k e)[i].toNat : Int) = true := fun i hi => by
    rw [extract_at s k e i hes hi]
    have hi2 : i < e - k := by rw [extract_size s k e (by omega) hes] at hi; exact hi
    exact past_in digB s (s.size - k) k (by omega) (k + i) (by omega) (by rw [unhide HE]; omega) (by omega)
  have hsz := extract_size s k e (by omega) hes
  refine (atoi_any (s.extract k e) w2 (by omega) (by omega) hds).mono ?_
  rw [unhide HNN]
  rintro e3 w3 ⟨rfl, hbel3⟩
  have hbelA := (unhide HBEL).trans (hbel3.mono (unhide HBEL).size)
  clear hc hf HBEL
  obtain ⟨hc, hf⟩ := bcell hbelA
  have HBEL := hide hbelA
  clear hbelA hbel3 hds hsz
  go_wp2_with fail
  exact bodyPost_ret (v := .tuple #[.agg #[.int .i64 3, .string ⟨#[]⟩, .int .i64 n, .int .i64 (k : Int)], .int .i64 (e : Int), .nilIface]) (by simp [results, Tryd.results33, go_sem, hc]) rfl ⟨rfl, good_end (unhide HBEL) _ _ _ _⟩

set_option maxRecDepth 100000 in
set_option maxHeartbeats 1000000 in
theorem readNum_one (s : ByteArray) (k e : Nat) (w : World) (hs : s.size ≤ 3000) (hk : k < s.size) (he : pastN digB s k = e) (hke : k < e) (hes : e ≤ s.size) (n : Int) (hn : numL (s.extract k e).data.toList = n) (h1 : ¬ 1 < e - k) (hb : ¬ 1000000000 < n) :
    Calls Tryd.prog 33 #[.string s, .int .i64 (k : Int)] w (RPost k (.tok 3 ⟨#[]⟩ n e) w) := by
  have HNN := hide hn
  clear hn
  have HE := hide he
  clear he
  go_enter Tryd.func33, Tryd.ntmps33
  go_wp2_with fail
  refine (digit_any _).mono ?_
  rintro e1 w1 ⟨x, rfl, hx, hbel⟩
  obtain ⟨hc, hf⟩ := bcell hbel
  have HBEL := hide hbel
  have HX := hide hx
  clear hx hbel
  go_wp2_with fail
  have hpast := past_any s k x digB w1 (by unfold maxLen; omega) (by omega) (unhide HX)
  rw [unhide HE] at hpast
  refine hpast.mono ?_
  clear hpast
  rintro e2 w2 ⟨rfl, rfl⟩
  go_wp2_with fail
  have hds : ∀ i, (hi : i < (s.extract k e).size) → digB ((s.extract k e)[i].toNat : Int) = true := fun i hi => by
    rw [extract_at s k e i hes hi]
    have hi2 : i < e - k := by rw [extract_size s k e (by omega) hes] at hi; exact hi
    exact past_in digB s (s.size - k) k (by omega) (k + i) (by omega) (by rw [unhide HE]; omega) (by omega)
  have hsz := extract_size s k e (by omega) hes
  refine (atoi_any (s.extract k e) w2 (by omega) (by omega) hds).mono ?_
  rw [unhide HNN]
  rintro e3 w3 ⟨rfl, hbel3⟩
  have hbelA := (unhide HBEL).trans (hbel3.mono (unhide HBEL).size)
  clear hc hf HBEL
  obtain ⟨hc, hf⟩ := bcell hbelA
  have HBEL := hide hbelA
  clear hbelA hbel3 hds hsz
  go_wp2_with fail
  exact bodyPost_ret (v := .tuple #[.agg #[.int .i64 3, .string ⟨#[]⟩, .int .i64 n, .int .i64 (k : Int)], .int .i64 (e : Int), .nilIface]) (by simp [results, Tryd.results33, go_sem, hc]) rfl ⟨rfl, good_end (unhide HBEL) _ _ _ _⟩

theorem readNum_any (s : ByteArray) (k : Nat) (w : World) (hs : s.size ≤ 3000) (hk : k < s.size) (hd : digB (s[k].toNat : Int) = true) :
    Calls Tryd.prog 33 #[.string s, .int .i64 (k : Int)] w (RPost k (rdNum s k) w) := by
  have hke : k < pastN digB s k := by rw [← pastN_go digB s k hk hd]; have := pastN_ge digB s (k + 1); omega
  have hes := pastN_le digB s k (by omega)
  have hsz := extract_size s k (pastN digB s k) (by omega) hes
  have hpos : 0 < (s.extract k (pastN digB s k)).size := by omega
  have h0 : (s.extract k (pastN digB s k))[0] = s[k] := by rw [extract_at s k _ 0 hes hpos]; rfl
  have hat := at_eq s k hk
  by_cases h10 : 10 < pastN digB s k - k
  · have hr : rdNum s k = .bad 3 k := by unfold rdNum; rw [if_pos h10]
    rw [hr]; exact readNum_long s k _ w hs hk rfl hke hes h10
  · by_cases h1 : 1 < pastN digB s k - k
    · by_cases h48 : ((s[k].toNat : Nat) : Int) = 48
      · have hr : rdNum s k = .bad 3 k := by unfold rdNum; rw [if_neg h10, if_pos ⟨h1, by rw [hat]; exact h48⟩]
        rw [hr]; exact readNum_zero s k _ w hs hk rfl hke hes hpos h10 h1 (by rw [h0]; exact beq_iff_eq.2 h48)
      · have h48' : (((s.extract k (pastN digB s k))[0].toNat : Int) == 48) = false := by rw [h0]; exact beq_eq_false_iff_ne.2 h48
        have hc : ¬ (1 < pastN digB s k - k ∧ (((s.data.toList.getD k 0).toNat : Nat) : Int) = 48) := fun h => h48 (by have := h.2; rw [hat] at this; exact this)
        by_cases hb : 1000000000 < numL (s.extract k (pastN digB s k)).data.toList
        · have hr : rdNum s k = .bad 2 k := by unfold rdNum; rw [if_neg h10, if_neg hc, if_pos hb]
          rw [hr]; exact readNum_big s k _ w hs hk rfl hke hes hpos _ rfl h10 h1 h48' hb
        · have hr : rdNum s k = .tok 3 ⟨#[]⟩ (numL (s.extract k (pastN digB s k)).data.toList) (pastN digB s k) := by unfold rdNum; rw [if_neg h10, if_neg hc, if_neg hb]
          rw [hr]; exact readNum_many s k _ w hs hk rfl hke hes hpos _ rfl h10 h1 h48' hb
    · have hc : ¬ (1 < pastN digB s k - k ∧ (((s.data.toList.getD k 0).toNat : Nat) : Int) = 48) := fun h => h1 h.1
      have hds : ∀ b ∈ (s.extract k (pastN digB s k)).data.toList, digB (b.toNat : Int) = true := by
        have := digit_take (s.extract k (pastN digB s k)) (fun i hi => by
          rw [extract_at s k _ i hes hi]
          exact past_in digB s (s.size - k) k (by omega) (k + i) (by omega) (by omega) (by omega)) (pastN digB s k - k)
        rw [List.take_of_length_le (by rw [data_len]; omega)] at this
        exact this
      have hb1 := (numL_bound _ hds).2
      have hl : (s.extract k (pastN digB s k)).data.toList.length = 1 := by rw [data_len]; omega
      rw [hl] at hb1
      have hb : ¬ 1000000000 < numL (s.extract k (pastN digB s k)).data.toList := by omega
      have hr : rdNum s k = .tok 3 ⟨#[]⟩ (numL (s.extract k (pastN digB s k)).data.toList) (pastN digB s k) := by unfold rdNum; rw [if_neg h10, if_neg hc, if_neg hb]
      rw [hr]; exact readNum_one s k _ w hs hk rfl hke hes _ rfl h1 hb

end Go.Proofs.YtlpbpcdjifadiaaDoor
