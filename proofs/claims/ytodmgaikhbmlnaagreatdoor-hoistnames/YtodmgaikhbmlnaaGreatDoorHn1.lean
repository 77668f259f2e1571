/-
  The walk of readNumber.
-/
import Derived.Test.YtodmgaikhbmlnaaGreatDoorHn0
import Derived.Laws.IdiomStrings
import Derived.Laws.BytesArg
set_option maxRecDepth 100000
set_option maxHeartbeats 16000000
namespace Go.Proofs.YtodmgaikhbmlnaaGreatDoor
open Go.RowKit
theorem zbk (x : ByteArray) (w : World) (h1 : 1 ≤ x.size) (h2 : x.size ≤ 10) (hd : ∀ i, (hi : i < x.size) → digB (x[i].toNat : Int) = true) :
  Calls Tryz.prog 96 #[.string x] w fun e w' => e = .returned (.tuple #[.int .i64 (numL x.data.toList), .nilIface]) ∧ Below w.heap.size w w' := by
 have HD := qh hd
 clear hd
 go_enter Tryz.func96, Tryz.ntmps96
 go_wp2_with fail
 refine (iatoi_any x w h1 h2 HD.out).mono ?_
 rintro e w1 ⟨rfl, hb⟩
 have HB := qh hb
 clear hb
 go_wp2_with fail
 go_ret2
 exact ⟨rfl, HB.out⟩
theorem qzz (x : ByteArray) : x.data.toList.length = x.size := by simp
theorem zh6 (p : Int → Bool) (s : ByteArray) : ∀ n k, n + k = s.size → ∀ i, k ≤ i → i < zz3 p s k → (hi : i < s.size) → p (s[i].toNat : Int) = true
 | 0, k, e, i, h1, h2, hi => by omega
 | n + 1, k, e, i, h1, h2, hi => by
  cases hk : p ((s[k]'(by omega)).toNat : Int)
  ·
   rw [zqk p s k (by omega) hk] at h2; omega
  ·
   by_cases hik : i = k
   ·
    subst hik; exact hk
   ·
    rw [← zxv p s k (by omega) hk] at h2; exact zh6 p s n (k + 1) (by omega) i (by omega) h2 hi
theorem zk9 (s : ByteArray) (a b i : Nat) (h1 : b ≤ s.size) (hi : i < (s.extract a b).size) : (s.extract a b)[i] = s[a + i]'(by simp at hi; omega) := by
 simp [ByteArray.getElem_extract]
def zh4 (s : ByteArray) (k : Nat) : Rd :=
 if 10 < zz3 digB s k - k then .bad 3 k
 else if 1 < zz3 digB s k - k ∧ (((s.data.toList.getD k 0).toNat : Nat) : Int) = 48 then .bad 3 k
 else if 1000000000 < numL (s.extract k (zz3 digB s k)).data.toList then .bad 2 k
 else .tok 3 ⟨#[]⟩ (numL (s.extract k (zz3 digB s k)).data.toList) (zz3 digB s k)
theorem readNum_long (s : ByteArray) (k e : Nat) (w : World) (hs : s.size ≤ 3000) (hk : k < s.size) (he : zz3 digB s k = e) (hke : k < e) (hes : e ≤ s.size) (h10 : 10 < e - k) :
  Calls Tryz.prog 153 #[.string s, .int .i64 (k : Int)] w (zdj k (.bad 3 k) w) := by
 have HE := qh he
 clear he
 go_enter Tryz.func153, Tryz.ntmps153
 go_wp2_with fail
 refine (zv9 _).mono ?_
 rintro e1 w1 ⟨x, rfl, hx, hbel⟩
 obtain ⟨hc, hf⟩ := zyw hbel
 have HBEL := qh hbel
 have HX := qh hx
 clear hx hbel
 go_wp2_with fail
 have hpast := zhk s k x digB w1 (by unfold maxLen; omega) (by omega) HX.out
 rw [HE.out] at hpast
 refine hpast.mono ?_
 clear hpast
 rintro e2 w2 ⟨rfl, rfl⟩
 go_wp2_with fail
 refine (zhv _ _ _).mono ?_
 rintro e4 w4 ⟨b, rfl, hb, hlb, hbel2⟩
 have hbel := HBEL.out.trans (hbel2.mono HBEL.out.size)
 have hlb2 := Nat.le_trans HBEL.out.size hlb
 clear hc hf
 obtain ⟨hc, hf⟩ := zyw hbel
 have HB := qh hb
 have HBEL2 := qh hbel
 clear hb hbel hbel2 hlb
 go_wp2_with fail
 exact bodyPost_ret (v := .tuple #[zw1, .int .i64 0, .iface 129 (.pointer (some ⟨b, 0, none⟩))]) (by simp [results, Tryz.results153, go_sem, hc]) rfl ⟨b, rfl, zy7 HBEL2.out hlb2 HB.out _ _ _ _⟩
theorem readNum_zero (s : ByteArray) (k e : Nat) (w : World) (hs : s.size ≤ 3000) (hk : k < s.size) (he : zz3 digB s k = e) (hke : k < e) (hes : e ≤ s.size) (hpos : 0 < (s.extract k e).size) (h10 : ¬ 10 < e - k) (h1 : 1 < e - k) (h48 : (((s.extract k e)[0].toNat : Int) == 48) = true) :
  Calls Tryz.prog 153 #[.string s, .int .i64 (k : Int)] w (zdj k (.bad 3 k) w) := by
 have HE := qh he
 clear he
 go_enter Tryz.func153, Tryz.ntmps153
 go_wp2_with fail
 refine (zv9 _).mono ?_
 rintro e1 w1 ⟨x, rfl, hx, hbel⟩
 obtain ⟨hc, hf⟩ := zyw hbel
 have HBEL := qh hbel
 have HX := qh hx
 clear hx hbel
 go_wp2_with fail
 have hpast := zhk s k x digB w1 (by unfold maxLen; omega) (by omega) HX.out
 rw [HE.out] at hpast
 refine hpast.mono ?_
 clear hpast
 rintro e2 w2 ⟨rfl, rfl⟩
 go_wp2_with fail
 refine (zhv _ _ _).mono ?_
 rintro e4 w4 ⟨b, rfl, hb, hlb, hbel2⟩
 have hbel := HBEL.out.trans (hbel2.mono HBEL.out.size)
 have hlb2 := Nat.le_trans HBEL.out.size hlb
 clear hc hf
 obtain ⟨hc, hf⟩ := zyw hbel
 have HB := qh hb
 have HBEL2 := qh hbel
 clear hb hbel hbel2 hlb
 go_wp2_with fail
 exact bodyPost_ret (v := .tuple #[zw1, .int .i64 0, .iface 129 (.pointer (some ⟨b, 0, none⟩))]) (by simp [results, Tryz.results153, go_sem, hc]) rfl ⟨b, rfl, zy7 HBEL2.out hlb2 HB.out _ _ _ _⟩
theorem readNum_big (s : ByteArray) (k e : Nat) (w : World) (hs : s.size ≤ 3000) (hk : k < s.size) (he : zz3 digB s k = e) (hke : k < e) (hes : e ≤ s.size) (hpos : 0 < (s.extract k e).size) (n : Int) (hn : numL (s.extract k e).data.toList = n) (h10 : ¬ 10 < e - k) (h1 : 1 < e - k) (h48 : (((s.extract k e)[0].toNat : Int) == 48) = false) (hb : 1000000000 < n) :
  Calls Tryz.prog 153 #[.string s, .int .i64 (k : Int)] w (zdj k (.bad 2 k) w) := by
 have HNN := qh hn
 clear hn
 have HE := qh he
 clear he
 go_enter Tryz.func153, Tryz.ntmps153
 go_wp2_with fail
 refine (zv9 _).mono ?_
 rintro e1 w1 ⟨x, rfl, hx, hbel⟩
 obtain ⟨hc, hf⟩ := zyw hbel
 have HBEL := qh hbel
 have HX := qh hx
 clear hx hbel
 go_wp2_with fail
 have hpast := zhk s k x digB w1 (by unfold maxLen; omega) (by omega) HX.out
 rw [HE.out] at hpast
 refine hpast.mono ?_
 clear hpast
 rintro e2 w2 ⟨rfl, rfl⟩
 go_wp2_with fail
 have hds : ∀ i, (hi : i < (s.extract k e).size) → digB ((s.extract k e)[i].toNat : Int) = true := fun i hi => by
  rw [zk9 s k e i hes hi]; have hi2 : i < e - k := by rw [zq5 s k e (by omega) hes] at hi; exact hi
  exact zh6 digB s (s.size - k) k (by omega) (k + i) (by omega) (by rw [HE.out]; omega) (by omega)
 have hsz := zq5 s k e (by omega) hes
 refine (zbk (s.extract k e) w2 (by omega) (by omega) hds).mono ?_
 rw [HNN.out]
 rintro e3 w3 ⟨rfl, hbel3⟩
 have hbelA := HBEL.out.trans (hbel3.mono HBEL.out.size)
 clear hc hf HBEL
 obtain ⟨hc, hf⟩ := zyw hbelA
 have HBEL := qh hbelA
 clear hbelA hbel3 hds hsz
 go_wp2_with fail
 refine (zhv _ _ _).mono ?_
 rintro e4 w4 ⟨b, rfl, hb, hlb, hbel2⟩
 have hbel := HBEL.out.trans (hbel2.mono HBEL.out.size)
 have hlb2 := Nat.le_trans HBEL.out.size hlb
 clear hc hf
 obtain ⟨hc, hf⟩ := zyw hbel
 have HB := qh hb
 have HBEL2 := qh hbel
 clear hb hbel hbel2 hlb
 go_wp2_with fail
 exact bodyPost_ret (v := .tuple #[zw1, .int .i64 0, .iface 129 (.pointer (some ⟨b, 0, none⟩))]) (by simp [results, Tryz.results153, go_sem, hc]) rfl ⟨b, rfl, zy7 HBEL2.out hlb2 HB.out _ _ _ _⟩
theorem readNum_many (s : ByteArray) (k e : Nat) (w : World) (hs : s.size ≤ 3000) (hk : k < s.size) (he : zz3 digB s k = e) (hke : k < e) (hes : e ≤ s.size) (hpos : 0 < (s.extract k e).size) (n : Int) (hn : numL (s.extract k e).data.toList = n) (h10 : ¬ 10 < e - k) (h1 : 1 < e - k) (h48 : (((s.extract k e)[0].toNat : Int) == 48) = false) (hb : ¬ 1000000000 < n) :
  Calls Tryz.prog 153 #[.string s, .int .i64 (k : Int)] w (zdj k (.tok 3 ⟨#[]⟩ n e) w) := by
 have HNN := qh hn
 clear hn
 have HE := qh he
 clear he
 go_enter Tryz.func153, Tryz.ntmps153
 go_wp2_with fail
 refine (zv9 _).mono ?_
 rintro e1 w1 ⟨x, rfl, hx, hbel⟩
 obtain ⟨hc, hf⟩ := zyw hbel
 have HBEL := qh hbel
 have HX := qh hx
 clear hx hbel
 go_wp2_with fail
 have hpast := zhk s k x digB w1 (by unfold maxLen; omega) (by omega) HX.out
 rw [HE.out] at hpast
 refine hpast.mono ?_
 clear hpast
 rintro e2 w2 ⟨rfl, rfl⟩
 go_wp2_with fail
 have hds : ∀ i, (hi : i < (s.extract k e).size) → digB ((s.extract k e)[i].toNat : Int) = true := fun i hi => by
  rw [zk9 s k e i hes hi]; have hi2 : i < e - k := by rw [zq5 s k e (by omega) hes] at hi; exact hi
  exact zh6 digB s (s.size - k) k (by omega) (k + i) (by omega) (by rw [HE.out]; omega) (by omega)
 have hsz := zq5 s k e (by omega) hes
 refine (zbk (s.extract k e) w2 (by omega) (by omega) hds).mono ?_
 rw [HNN.out]
 rintro e3 w3 ⟨rfl, hbel3⟩
 have hbelA := HBEL.out.trans (hbel3.mono HBEL.out.size)
 clear hc hf HBEL
 obtain ⟨hc, hf⟩ := zyw hbelA
 have HBEL := qh hbelA
 clear hbelA hbel3 hds hsz
 go_wp2_with fail
 exact bodyPost_ret (v := .tuple #[.agg #[.int .i64 3, .string ⟨#[]⟩, .int .i64 n, .int .i64 (k : Int)], .int .i64 (e : Int), .nilIface]) (by simp [results, Tryz.results153, go_sem, hc]) rfl ⟨rfl, zbx HBEL.out _ _ _ _⟩
theorem readNum_one (s : ByteArray) (k e : Nat) (w : World) (hs : s.size ≤ 3000) (hk : k < s.size) (he : zz3 digB s k = e) (hke : k < e) (hes : e ≤ s.size) (n : Int) (hn : numL (s.extract k e).data.toList = n) (h1 : ¬ 1 < e - k) (hb : ¬ 1000000000 < n) :
  Calls Tryz.prog 153 #[.string s, .int .i64 (k : Int)] w (zdj k (.tok 3 ⟨#[]⟩ n e) w) := by
 have HNN := qh hn
 clear hn
 have HE := qh he
 clear he
 go_enter Tryz.func153, Tryz.ntmps153
 go_wp2_with fail
 refine (zv9 _).mono ?_
 rintro e1 w1 ⟨x, rfl, hx, hbel⟩
 obtain ⟨hc, hf⟩ := zyw hbel
 have HBEL := qh hbel
 have HX := qh hx
 clear hx hbel
 go_wp2_with fail
 have hpast := zhk s k x digB w1 (by unfold maxLen; omega) (by omega) HX.out
 rw [HE.out] at hpast
 refine hpast.mono ?_
 clear hpast
 rintro e2 w2 ⟨rfl, rfl⟩
 go_wp2_with fail
 have hds : ∀ i, (hi : i < (s.extract k e).size) → digB ((s.extract k e)[i].toNat : Int) = true := fun i hi => by
  rw [zk9 s k e i hes hi]; have hi2 : i < e - k := by rw [zq5 s k e (by omega) hes] at hi; exact hi
  exact zh6 digB s (s.size - k) k (by omega) (k + i) (by omega) (by rw [HE.out]; omega) (by omega)
 have hsz := zq5 s k e (by omega) hes
 refine (zbk (s.extract k e) w2 (by omega) (by omega) hds).mono ?_
 rw [HNN.out]
 rintro e3 w3 ⟨rfl, hbel3⟩
 have hbelA := HBEL.out.trans (hbel3.mono HBEL.out.size)
 clear hc hf HBEL
 obtain ⟨hc, hf⟩ := zyw hbelA
 have HBEL := qh hbelA
 clear hbelA hbel3 hds hsz
 go_wp2_with fail
 exact bodyPost_ret (v := .tuple #[.agg #[.int .i64 3, .string ⟨#[]⟩, .int .i64 n, .int .i64 (k : Int)], .int .i64 (e : Int), .nilIface]) (by simp [results, Tryz.results153, go_sem, hc]) rfl ⟨rfl, zbx HBEL.out _ _ _ _⟩
theorem readNum_any (s : ByteArray) (k : Nat) (w : World) (hs : s.size ≤ 3000) (hk : k < s.size) (hd : digB (s[k].toNat : Int) = true) :
  Calls Tryz.prog 153 #[.string s, .int .i64 (k : Int)] w (zdj k (zh4 s k) w) := by
 have hke : k < zz3 digB s k := by rw [← zxv digB s k hk hd]; have := zxz digB s (k + 1); omega
 have hes := zwj digB s k (by omega)
 have hsz := zq5 s k (zz3 digB s k) (by omega) hes
 have hpos : 0 < (s.extract k (zz3 digB s k)).size := by omega
 have h0 : (s.extract k (zz3 digB s k))[0] = s[k] := by rw [zk9 s k _ 0 hes hpos]; rfl
 have hat := at_eq s k hk
 by_cases h10 : 10 < zz3 digB s k - k
 ·
  have hr : zh4 s k = .bad 3 k := by unfold zh4; rw [if_pos h10]
  rw [hr]; exact readNum_long s k _ w hs hk rfl hke hes h10
 ·
  by_cases h1 : 1 < zz3 digB s k - k
  ·
   by_cases h48 : ((s[k].toNat : Nat) : Int) = 48
   ·
    have hr : zh4 s k = .bad 3 k := by unfold zh4; rw [if_neg h10, if_pos ⟨h1, by rw [hat]; exact h48⟩]
    rw [hr]; exact readNum_zero s k _ w hs hk rfl hke hes hpos h10 h1 (by rw [h0]; exact beq_iff_eq.2 h48)
   ·
    have h48' : (((s.extract k (zz3 digB s k))[0].toNat : Int) == 48) = false := by rw [h0]; exact beq_eq_false_iff_ne.2 h48
    have hc : ¬ (1 < zz3 digB s k - k ∧ (((s.data.toList.getD k 0).toNat : Nat) : Int) = 48) := fun h => h48 (by have := h.2; rw [hat] at this; exact this)
    by_cases hb : 1000000000 < numL (s.extract k (zz3 digB s k)).data.toList
    ·
     have hr : zh4 s k = .bad 2 k := by unfold zh4; rw [if_neg h10, if_neg hc, if_pos hb]
     rw [hr]; exact readNum_big s k _ w hs hk rfl hke hes hpos _ rfl h10 h1 h48' hb
    ·
     have hr : zh4 s k = .tok 3 ⟨#[]⟩ (numL (s.extract k (zz3 digB s k)).data.toList) (zz3 digB s k) := by unfold zh4; rw [if_neg h10, if_neg hc, if_neg hb]
     rw [hr]; exact readNum_many s k _ w hs hk rfl hke hes hpos _ rfl h10 h1 h48' hb
  ·
   have hc : ¬ (1 < zz3 digB s k - k ∧ (((s.data.toList.getD k 0).toNat : Nat) : Int) = 48) := fun h => h1 h.1; have hds : ∀ b ∈ (s.extract k (zz3 digB s k)).data.toList, digB (b.toNat : Int) = true := by
    have := zn9 (s.extract k (zz3 digB s k)) (fun i hi => by
     rw [zk9 s k _ i hes hi]; exact zh6 digB s (s.size - k) k (by omega) (k + i) (by omega) (by omega) (by omega)) (zz3 digB s k - k)
    rw [List.take_of_length_le (by rw [qzz]; omega)] at this
    exact this
   have hb1 := (zn5 _ hds).2; have hl : (s.extract k (zz3 digB s k)).data.toList.length = 1 := by rw [qzz]; omega
   rw [hl] at hb1; have hb : ¬ 1000000000 < numL (s.extract k (zz3 digB s k)).data.toList := by omega
   have hr : zh4 s k = .tok 3 ⟨#[]⟩ (numL (s.extract k (zz3 digB s k)).data.toList) (zz3 digB s k) := by unfold zh4; rw [if_neg h10, if_neg hc, if_neg hb]
   rw [hr]; exact readNum_one s k _ w hs hk rfl hke hes _ rfl h1 hb
def bt (s : ByteArray) (i : Nat) : UInt8 := s.data.toList.getD i 0
theorem bt_eq (s : ByteArray) (i : Nat) (h : i < s.size) : bt s i = s[i] := at_eq s i h
def esc (c : UInt8) : Option UInt8 := if c = 110 then some 10 else if c = 39 ∨ c = 92 then some c else none
inductive SR where
 | ok (said : List UInt8) (e : Nat)
 | bad (p : Nat)
def strR (s : ByteArray) (i : Nat) (said : List UInt8) : SR :=
 if i < s.size then
  if bt s i = 39 then .ok said (i + 1)
  else if bt s i = 10 then .bad i
  else if bt s i = 92 then
   if i + 1 < s.size then
    match esc (bt s (i + 1)) with
    | some m => strR s (i + 2) (said ++ [m])
    | none => .bad (i + 1)
   else .bad (i + 1)
  else strR s (i + 1) (said ++ [bt s i])
 else .bad s.size
termination_by s.size - i
def zd2 (s : ByteArray) (k : Nat) : Rd :=
 match strR s (k + 1) [] with
 | .ok said e => if 500 < said.length then .bad 4 k else .tok 4 (zq6 said) 0 e
 | .bad p => .bad 3 p
theorem zm3 (s : ByteArray) (i : Nat) (said : List UInt8) (h : ¬ i < s.size) : strR s i said = .bad s.size := by rw [strR, if_neg h]
theorem zdy (s : ByteArray) (i : Nat) (said : List UInt8) (h : i < s.size) (hc : bt s i = 39) : strR s i said = .ok said (i + 1) := by rw [strR, if_pos h, if_pos hc]
theorem strR_lf (s : ByteArray) (i : Nat) (said : List UInt8) (h : i < s.size) (hc : bt s i = 10) : strR s i said = .bad i := by rw [strR, if_pos h, if_neg (by rw [hc]; decide), if_pos hc]
theorem zyy (s : ByteArray) (i : Nat) (said : List UInt8) (m : UInt8) (h : i < s.size) (hc : bt s i = 92) (h1 : i + 1 < s.size) (hm : esc (bt s (i + 1)) = some m) : strR s i said = strR s (i + 2) (said ++ [m]) := by
 conv => lhs; rw [strR]
 rw [if_pos h, if_neg (by rw [hc]; decide), if_neg (by rw [hc]; decide), if_pos hc, if_pos h1, hm]
theorem zwz (s : ByteArray) (i : Nat) (said : List UInt8) (h : i < s.size) (hc : bt s i = 92) (hm : i + 1 < s.size → esc (bt s (i + 1)) = none) : strR s i said = .bad (i + 1) := by
 rw [strR, if_pos h, if_neg (by rw [hc]; decide), if_neg (by rw [hc]; decide), if_pos hc]
 by_cases h1 : i + 1 < s.size
 ·
  rw [if_pos h1, hm h1]
 ·
  rw [if_neg h1]
theorem zd0 (s : ByteArray) (i : Nat) (said : List UInt8) (h : i < s.size) (h1 : bt s i ≠ 39) (h2 : bt s i ≠ 10) (h3 : bt s i ≠ 92) : strR s i said = strR s (i + 1) (said ++ [bt s i]) := by
 conv => lhs; rw [strR]
 rw [if_pos h, if_neg h1, if_neg h2, if_neg h3]
theorem zkj (b c : UInt8) : (((b.toNat : Nat) : Int) == ((c.toNat : Nat) : Int)) = decide (b = c) := by
 by_cases h : b = c
 ·
  subst h; simp
 ·
  have : b.toNat ≠ c.toNat := fun e => h (UInt8.toNat_inj.1 e); simp [h]; omega
def escV (o : Option UInt8) : Value := match o with | some m => .tuple #[.int .u8 (m.toNat : Int), .bool true] | none => .tuple #[.int .u8 0, .bool false]
theorem escaped_out (s : ByteArray) (i : Nat) (w : World) (h : s.size ≤ i) :
  Calls Tryz.prog 216 #[.string s, .int .i64 (i : Int)] w fun e w' => e = .returned (.tuple #[.int .u8 0, .bool false]) ∧ w' = w := by
 go_enter Tryz.func216, Tryz.ntmps216
 go_wp2
 go_ret2
 exact ⟨rfl, rfl⟩
theorem escaped_in (s : ByteArray) (i : Nat) (w : World) (h : i < s.size) :
  Calls Tryz.prog 216 #[.string s, .int .i64 (i : Int)] w fun e w' => e = .returned (escV (esc (bt s i))) ∧ w' = w := by
 rw [bt_eq s i h]
 obtain ⟨b, hb⟩ : ∃ b, b = s[i] := ⟨_, rfl⟩
 have b1 := zkj b 110
 have b2 := zkj b 39
 have b3 := zkj b 92
 rw [← hb]
 by_cases h1 : b = 110
 ·
  have e : esc b = some 10 := by simp [esc, h1]
  have c1 : (((s[i].toNat : Nat) : Int) == 110) = true := by rw [← hb, h1]; rfl
  rw [e]; clear b1 b2 b3 hb h1; go_enter Tryz.func216, Tryz.ntmps216
  go_wp2
  go_ret2
  exact ⟨rfl, rfl⟩
 ·
  have c1 : (((s[i].toNat : Nat) : Int) == 110) = false := by rw [← hb]; simpa [h1] using b1
  by_cases h2 : b = 39
  ·
   have e : esc b = some 39 := by simp [esc, h2]
   have c2 : (((s[i].toNat : Nat) : Int) == 39) = true := by rw [← hb, h2]; rfl
   have hv : ((s[i].toNat : Nat) : Int) = 39 := by rw [← hb, h2]; rfl
   rw [e]; have HV := qh hv; clear b1 b2 b3 hb h1 h2 hv; go_enter Tryz.func216, Tryz.ntmps216
   go_wp2
   go_ret2
   refine ⟨?_, rfl⟩
   show Ending.returned (.tuple #[.int .u8 (s[i].toNat : Int), .bool true]) = _
   rw [HV.out]; rfl
  ·
   have c2 : (((s[i].toNat : Nat) : Int) == 39) = false := by rw [← hb]; simpa [h2] using b2
   by_cases h3 : b = 92
   ·
    have e : esc b = some 92 := by simp [esc, h3]
    have c3 : (((s[i].toNat : Nat) : Int) == 92) = true := by rw [← hb, h3]; rfl
    have hv : ((s[i].toNat : Nat) : Int) = 92 := by rw [← hb, h3]; rfl
    rw [e]; have HV := qh hv; clear b1 b2 b3 hb h1 h2 hv; go_enter Tryz.func216, Tryz.ntmps216
    go_wp2
    go_ret2
    refine ⟨?_, rfl⟩
    show Ending.returned (.tuple #[.int .u8 (s[i].toNat : Int), .bool true]) = _
    rw [HV.out]; rfl
   ·
    have e : esc b = none := by simp [esc, h1, h2, h3]
    have c3 : (((s[i].toNat : Nat) : Int) == 92) = false := by rw [← hb]; simpa [h3] using b3
    rw [e]; clear b1 b2 b3 hb h1 h2; go_enter Tryz.func216, Tryz.ntmps216
    go_wp2
    go_ret2
    exact ⟨rfl, rfl⟩
def cellsOf (l : List UInt8) : List Value := l.map (fun b => Value.int .u8 (b.toNat : Int))
theorem row_shape {w : World} {base : Nat} {v : Value} {n : Nat} {xs : List Value} (h : w.ownsRow base 5 1 v n xs) : ∃ a cap, v = .slice a n cap := by
 obtain ⟨_, ⟨rfl, rfl⟩ | ⟨g, cap, cur, rfl, _⟩⟩ := h
 all_goals
  exact ⟨_, _, rfl⟩
theorem row_text {w : World} {base : Nat} {v : Value} (l : List UInt8) (h : w.ownsRow base 5 1 v l.length (cellsOf l)) : (convert 82 9 v).run Tryz.prog w = .ok (.string (zq6 l)) w := by
 obtain ⟨hl, ⟨rfl, h0⟩ | ⟨g, cap, cur, rfl, hb, hh, hn, hm, hs, ht⟩⟩ := h
 ·
  have : l = [] := List.length_eq_zero_iff.1 h0; subst this; exact run_convert_bytes_nil w 82 5 Tryz.underlying82 Tryz.underlying5 0 0 9 Tryz.underlying9
 ·
  refine run_convert_bytes_back w 82 9 5 ⟨g, 0, none⟩ cap l Tryz.underlying82 Tryz.underlying5 Tryz.underlying9 ?_; intro j hj
  have h1 : (cellsOf l)[j]? = some (.int .u8 (l[j].toNat : Int)) := by unfold cellsOf; rw [List.getElem?_map, List.getElem?_eq_getElem hj]; rfl
  rw [← ht, List.getElem?_take_of_lt (by omega)] at h1; have h2 : cur[j]? = some (.int .u8 (l[j].toNat : Int)) := by simpa using h1
  have e : (Addr.add ⟨g, 0, none⟩ j) = ⟨g, j, none⟩ := by simp [Addr.add]; intro h; exact h.symm
  rw [e]; simp only [World.cell?, hh]; simpa using h2
theorem info5 : (Tryz.prog.info? 5).map (fun i => (i.zero, i.size, i.bytes)) = some (some (.int .u8 0), 1, 1) := by kernel_rfl
theorem cells_snoc (l : List UInt8) (b : UInt8) : cellsOf (l ++ [b]) = cellsOf l ++ [.int .u8 (b.toNat : Int)] := by simp [cellsOf]
theorem rel_app {w wr w1 : World} {v v' : Value} {said : List UInt8} {b : UInt8} (o : Obj) (hB : Below (w.heap.size + 1) (w.alloc O35) wr) (hsz : w.heap.size + 1 ≤ wr.heap.size)
  (hown : wr.ownsRow (w.heap.size + 1) 5 1 v said.length (cellsOf said))
  (hown' : w1.ownsRow (w.heap.size + 1) 5 1 v' (said.length + 1) (cellsOf said ++ [.int .u8 (b.toNat : Int)])) (hg : (wr.alloc o).grownBy w1 v.ownBlock) :
  w1.ownsRow (w.heap.size + 1) 5 1 v' (said ++ [b]).length (cellsOf (said ++ [b])) ∧ Below (w.heap.size + 1) (w.alloc O35) w1 ∧ w.heap.size + 1 ≤ w1.heap.size := by
 have hb2 : Below (w.heap.size + 1) (w.alloc O35) (wr.alloc o) := hB.alloc hsz o
 have hB1 : Below (w.heap.size + 1) (w.alloc O35) w1 := hb2.grown hg (by simp; omega) (fun k hk => by
  obtain ⟨_, ⟨rfl, _⟩ | ⟨g, cap, cur, rfl, hge, _⟩⟩ := hown
  ·
   simp [Value.ownBlock] at hk
  ·
   simp [Value.ownBlock] at hk; omega)
 refine ⟨by rw [cells_snoc, List.length_append]; exact hown', hB1, ?_⟩
 have := hB1.size; simp at this; omega
theorem readStr_any (s : ByteArray) (k : Nat) (w : World) (hs : s.size ≤ 3000) (hk : k < s.size) :
  Calls Tryz.prog 154 #[.string s, .int .i64 (k : Int)] w (zdj k (zd2 s k) w) := by
 obtain ⟨i0, hi, hz0, hz1, hz2⟩ := info_parts info5
 obtain ⟨r, hr⟩ : ∃ r, strR s (k + 1) [] = r := ⟨_, rfl⟩
 have HR := qh hr
 obtain ⟨q, hq⟩ : ∃ q, zd2 s k = q := ⟨_, rfl⟩
 have HQ := qh hq
 rw [hq]
 clear hr hq
 go_enter Tryz.func154, Tryz.ntmps154
 go_wp2
 go_loopw [7, 8, 9, 10, 11] (fun v i _ _ _ wr => ∃ (j : Nat) (said : List UInt8), j ≤ s.size ∧ said.length ≤ j ∧ i = .int .i64 j ∧ strR s j said = r ∧ wr.ownsRow (w.heap.size + 1) 5 1 v said.length (cellsOf said) ∧ Below (w.heap.size + 1) (w.alloc O35) wr ∧ w.heap.size + 1 ≤ wr.heap.size) (fun _ i _ _ _ _ => s.size - (intOf i).toNat)
 case atStart => exact ⟨k + 1, [], by omega, by simp, by go_num, HR.out, World.ownsRow_nil _ _ _ _, Below.refl _ _, by simp⟩
 case round =>
  obtain ⟨j, said, hj, hsl, rfl, he, hown, hB, hsz⟩ := hrel; have HE := qh he; have HOWN := qh hown; have HB := qh hB; clear he
  by_cases hlt : j < s.size
  ·
   have hbt := bt_eq s j hlt; obtain ⟨a, cap, rfl⟩ := row_shape hown; clear hown hB; have b1 := zkj s[j] 39; have b2 := zkj s[j] 10; have b3 := zkj s[j] 92
   by_cases c1 : s[j] = 39
   ·
    -- the quote
    have t1 : (((s[j].toNat : Nat) : Int) == 39) = true := by rw [c1]; rfl
    have hst : r = .ok said (j + 1) := by rw [← HE.out, zdy s j said hlt (by rw [hbt]; exact c1)]
    clear b1 b2 b3 c1 hbt
    by_cases h500 : 500 < said.length
    ·
     have hq2 : q = .bad 4 k := by rw [← HQ.out]; unfold zd2; rw [HR.out, hst]; simp [h500]
     clear hst HR HE; subst hq2; go_wp2_with fail; refine (zhv _ _ _).mono ?_; rintro e4 w4 ⟨b, rfl, hb, hlb, hbel2⟩; have hbelA := HB.out.trans (hbel2.mono hsz)
     have hbelB : Below (w.alloc O35).heap.size (w.alloc O35) w4 := by simpa using hbelA
     obtain ⟨hc, hf⟩ := zyw hbelB; have HBB := qh hb; have HBEL2 := qh hbelB; have hlb2 : (w.alloc O35).heap.size ≤ b := by simp; omega
     clear hb hbelA hbelB hbel2 hlb; go_wp2_with fail
     exact bodyPost_ret (v := .tuple #[zw1, .int .i64 0, .iface 129 (.pointer (some ⟨b, 0, none⟩))]) (by simp [results, Tryz.results154, go_sem, hc]) rfl ⟨b, rfl, zy7 HBEL2.out hlb2 HBB.out _ _ _ _⟩
    ·
     have hq2 : q = .tok 4 (zq6 said) 0 (j + 1) := by rw [← HQ.out]; unfold zd2; rw [HR.out, hst]; simp [h500]
     clear hst HR HE; subst hq2; have hcv := row_text said HOWN.out; have hbelB : Below (w.alloc O35).heap.size (w.alloc O35) wr := by simpa using zzz HB
     obtain ⟨hc, hf⟩ := zyw hbelB; have HBEL2 := qh hbelB; clear hbelB; go_wp2_with fail
     exact bodyPost_ret (v := .tuple #[.agg #[.int .i64 4, .string (zq6 said), .int .i64 0, .int .i64 (k : Int)], .int .i64 ((j : Int) + 1), .nilIface]) (by simp [results, Tryz.results154, go_sem, hc]) rfl ⟨by simp, zbx HBEL2.out _ _ _ _⟩
   ·
    have t1 : (((s[j].toNat : Nat) : Int) == 39) = false := by rw [show (39 : Int) = (((39 : UInt8).toNat : Nat) : Int) from rfl, b1]; simp [c1]
    by_cases c2 : s[j] = 10
    ·
     -- a line feed
     have t2 : (((s[j].toNat : Nat) : Int) == 10) = true := by rw [c2]; rfl
     have hst : r = .bad j := by rw [← HE.out, strR_lf s j said hlt (by rw [hbt]; exact c2)]
     have hq2 : q = .bad 3 j := by rw [← HQ.out]; unfold zd2; rw [HR.out, hst]
     clear b1 b2 b3 c1 c2 hbt hst HR HE; subst hq2; go_wp2_with fail; refine (zhv _ _ _).mono ?_; rintro e4 w4 ⟨b, rfl, hb, hlb, hbel2⟩; have hbelA := HB.out.trans (hbel2.mono hsz)
     have hbelB : Below (w.alloc O35).heap.size (w.alloc O35) w4 := by simpa using hbelA
     obtain ⟨hc, hf⟩ := zyw hbelB; have HBB := qh hb; have HBEL2 := qh hbelB; have hlb2 : (w.alloc O35).heap.size ≤ b := by simp; omega
     clear hb hbelA hbelB hbel2 hlb; go_wp2_with fail
     exact bodyPost_ret (v := .tuple #[zw1, .int .i64 0, .iface 129 (.pointer (some ⟨b, 0, none⟩))]) (by simp [results, Tryz.results154, go_sem, hc]) rfl ⟨b, rfl, zy7 HBEL2.out hlb2 HBB.out _ _ _ _⟩
    ·
     have t2 : (((s[j].toNat : Nat) : Int) == 10) = false := by rw [show (10 : Int) = (((10 : UInt8).toNat : Nat) : Int) from rfl, b2]; simp [c2]
     by_cases c3 : s[j] = 92
     ·
      -- a backslash
      have t3 : (((s[j].toNat : Nat) : Int) == 92) = true := by rw [c3]; rfl
      by_cases hlt2 : j + 1 < s.size
      ·
       cases hm : esc (bt s (j + 1)) with
       | none =>
        have hst : r = .bad (j + 1) := by rw [← HE.out, zwz s j said hlt (by rw [hbt]; exact c3) (fun _ => hm)]
        have hq2 : q = .bad 3 (j + 1) := by rw [← HQ.out]; unfold zd2; rw [HR.out, hst]
        have HM := qh hm; clear b1 b2 b3 c1 c2 c3 hbt hst HR HE hm; subst hq2; go_wp2_with fail; have hesc := escaped_in s (j + 1) wr hlt2; rw [HM.out] at hesc; refine cm hesc ?_; clear hesc; rintro e3 w3 ⟨rfl, rfl⟩
        simp only [escV]; go_wp2_with fail; refine (zhv _ _ _).mono ?_; rintro e4 w4 ⟨b, rfl, hb, hlb, hbel2⟩; have hbelA := HB.out.trans (hbel2.mono hsz)
        have hbelB : Below (w.alloc O35).heap.size (w.alloc O35) w4 := by simpa using hbelA
        obtain ⟨hc, hf⟩ := zyw hbelB; have HBB := qh hb; have HBEL2 := qh hbelB; have hlb2 : (w.alloc O35).heap.size ≤ b := by simp; omega
        clear hb hbelA hbelB hbel2 hlb; go_wp2_with fail
        exact bodyPost_ret (v := .tuple #[zw1, .int .i64 0, .iface 129 (.pointer (some ⟨b, 0, none⟩))]) (by simp [results, Tryz.results154, go_sem, hc]) rfl ⟨b, rfl, zy7 HBEL2.out hlb2 HBB.out _ _ _ _⟩
       | some m =>
        have hst : strR s (j + 2) (said ++ [m]) = r := by rw [← HE.out, zyy s j said m hlt (by rw [hbt]; exact c3) hlt2 hm]
        have HST := qh hst; have HM := qh hm; clear b1 b2 b3 c1 c2 c3 hbt hst HE hm; go_wp2_with fail; have hesc := escaped_in s (j + 1) wr hlt2; rw [HM.out] at hesc; refine cm hesc ?_; clear hesc
        rintro e3 w3 ⟨rfl, rfl⟩; simp only [escV]
        go_wp2_with (at_builtin; refine wpList_append_own _ rfl _ _ 82 rfl (w.heap.size + 1) 5 i0 (.int .u8 0) 1 1 Tryz.underlying82 hi hz0 hz1 hz2 rfl (by decide) _ _ _ rfl (HOWN.out.alloc _) ⟨w3.heap.size, 0, none⟩ 1 1 [.int .u8 (m.toNat : Int)] rfl rfl ?c1 ?c2 ?c3 ?c4 ?c5 ?_)
        case c1 =>
         intro j u hj
         match j, hj with
         | 0, hj => simp at hj; subst hj; simp [Addr.add]
        case c2 => intro u hu; simp at hu; subst hu; rfl
        case c3 => unfold maxLen; omega
        case c4 => omega
        case c5 => simp; omega
        intro v' w1 hown' hgrow _; have R := rel_app (b := m) _ HB.out hsz HOWN.out hown' hgrow; have HRR := qh R; clear hown' hgrow R
        go_wp2
        go_roundw
        case rel => exact ⟨j + 2, said ++ [m], by omega, by simp; omega, by go_num, HST.out, HRR.out.1, HRR.out.2.1, HRR.out.2.2⟩
        case measure => simp [intOf]; omega
      ·
       have hst : r = .bad (j + 1) := by rw [← HE.out, zwz s j said hlt (by rw [hbt]; exact c3) (fun h => absurd h hlt2)]
       have hq2 : q = .bad 3 (j + 1) := by rw [← HQ.out]; unfold zd2; rw [HR.out, hst]
       clear b1 b2 b3 c1 c2 c3 hbt hst HR HE; subst hq2; go_wp2_with fail; have hesc := escaped_out s (j + 1) wr (by omega); refine cm hesc ?_; clear hesc; rintro e3 w3 ⟨rfl, rfl⟩; go_wp2_with fail
       refine (zhv _ _ _).mono ?_; rintro e4 w4 ⟨b, rfl, hb, hlb, hbel2⟩; have hbelA := HB.out.trans (hbel2.mono hsz); have hbelB : Below (w.alloc O35).heap.size (w.alloc O35) w4 := by simpa using hbelA
       obtain ⟨hc, hf⟩ := zyw hbelB; have HBB := qh hb; have HBEL2 := qh hbelB; have hlb2 : (w.alloc O35).heap.size ≤ b := by simp; omega
       clear hb hbelA hbelB hbel2 hlb; go_wp2_with fail
       exact bodyPost_ret (v := .tuple #[zw1, .int .i64 0, .iface 129 (.pointer (some ⟨b, 0, none⟩))]) (by simp [results, Tryz.results154, go_sem, hc]) rfl ⟨b, rfl, zy7 HBEL2.out hlb2 HBB.out _ _ _ _⟩
     ·
      -- a plain byte
      have t3 : (((s[j].toNat : Nat) : Int) == 92) = false := by rw [show (92 : Int) = (((92 : UInt8).toNat : Nat) : Int) from rfl, b3]; simp [c3]
      have hst : strR s (j + 1) (said ++ [s[j]]) = r := by rw [← HE.out, zd0 s j said hlt (by rw [hbt]; exact c1) (by rw [hbt]; exact c2) (by rw [hbt]; exact c3), hbt]
      have HST := qh hst; clear b1 b2 b3 c1 c2 c3 hbt hst HE
      go_wp2_with (at_builtin; refine wpList_append_own _ rfl _ _ 82 rfl (w.heap.size + 1) 5 i0 (.int .u8 0) 1 1 Tryz.underlying82 hi hz0 hz1 hz2 rfl (by decide) _ _ _ rfl (HOWN.out.alloc _) ⟨wr.heap.size, 0, none⟩ 1 1 [.int .u8 (s[j].toNat : Int)] rfl rfl ?c1 ?c2 ?c3 ?c4 ?c5 ?_)
      case c1 =>
       intro j u hj
       match j, hj with
       | 0, hj => simp at hj; subst hj; simp [Addr.add]
      case c2 => intro u hu; simp at hu; subst hu; rfl
      case c3 => unfold maxLen; omega
      case c4 => omega
      case c5 => simp; omega
      intro v' w1 hown' hgrow _; have R := rel_app (b := s[j]) _ HB.out hsz HOWN.out hown' hgrow; have HRR := qh R; clear hown' hgrow R
      go_wp2
      go_roundw
      case rel => exact ⟨j + 1, said ++ [s[j]], by omega, by simp; omega, by go_num, HST.out, HRR.out.1, HRR.out.2.1, HRR.out.2.2⟩
      case measure => simp [intOf]; omega
  ·
   have hst : r = .bad s.size := by rw [← HE.out, zm3 s j said hlt]
   have hq2 : q = .bad 3 s.size := by rw [← HQ.out]; unfold zd2; rw [HR.out, hst]
   clear hst HR HE hown hB; subst hq2; go_wp2_with fail; refine (zhv _ _ _).mono ?_; rintro e4 w4 ⟨b, rfl, hb, hlb, hbel2⟩; have hbelA := HB.out.trans (hbel2.mono hsz)
   have hbelB : Below (w.alloc O35).heap.size (w.alloc O35) w4 := by simpa using hbelA
   obtain ⟨hc, hf⟩ := zyw hbelB; have HBB := qh hb; have HBEL2 := qh hbelB; have hlb2 : (w.alloc O35).heap.size ≤ b := by simp; omega
   clear hb hbelA hbelB hbel2 hlb; go_wp2_with fail
   exact bodyPost_ret (v := .tuple #[zw1, .int .i64 0, .iface 129 (.pointer (some ⟨b, 0, none⟩))]) (by simp [results, Tryz.results154, go_sem, hc]) rfl ⟨b, rfl, zy7 HBEL2.out hlb2 HBB.out _ _ _ _⟩
def zj9 (ws gs : List ByteArray) (s : ByteArray) (k : Nat) : Rd :=
 if letB ((bt s k).toNat : Int) = true then zy0 ws s k
 else if digB ((bt s k).toNat : Int) = true then zh4 s k
 else if bt s k = 39 then zd2 s k
 else zh9 gs s k
structure Lists (ws gs : List ByteArray) (w : World) : Prop where
 lw : ws.length = 19
 lg : gs.length = 19
 zg : ∀ i, i < 19 → (gs.getD i ByteArray.empty).size ≤ 3
 hw : ∃ t fr, w.heap[2]? = some (.cells (ws.map Value.string).toArray t fr)
 hg : ∃ t fr, w.heap[6]? = some (.cells (gs.map Value.string).toArray t fr)
theorem Lists.lt {ws gs : List ByteArray} {w : World} (h : Lists ws gs w) : 2 < w.heap.size := by
 obtain ⟨t, fr, hg⟩ := h.hw
 exact (Array.getElem?_eq_some_iff.1 hg).1
theorem Lists.later {ws gs : List ByteArray} {w w' : World} (h : Lists ws gs w) (hb : Below w.heap.size w w') : Lists ws gs w' := by
 obtain ⟨t, fr, hw⟩ := h.hw
 obtain ⟨t2, fr2, hg⟩ := h.hg
 have hl := (Array.getElem?_eq_some_iff.1 hw).1
 have hl2 := (Array.getElem?_eq_some_iff.1 hg).1
 exact ⟨h.lw, h.lg, h.zg, ⟨t, fr, by rw [hb.block 2 (by omega)]; exact hw⟩, ⟨t2, fr2, by rw [hb.block 6 (by omega)]; exact hg⟩⟩
theorem read_name_ok (ws gs : List ByteArray) (s : ByteArray) (k : Nat) (kd n : Int) (tx : ByteArray) (e : Nat) (w : World) (hs : s.size ≤ 3000) (hk : k < s.size) (hL : Lists ws gs w) (hl : letB (s[k].toNat : Int) = true) (hr : zy0 ws s k = .tok kd tx n e) :
  Calls Tryz.prog 109 #[.string s, .int .i64 (k : Int)] w (zdj k (.tok kd tx n e) w) := by
 have hL1 : Lists ws gs (w.alloc O35) := hL.later (qb.alloc qv _)
 have HLS := qh hL1
 have HR := qh hr
 have HL := qh hl
 clear hL hL1 hr hl
 go_enter Tryz.func109, Tryz.ntmps109
 go_wp2_with fail
 refine (zw2 _).mono ?_
 rintro e1 w1 ⟨x, rfl, ⟨f1, c1, rfl, ef1, hf1⟩, hbel⟩
 have HF1 := qh (hf1 w1 qb)
 have HBEL := qh hbel
 clear hf1 hbel
 go_wp2_with fail
 refine cm (zzz HF1 _) ?_
 rw [HL.out]
 rintro e2 w2 ⟨rfl, rfl⟩
 go_wp2_with fail
 have hLL := HLS.out.later HBEL.out
 obtain ⟨t, fr, hg⟩ := hLL.hw
 have hc0 := zpw ws s k w2 hs hk hLL.lw t fr hg
 rw [HR.out] at hc0
 refine cm hc0 ?_
 clear hc0 hg hLL
 rintro e5 w5 ⟨rfl, hb5⟩
 have hbelA := HBEL.out.trans (hb5.mono HBEL.out.size)
 obtain ⟨hc, hf⟩ := zyw hbelA
 have HBELA := qh hbelA
 clear hbelA hb5
 go_wp2_with fail
 exact bodyPost_ret (v := .tuple #[.agg #[.int .i64 kd, .string tx, .int .i64 n, .int .i64 (k : Int)], .int .i64 (e : Int), .nilIface]) (by simp [results, Tryz.results109, go_sem, hc]) rfl ⟨rfl, zbx HBELA.out _ _ _ _⟩
theorem read_num_ok (ws gs : List ByteArray) (s : ByteArray) (k : Nat) (kd n : Int) (tx : ByteArray) (e : Nat) (w : World) (hs : s.size ≤ 3000) (hk : k < s.size) (hL : Lists ws gs w) (hl : letB (s[k].toNat : Int) = false) (hd : digB (s[k].toNat : Int) = true) (hr : zh4 s k = .tok kd tx n e) :
  Calls Tryz.prog 109 #[.string s, .int .i64 (k : Int)] w (zdj k (.tok kd tx n e) w) := by
 have HD := qh hd
 clear hd
 have hL1 : Lists ws gs (w.alloc O35) := hL.later (qb.alloc qv _)
 have HLS := qh hL1
 have HR := qh hr
 have HL := qh hl
 clear hL hL1 hr hl
 go_enter Tryz.func109, Tryz.ntmps109
 go_wp2_with fail
 refine (zw2 _).mono ?_
 rintro e1 w1 ⟨x, rfl, ⟨f1, c1, rfl, ef1, hf1⟩, hbel⟩
 have HF1 := qh (hf1 w1 qb)
 have HBEL := qh hbel
 clear hf1 hbel
 go_wp2_with fail
 refine cm (zzz HF1 _) ?_
 rw [HL.out]
 rintro e2 w2 ⟨rfl, rfl⟩
 go_wp2_with fail
 refine (zv9 _).mono ?_
 rintro e3 w3 ⟨x3, rfl, ⟨f3, c3, rfl, ef3, hf3⟩, hbel3⟩
 have HF3 := qh (hf3 w3 qb)
 have HBEL3 := qh (HBEL.out.trans (hbel3.mono HBEL.out.size))
 clear hf3 hbel3
 go_wp2_with fail
 refine cm (zzz HF3 _) ?_
 rw [HD.out]
 rintro e4 w4 ⟨rfl, rfl⟩
 go_wp2_with fail
 have hc0 := readNum_any s k w4 hs hk HD.out
 rw [HR.out] at hc0
 refine cm hc0 ?_
 clear hc0
 rintro e5 w5 ⟨rfl, hb5⟩
 have hbelA := HBEL3.out.trans (hb5.mono HBEL3.out.size)
 obtain ⟨hc, hf⟩ := zyw hbelA
 have HBELA := qh hbelA
 clear hbelA hb5
 go_wp2_with fail
 exact bodyPost_ret (v := .tuple #[.agg #[.int .i64 kd, .string tx, .int .i64 n, .int .i64 (k : Int)], .int .i64 (e : Int), .nilIface]) (by simp [results, Tryz.results109, go_sem, hc]) rfl ⟨rfl, zbx HBELA.out _ _ _ _⟩
theorem read_str_ok (ws gs : List ByteArray) (s : ByteArray) (k : Nat) (kd n : Int) (tx : ByteArray) (e : Nat) (w : World) (hs : s.size ≤ 3000) (hk : k < s.size) (hL : Lists ws gs w) (hl : letB (s[k].toNat : Int) = false) (hd : digB (s[k].toNat : Int) = false) (hq : (((s[k].toNat : Nat) : Int) == 39) = true) (hr : zd2 s k = .tok kd tx n e) :
  Calls Tryz.prog 109 #[.string s, .int .i64 (k : Int)] w (zdj k (.tok kd tx n e) w) := by
 have HD := qh hd
 clear hd
 have hL1 : Lists ws gs (w.alloc O35) := hL.later (qb.alloc qv _)
 have HLS := qh hL1
 have HR := qh hr
 have HL := qh hl
 clear hL hL1 hr hl
 go_enter Tryz.func109, Tryz.ntmps109
 go_wp2_with fail
 refine (zw2 _).mono ?_
 rintro e1 w1 ⟨x, rfl, ⟨f1, c1, rfl, ef1, hf1⟩, hbel⟩
 have HF1 := qh (hf1 w1 qb)
 have HBEL := qh hbel
 clear hf1 hbel
 go_wp2_with fail
 refine cm (zzz HF1 _) ?_
 rw [HL.out]
 rintro e2 w2 ⟨rfl, rfl⟩
 go_wp2_with fail
 refine (zv9 _).mono ?_
 rintro e3 w3 ⟨x3, rfl, ⟨f3, c3, rfl, ef3, hf3⟩, hbel3⟩
 have HF3 := qh (hf3 w3 qb)
 have HBEL3 := qh (HBEL.out.trans (hbel3.mono HBEL.out.size))
 clear hf3 hbel3
 go_wp2_with fail
 refine cm (zzz HF3 _) ?_
 rw [HD.out]
 rintro e4 w4 ⟨rfl, rfl⟩
 go_wp2_with fail
 have hc0 := readStr_any s k w4 hs hk
 rw [HR.out] at hc0
 refine cm hc0 ?_
 clear hc0
 rintro e5 w5 ⟨rfl, hb5⟩
 have hbelA := HBEL3.out.trans (hb5.mono HBEL3.out.size)
 obtain ⟨hc, hf⟩ := zyw hbelA
 have HBELA := qh hbelA
 clear hbelA hb5
 go_wp2_with fail
 exact bodyPost_ret (v := .tuple #[.agg #[.int .i64 kd, .string tx, .int .i64 n, .int .i64 (k : Int)], .int .i64 (e : Int), .nilIface]) (by simp [results, Tryz.results109, go_sem, hc]) rfl ⟨rfl, zbx HBELA.out _ _ _ _⟩
theorem read_sign_ok (ws gs : List ByteArray) (s : ByteArray) (k : Nat) (kd n : Int) (tx : ByteArray) (e : Nat) (w : World) (hs : s.size ≤ 3000) (hk : k < s.size) (hL : Lists ws gs w) (hl : letB (s[k].toNat : Int) = false) (hd : digB (s[k].toNat : Int) = false) (hq : (((s[k].toNat : Nat) : Int) == 39) = false) (hr : zh9 gs s k = .tok kd tx n e) :
  Calls Tryz.prog 109 #[.string s, .int .i64 (k : Int)] w (zdj k (.tok kd tx n e) w) := by
 have HD := qh hd
 clear hd
 have hL1 : Lists ws gs (w.alloc O35) := hL.later (qb.alloc qv _)
 have HLS := qh hL1
 have HR := qh hr
 have HL := qh hl
 clear hL hL1 hr hl
 go_enter Tryz.func109, Tryz.ntmps109
 go_wp2_with fail
 refine (zw2 _).mono ?_
 rintro e1 w1 ⟨x, rfl, ⟨f1, c1, rfl, ef1, hf1⟩, hbel⟩
 have HF1 := qh (hf1 w1 qb)
 have HBEL := qh hbel
 clear hf1 hbel
 go_wp2_with fail
 refine cm (zzz HF1 _) ?_
 rw [HL.out]
 rintro e2 w2 ⟨rfl, rfl⟩
 go_wp2_with fail
 refine (zv9 _).mono ?_
 rintro e3 w3 ⟨x3, rfl, ⟨f3, c3, rfl, ef3, hf3⟩, hbel3⟩
 have HF3 := qh (hf3 w3 qb)
 have HBEL3 := qh (HBEL.out.trans (hbel3.mono HBEL.out.size))
 clear hf3 hbel3
 go_wp2_with fail
 refine cm (zzz HF3 _) ?_
 rw [HD.out]
 rintro e4 w4 ⟨rfl, rfl⟩
 go_wp2_with fail
 have hLL := HLS.out.later HBEL3.out
 obtain ⟨t, fr, hg⟩ := hLL.hg
 have hc0 := zpv gs s k w4 hs hk hLL.lg hLL.zg t fr hg
 rw [HR.out] at hc0
 refine cm hc0 ?_
 clear hc0 hg hLL
 rintro e5 w5 ⟨rfl, hb5⟩
 have hbelA := HBEL3.out.trans (hb5.mono HBEL3.out.size)
 obtain ⟨hc, hf⟩ := zyw hbelA
 have HBELA := qh hbelA
 clear hbelA hb5
 go_wp2_with fail
 exact bodyPost_ret (v := .tuple #[.agg #[.int .i64 kd, .string tx, .int .i64 n, .int .i64 (k : Int)], .int .i64 (e : Int), .nilIface]) (by simp [results, Tryz.results109, go_sem, hc]) rfl ⟨rfl, zbx HBELA.out _ _ _ _⟩
theorem read_name_bad (ws gs : List ByteArray) (s : ByteArray) (k : Nat) (er : Int) (p : Nat) (w : World) (hs : s.size ≤ 3000) (hk : k < s.size) (hL : Lists ws gs w) (hl : letB (s[k].toNat : Int) = true) (hr : zy0 ws s k = .bad er p) :
  Calls Tryz.prog 109 #[.string s, .int .i64 (k : Int)] w (zdj k (.bad er p) w) := by
 have hL1 : Lists ws gs (w.alloc O35) := hL.later (qb.alloc qv _)
 have HLS := qh hL1
 have HR := qh hr
 have HL := qh hl
 clear hL hL1 hr hl
 go_enter Tryz.func109, Tryz.ntmps109
 go_wp2_with fail
 refine (zw2 _).mono ?_
 rintro e1 w1 ⟨x, rfl, ⟨f1, c1, rfl, ef1, hf1⟩, hbel⟩
 have HF1 := qh (hf1 w1 qb)
 have HBEL := qh hbel
 clear hf1 hbel
 go_wp2_with fail
 refine cm (zzz HF1 _) ?_
 rw [HL.out]
 rintro e2 w2 ⟨rfl, rfl⟩
 go_wp2_with fail
 have hLL := HLS.out.later HBEL.out
 obtain ⟨t, fr, hg⟩ := hLL.hw
 have hc0 := zpw ws s k w2 hs hk hLL.lw t fr hg
 rw [HR.out] at hc0
 refine cm hc0 ?_
 clear hc0 hg hLL
 rintro e5 w5 ⟨b, rfl, hb, hlb, hbel5⟩
 have hbelA := HBEL.out.trans (hbel5.mono HBEL.out.size)
 have hlb2 := Nat.le_trans HBEL.out.size hlb
 obtain ⟨hc, hf⟩ := zyw hbelA
 have HBELA := qh hbelA
 have HBB := qh hb
 clear hbelA hbel5 hb hlb
 go_wp2_with fail
 exact bodyPost_ret (v := .tuple #[zw1, .int .i64 0, .iface 129 (.pointer (some ⟨b, 0, none⟩))]) (by simp [results, Tryz.results109, go_sem, hc]) rfl ⟨b, rfl, zy7 HBELA.out hlb2 HBB.out _ _ _ _⟩
theorem read_num_bad (ws gs : List ByteArray) (s : ByteArray) (k : Nat) (er : Int) (p : Nat) (w : World) (hs : s.size ≤ 3000) (hk : k < s.size) (hL : Lists ws gs w) (hl : letB (s[k].toNat : Int) = false) (hd : digB (s[k].toNat : Int) = true) (hr : zh4 s k = .bad er p) :
  Calls Tryz.prog 109 #[.string s, .int .i64 (k : Int)] w (zdj k (.bad er p) w) := by
 have HD := qh hd
 clear hd
 have hL1 : Lists ws gs (w.alloc O35) := hL.later (qb.alloc qv _)
 have HLS := qh hL1
 have HR := qh hr
 have HL := qh hl
 clear hL hL1 hr hl
 go_enter Tryz.func109, Tryz.ntmps109
 go_wp2_with fail
 refine (zw2 _).mono ?_
 rintro e1 w1 ⟨x, rfl, ⟨f1, c1, rfl, ef1, hf1⟩, hbel⟩
 have HF1 := qh (hf1 w1 qb)
 have HBEL := qh hbel
 clear hf1 hbel
 go_wp2_with fail
 refine cm (zzz HF1 _) ?_
 rw [HL.out]
 rintro e2 w2 ⟨rfl, rfl⟩
 go_wp2_with fail
 refine (zv9 _).mono ?_
 rintro e3 w3 ⟨x3, rfl, ⟨f3, c3, rfl, ef3, hf3⟩, hbel3⟩
 have HF3 := qh (hf3 w3 qb)
 have HBEL3 := qh (HBEL.out.trans (hbel3.mono HBEL.out.size))
 clear hf3 hbel3
 go_wp2_with fail
 refine cm (zzz HF3 _) ?_
 rw [HD.out]
 rintro e4 w4 ⟨rfl, rfl⟩
 go_wp2_with fail
 have hc0 := readNum_any s k w4 hs hk HD.out
 rw [HR.out] at hc0
 refine cm hc0 ?_
 clear hc0
 rintro e5 w5 ⟨b, rfl, hb, hlb, hbel5⟩
 have hbelA := HBEL3.out.trans (hbel5.mono HBEL3.out.size)
 have hlb2 := Nat.le_trans HBEL3.out.size hlb
 obtain ⟨hc, hf⟩ := zyw hbelA
 have HBELA := qh hbelA
 have HBB := qh hb
 clear hbelA hbel5 hb hlb
 go_wp2_with fail
 exact bodyPost_ret (v := .tuple #[zw1, .int .i64 0, .iface 129 (.pointer (some ⟨b, 0, none⟩))]) (by simp [results, Tryz.results109, go_sem, hc]) rfl ⟨b, rfl, zy7 HBELA.out hlb2 HBB.out _ _ _ _⟩
theorem read_str_bad (ws gs : List ByteArray) (s : ByteArray) (k : Nat) (er : Int) (p : Nat) (w : World) (hs : s.size ≤ 3000) (hk : k < s.size) (hL : Lists ws gs w) (hl : letB (s[k].toNat : Int) = false) (hd : digB (s[k].toNat : Int) = false) (hq : (((s[k].toNat : Nat) : Int) == 39) = true) (hr : zd2 s k = .bad er p) :
  Calls Tryz.prog 109 #[.string s, .int .i64 (k : Int)] w (zdj k (.bad er p) w) := by
 have HD := qh hd
 clear hd
 have hL1 : Lists ws gs (w.alloc O35) := hL.later (qb.alloc qv _)
 have HLS := qh hL1
 have HR := qh hr
 have HL := qh hl
 clear hL hL1 hr hl
 go_enter Tryz.func109, Tryz.ntmps109
 go_wp2_with fail
 refine (zw2 _).mono ?_
 rintro e1 w1 ⟨x, rfl, ⟨f1, c1, rfl, ef1, hf1⟩, hbel⟩
 have HF1 := qh (hf1 w1 qb)
 have HBEL := qh hbel
 clear hf1 hbel
 go_wp2_with fail
 refine cm (zzz HF1 _) ?_
 rw [HL.out]
 rintro e2 w2 ⟨rfl, rfl⟩
 go_wp2_with fail
 refine (zv9 _).mono ?_
 rintro e3 w3 ⟨x3, rfl, ⟨f3, c3, rfl, ef3, hf3⟩, hbel3⟩
 have HF3 := qh (hf3 w3 qb)
 have HBEL3 := qh (HBEL.out.trans (hbel3.mono HBEL.out.size))
 clear hf3 hbel3
 go_wp2_with fail
 refine cm (zzz HF3 _) ?_
 rw [HD.out]
 rintro e4 w4 ⟨rfl, rfl⟩
 go_wp2_with fail
 have hc0 := readStr_any s k w4 hs hk
 rw [HR.out] at hc0
 refine cm hc0 ?_
 clear hc0
 rintro e5 w5 ⟨b, rfl, hb, hlb, hbel5⟩
 have hbelA := HBEL3.out.trans (hbel5.mono HBEL3.out.size)
 have hlb2 := Nat.le_trans HBEL3.out.size hlb
 obtain ⟨hc, hf⟩ := zyw hbelA
 have HBELA := qh hbelA
 have HBB := qh hb
 clear hbelA hbel5 hb hlb
 go_wp2_with fail
 exact bodyPost_ret (v := .tuple #[zw1, .int .i64 0, .iface 129 (.pointer (some ⟨b, 0, none⟩))]) (by simp [results, Tryz.results109, go_sem, hc]) rfl ⟨b, rfl, zy7 HBELA.out hlb2 HBB.out _ _ _ _⟩
theorem read_sign_bad (ws gs : List ByteArray) (s : ByteArray) (k : Nat) (er : Int) (p : Nat) (w : World) (hs : s.size ≤ 3000) (hk : k < s.size) (hL : Lists ws gs w) (hl : letB (s[k].toNat : Int) = false) (hd : digB (s[k].toNat : Int) = false) (hq : (((s[k].toNat : Nat) : Int) == 39) = false) (hr : zh9 gs s k = .bad er p) :
  Calls Tryz.prog 109 #[.string s, .int .i64 (k : Int)] w (zdj k (.bad er p) w) := by
 have HD := qh hd
 clear hd
 have hL1 : Lists ws gs (w.alloc O35) := hL.later (qb.alloc qv _)
 have HLS := qh hL1
 have HR := qh hr
 have HL := qh hl
 clear hL hL1 hr hl
 go_enter Tryz.func109, Tryz.ntmps109
 go_wp2_with fail
 refine (zw2 _).mono ?_
 rintro e1 w1 ⟨x, rfl, ⟨f1, c1, rfl, ef1, hf1⟩, hbel⟩
 have HF1 := qh (hf1 w1 qb)
 have HBEL := qh hbel
 clear hf1 hbel
 go_wp2_with fail
 refine cm (zzz HF1 _) ?_
 rw [HL.out]
 rintro e2 w2 ⟨rfl, rfl⟩
 go_wp2_with fail
 refine (zv9 _).mono ?_
 rintro e3 w3 ⟨x3, rfl, ⟨f3, c3, rfl, ef3, hf3⟩, hbel3⟩
 have HF3 := qh (hf3 w3 qb)
 have HBEL3 := qh (HBEL.out.trans (hbel3.mono HBEL.out.size))
 clear hf3 hbel3
 go_wp2_with fail
 refine cm (zzz HF3 _) ?_
 rw [HD.out]
 rintro e4 w4 ⟨rfl, rfl⟩
 go_wp2_with fail
 have hLL := HLS.out.later HBEL3.out
 obtain ⟨t, fr, hg⟩ := hLL.hg
 have hc0 := zpv gs s k w4 hs hk hLL.lg hLL.zg t fr hg
 rw [HR.out] at hc0
 refine cm hc0 ?_
 clear hc0 hg hLL
 rintro e5 w5 ⟨b, rfl, hb, hlb, hbel5⟩
 have hbelA := HBEL3.out.trans (hbel5.mono HBEL3.out.size)
 have hlb2 := Nat.le_trans HBEL3.out.size hlb
 obtain ⟨hc, hf⟩ := zyw hbelA
 have HBELA := qh hbelA
 have HBB := qh hb
 clear hbelA hbel5 hb hlb
 go_wp2_with fail
 exact bodyPost_ret (v := .tuple #[zw1, .int .i64 0, .iface 129 (.pointer (some ⟨b, 0, none⟩))]) (by simp [results, Tryz.results109, go_sem, hc]) rfl ⟨b, rfl, zy7 HBELA.out hlb2 HBB.out _ _ _ _⟩
theorem read_any (ws gs : List ByteArray) (s : ByteArray) (k : Nat) (w : World) (hs : s.size ≤ 3000) (hk : k < s.size) (hL : Lists ws gs w) :
  Calls Tryz.prog 109 #[.string s, .int .i64 (k : Int)] w (zdj k (zj9 ws gs s k) w) := by
 have hbt := bt_eq s k hk
 have hb := zkj s[k] 39
 unfold zj9
 rw [hbt]
 cases hl : letB (s[k].toNat : Int)
 ·
  rw [if_neg (by simp)]
  cases hd : digB (s[k].toNat : Int)
  ·
   rw [if_neg (by simp)]
   by_cases hq : s[k] = 39
   ·
    rw [if_pos hq]; have hq2 : (((s[k].toNat : Nat) : Int) == 39) = true := by rw [hq]; rfl
    cases hr : zd2 s k with
    | tok kd tx n e => exact read_str_ok ws gs s k kd n tx e w hs hk hL hl hd hq2 hr
    | bad er p => exact read_str_bad ws gs s k er p w hs hk hL hl hd hq2 hr
   ·
    rw [if_neg hq]; have hq2 : (((s[k].toNat : Nat) : Int) == 39) = false := by rw [show (39 : Int) = (((39 : UInt8).toNat : Nat) : Int) from rfl, hb]; simp [hq]
    cases hr : zh9 gs s k with
    | tok kd tx n e => exact read_sign_ok ws gs s k kd n tx e w hs hk hL hl hd hq2 hr
    | bad er p => exact read_sign_bad ws gs s k er p w hs hk hL hl hd hq2 hr
  ·
   rw [if_pos rfl]
   cases hr : zh4 s k with
   | tok kd tx n e => exact read_num_ok ws gs s k kd n tx e w hs hk hL hl hd hr
   | bad er p => exact read_num_bad ws gs s k er p w hs hk hL hl hd hr
 ·
  rw [if_pos rfl]
  cases hr : zy0 ws s k with
  | tok kd tx n e => exact read_name_ok ws gs s k kd n tx e w hs hk hL hl hr
  | bad er p => exact read_name_bad ws gs s k er p w hs hk hL hl hr
structure Tk where
 kd : Int
 tx : ByteArray
 n : Int
 pl : Nat
inductive TR where
 | ok (l : List Tk)
 | bad (er : Int) (p : Nat)
def zkz (ws gs : List ByteArray) (s : ByteArray) (i : Nat) (acc : List Tk) : TR :=
 if h : i < s.size then
  match zj9 ws gs s i with
  | .tok kd tx n e => if h2 : i < e then zkz ws gs s (zz3 gapB s e) (acc ++ [⟨kd, tx, n, i⟩]) else .bad 0 0
  | .bad er p => .bad er p
 else .ok (acc ++ [⟨6, ⟨#[]⟩, 0, s.size⟩])
termination_by s.size - i
decreasing_by
 have := zxz gapB s e
 omega
theorem zgj (ws gs : List ByteArray) (s : ByteArray) (i : Nat) (acc : List Tk) (h : ¬ i < s.size) : zkz ws gs s i acc = .ok (acc ++ [⟨6, ⟨#[]⟩, 0, s.size⟩]) := by rw [zkz, dif_neg h]
theorem zk3 (ws gs : List ByteArray) (s : ByteArray) (i : Nat) (acc : List Tk) (er : Int) (p : Nat) (h : i < s.size) (hr : zj9 ws gs s i = .bad er p) : zkz ws gs s i acc = .bad er p := by rw [zkz, dif_pos h, hr]
theorem zwq (ws gs : List ByteArray) (s : ByteArray) (i : Nat) (acc : List Tk) (kd n : Int) (tx : ByteArray) (e : Nat) (h : i < s.size) (hr : zj9 ws gs s i = .tok kd tx n e) (he : i < e) : zkz ws gs s i acc = zkz ws gs s (zz3 gapB s e) (acc ++ [⟨kd, tx, n, i⟩]) := by
 conv => lhs; rw [zkz]
 rw [dif_pos h, hr]
 simp only
 rw [dif_pos he]
theorem strR_bounds (s : ByteArray) : ∀ n i said l e, s.size - i = n → strR s i said = .ok l e → i < e ∧ e ≤ s.size ∧ l.length ≤ said.length + (s.size - i) := by
 intro n
 induction n using Nat.strongRecOn with
 | ind n ih =>
  intro i said l e hn h
  by_cases hlt : i < s.size
  ·
   by_cases c1 : bt s i = 39
   ·
    rw [zdy s i said hlt c1] at h; cases h; exact ⟨by omega, by omega, by omega⟩
   ·
    by_cases c2 : bt s i = 10
    ·
     rw [strR_lf s i said hlt c2] at h; cases h
    ·
     by_cases c3 : bt s i = 92
     ·
      by_cases h1 : i + 1 < s.size
      ·
       cases hm : esc (bt s (i + 1)) with
       | none => rw [zwz s i said hlt c3 (fun _ => hm)] at h; cases h
       | some m =>
        rw [zyy s i said m hlt c3 h1 hm] at h; have := ih (s.size - (i + 2)) (by omega) (i + 2) _ l e rfl h; rw [List.length_append, List.length_singleton] at this; omega
      ·
       rw [zwz s i said hlt c3 (fun hh => absurd hh h1)] at h; cases h
     ·
      rw [zd0 s i said hlt c1 c2 c3] at h; have := ih (s.size - (i + 1)) (by omega) (i + 1) _ l e rfl h; rw [List.length_append, List.length_singleton] at this; omega
  ·
   rw [zm3 s i said hlt] at h; cases h
theorem zdq (ws gs : List ByteArray) (s : ByteArray) (k : Nat) (kd n : Int) (tx : ByteArray) (e : Nat) (hk : k < s.size) (hg : ∀ g ∈ gs, 1 ≤ g.size)
  (h : zj9 ws gs s k = .tok kd tx n e) : k < e ∧ e ≤ s.size := by
 have hbt := bt_eq s k hk
 unfold zj9 at h
 rw [hbt] at h
 split at h
 ·
  rename_i hl
  have hlod : lodB (s[k].toNat : Int) = true := by unfold lodB; rw [hl]; rfl
  have h1 := zxv lodB s k hk hlod; have h2 := zxz lodB s (k + 1); have h3 := zwj lodB s k (by omega); unfold zy0 at h
  split at h
  ·
   cases h; omega
  ·
   split at h
   ·
    cases h
   ·
    cases h; omega
 ·
  split at h
  ·
   rename_i hd
   have h1 := zxv digB s k hk hd; have h2 := zxz digB s (k + 1); have h3 := zwj digB s k (by omega); unfold zh4 at h
   split at h
   ·
    cases h
   ·
    split at h
    ·
     cases h
    ·
     split at h
     ·
      cases h
     ·
      cases h; omega
  ·
   split at h
   ·
    unfold zd2 at h
    cases hr : strR s (k + 1) [] with
    | ok said e' =>
     rw [hr] at h; simp only at h; have hb := strR_bounds s _ (k + 1) [] said e' rfl hr
     split at h
     ·
      cases h
     ·
      cases h; omega
    | bad p => rw [hr] at h; cases h
   ·
    unfold zh9 at h
    cases hf : gs.find? (fun g => pfxB (s.extract k s.size) g) with
    | none => rw [hf] at h; cases h
    | some g =>
     rw [hf] at h; obtain ⟨_, _, _, he⟩ := Rd.tok.inj h; have hm := List.mem_of_find?_eq_some hf; have hp := List.find?_some hf; have h1 := hg g hm; simp only [pfxB, Bool.and_eq_true, decide_eq_true_eq] at hp
     have hz := zq5 s k s.size (by omega) qv; omega
end Go.Proofs.YtodmgaikhbmlnaaGreatDoor
