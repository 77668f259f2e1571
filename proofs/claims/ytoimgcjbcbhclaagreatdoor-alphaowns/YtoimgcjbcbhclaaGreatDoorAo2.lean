/-
  The walk of readName: a word, a name, or a name that is too long.
-/
import Derived.Test.YtoimgcjbcbhclaaGreatDoorAo0
import Derived.Test.YtoimgcjbcbhclaaGreatDoorAo1
import Derived.Laws.IdiomStrings
import Derived.Laws.BytesArg
set_option maxRecDepth 100000
set_option maxHeartbeats 16000000
namespace Go.Proofs.YtoimgcjbcbhclaaGreatDoor
open Go.RowKit
theorem pastN_ge (p : Int → Bool) (s : ByteArray) (k : Nat) : k ≤ pastN p s k := by unfold pastN; omega
theorem good_end {w w1 : World} {o : Obj} (hbel : Below (w.alloc o).heap.size (w.alloc o) w1) (v0 v1 v2 v3 : Value) :
   Below w.heap.size w ((((w1.setCell ⟨w.heap.size, 0, none⟩ v0).setCell ⟨w.heap.size, 1, none⟩ v1).setCell ⟨w.heap.size, 2, none⟩ v2).setCell ⟨w.heap.size, 3, none⟩ v3) := by
 have hz : (w.alloc o).heap.size = w.heap.size + 1 := by simp
 have b0 : Below w.heap.size w (w.alloc o) := (Below.refl _ _).alloc (Nat.le_refl _) _
 have b1 : Below w.heap.size w w1 := b0.trans (hbel.mono (by omega))
 exact (((b1.setCell (Nat.le_refl _) _).setCell (Nat.le_refl _) _).setCell (Nat.le_refl _) _).setCell (Nat.le_refl _) _
def rdName (ws : List ByteArray) (s : ByteArray) (k : Nat) : Rd :=
 if isIn ws (s.extract k (pastN lodB s k)) = true then .tok 2 (s.extract k (pastN lodB s k)) 0 (pastN lodB s k)
 else if 20 < pastN lodB s k - k then .bad 4 k
 else .tok 1 (s.extract k (pastN lodB s k)) 0 (pastN lodB s k)
abbrev O35 : Obj := .cells #[.int .i64 0, .string ⟨#[]⟩, .int .i64 0, .int .i64 0] 138
section
variable (ws : List ByteArray) (s : ByteArray) (k e : Nat) (w : World) (hs : s.size ≤ 3000) (hk : k < s.size) (he : pastN lodB s k = e) (hke : k ≤ e) (hes : e ≤ s.size)
include ws s k e w hs hk he hke hes
theorem readName_word (hw : isIn ws (s.extract k e) = true) (hn : ws.length = 19) (t : TypeId) (fr : Nat × Nat) (hg : w.heap[6]? = some (.cells (ws.map Value.string).toArray t fr)) :
  Calls Tryz.prog 157 #[.string s, .int .i64 (k : Int)] w (RPost k (.tok 2 (s.extract k e) 0 e) w) := by
 have hlt : 6 < w.heap.size := (Array.getElem?_eq_some_iff.1 hg).1
 have HE := hide he
 have HG := hide hg
 have HN := hide hn
 have HW := hide hw
 clear hg hn he hw
 go_enter Tryz.func157, Tryz.ntmps157
 go_wp2_with fail
 refine (lod_any _).mono ?_
 rintro e1 w1 ⟨x, rfl, hx, hbel⟩
 obtain ⟨hc, hf⟩ := bcell hbel
 have HBEL := hide hbel
 have HX := hide hx
 clear hx hbel
 go_wp2_with fail
 have hpast := past_any s k x lodB w1 (by unfold maxLen; omega) (by omega) HX.out
 rw [HE.out] at hpast
 refine hpast.mono ?_
 clear hpast
 rintro e2 w2 ⟨rfl, rfl⟩
 have HG2 : Hid (w2.heap[6]? = some (.cells (ws.map Value.string).toArray t fr)) := by
  exact zbes
 go_wp2_with fail
 refine (isWord_any ws (s.extract k e) w2 HN.out t fr HG2.out).mono ?_
 rw [HW.out]
 rintro e3 w3 ⟨rfl, rfl⟩
 go_wp2_with fail
 exact bodyPost_ret (v := .tuple #[.agg #[.int .i64 2, .string (s.extract k e), .int .i64 0, .int .i64 (k : Int)], .int .i64 (e : Int), .nilIface]) (by simp [results, Tryz.results157, go_sem, hc]) rfl ⟨rfl, good_end HBEL.out _ _ _ _⟩
theorem readName_name (hw : isIn ws (s.extract k e) = false) (h20 : ¬ 20 < e - k) (hn : ws.length = 19) (t : TypeId) (fr : Nat × Nat) (hg : w.heap[6]? = some (.cells (ws.map Value.string).toArray t fr)) :
  Calls Tryz.prog 157 #[.string s, .int .i64 (k : Int)] w (RPost k (.tok 1 (s.extract k e) 0 e) w) := by
 have hlt : 6 < w.heap.size := (Array.getElem?_eq_some_iff.1 hg).1
 have HE := hide he
 have HG := hide hg
 have HN := hide hn
 have HW := hide hw
 clear hg hn he hw
 go_enter Tryz.func157, Tryz.ntmps157
 go_wp2_with fail
 refine (lod_any _).mono ?_
 rintro e1 w1 ⟨x, rfl, hx, hbel⟩
 obtain ⟨hc, hf⟩ := bcell hbel
 have HBEL := hide hbel
 have HX := hide hx
 clear hx hbel
 go_wp2_with fail
 have hpast := past_any s k x lodB w1 (by unfold maxLen; omega) (by omega) HX.out
 rw [HE.out] at hpast
 refine hpast.mono ?_
 clear hpast
 rintro e2 w2 ⟨rfl, rfl⟩
 have HG2 : Hid (w2.heap[6]? = some (.cells (ws.map Value.string).toArray t fr)) := by
  exact zbes
 go_wp2_with fail
 refine (isWord_any ws (s.extract k e) w2 HN.out t fr HG2.out).mono ?_
 rw [HW.out]
 rintro e3 w3 ⟨rfl, rfl⟩
 go_wp2_with fail
 exact bodyPost_ret (v := .tuple #[.agg #[.int .i64 1, .string (s.extract k e), .int .i64 0, .int .i64 (k : Int)], .int .i64 (e : Int), .nilIface]) (by simp [results, Tryz.results157, go_sem, hc]) rfl ⟨rfl, good_end HBEL.out _ _ _ _⟩
theorem readName_long (hw : isIn ws (s.extract k e) = false) (h20 : 20 < e - k) (hn : ws.length = 19) (t : TypeId) (fr : Nat × Nat) (hg : w.heap[6]? = some (.cells (ws.map Value.string).toArray t fr)) :
  Calls Tryz.prog 157 #[.string s, .int .i64 (k : Int)] w (RPost k (.bad 4 k) w) := by
 have hlt : 6 < w.heap.size := (Array.getElem?_eq_some_iff.1 hg).1
 have HE := hide he
 have HG := hide hg
 have HN := hide hn
 have HW := hide hw
 clear hg hn he hw
 go_enter Tryz.func157, Tryz.ntmps157
 go_wp2_with fail
 refine (lod_any _).mono ?_
 rintro e1 w1 ⟨x, rfl, hx, hbel⟩
 obtain ⟨hc, hf⟩ := bcell hbel
 have HBEL := hide hbel
 have HX := hide hx
 clear hx hbel
 go_wp2_with fail
 have hpast := past_any s k x lodB w1 (by unfold maxLen; omega) (by omega) HX.out
 rw [HE.out] at hpast
 refine hpast.mono ?_
 clear hpast
 rintro e2 w2 ⟨rfl, rfl⟩
 have HG2 : Hid (w2.heap[6]? = some (.cells (ws.map Value.string).toArray t fr)) := by
  exact zbes
 go_wp2_with fail
 refine (isWord_any ws (s.extract k e) w2 HN.out t fr HG2.out).mono ?_
 rw [HW.out]
 rintro e3 w3 ⟨rfl, rfl⟩
 go_wp2_with fail
 refine (fail_any _ _ _).mono ?_
 rintro e4 w4 ⟨b, rfl, hb, hlb, hbel2⟩
 have hbel := HBEL.out.trans (hbel2.mono HBEL.out.size)
 have hlb2 := Nat.le_trans HBEL.out.size hlb
 clear hc hf
 obtain ⟨hc, hf⟩ := bcell hbel
 have HB := hide hb
 have HBEL2 := hide hbel
 clear hb hbel hbel2 hlb
 go_wp2_with fail
 exact bodyPost_ret (v := .tuple #[noTok, .int .i64 0, .iface 144 (.pointer (some ⟨b, 0, none⟩))]) (by simp [results, Tryz.results157, go_sem, hc]) rfl ⟨b, rfl, bad_end HBEL2.out hlb2 HB.out _ _ _ _⟩
end
theorem readName_any (ws : List ByteArray) (s : ByteArray) (k : Nat) (w : World) (hs : s.size ≤ 3000) (hk : k < s.size) (hn : ws.length = 19) (t : TypeId) (fr : Nat × Nat)
  (hg : w.heap[6]? = some (.cells (ws.map Value.string).toArray t fr)) :
  Calls Tryz.prog 157 #[.string s, .int .i64 (k : Int)] w (RPost k (rdName ws s k) w) := by
 have hke := pastN_ge lodB s k
 have hes := pastN_le lodB s k (by omega)
 cases hw : isIn ws (s.extract k (pastN lodB s k))
 ·
  by_cases h20 : 20 < pastN lodB s k - k
  ·
   have hr : rdName ws s k = .bad 4 k := by unfold rdName; rw [hw]; simp [h20]
   rw [hr]; exact readName_long ws s k _ w hs hk rfl hke hes hw h20 hn t fr hg
  ·
   have hr : rdName ws s k = .tok 1 (s.extract k (pastN lodB s k)) 0 (pastN lodB s k) := by unfold rdName; rw [hw]; simp [h20]
   rw [hr]; exact readName_name ws s k _ w hs hk rfl hke hes hw h20 hn t fr hg
 ·
  have hr : rdName ws s k = .tok 2 (s.extract k (pastN lodB s k)) 0 (pastN lodB s k) := by unfold rdName; rw [hw]; simp
  rw [hr]; exact readName_word ws s k _ w hs hk rfl hke hes hw hn t fr hg
def numL (l : List UInt8) : Int := l.foldl (fun n b => n * 10 + ((b.toNat : Int) - 48)) 0
section
variable (l : List UInt8)
include l
theorem numL_snoc (b : UInt8) : numL (l ++ [b]) = numL l * 10 + ((b.toNat : Int) - 48) := by simp [numL, List.foldl_append]
theorem num_from : ∀ (n : Int), 0 ≤ n → (∀ b ∈ l, digB (b.toNat : Int) = true) →
  0 ≤ l.foldl (fun n b => n * 10 + ((b.toNat : Int) - 48)) n ∧ l.foldl (fun n b => n * 10 + ((b.toNat : Int) - 48)) n < (n + 1) * 10 ^ l.length := by
 induction l with
 | nil => intro n h0 _; simp; omega
 | cons b l ih =>
  intro n h0 h; have hb := h b (by simp); simp [digB, btwB] at hb; have h1 := ih (n * 10 + ((b.toNat : Int) - 48)) (by omega) (fun c hc => h c (by simp [hc])); refine ⟨h1.1, Int.lt_of_lt_of_le h1.2 ?_⟩
  rw [List.length_cons, Int.pow_succ, Int.mul_comm ((10 : Int) ^ l.length) 10, ← Int.mul_assoc]; exact Int.mul_le_mul_of_nonneg_right (by omega) (Int.pow_nonneg (by omega))
theorem numL_bound (h : ∀ b ∈ l, digB (b.toNat : Int) = true) : 0 ≤ numL l ∧ numL l < 10 ^ l.length := by
 have h1 := num_from l 0 (Int.le_refl _) h
 refine ⟨h1.1, ?_⟩
 have h2 := h1.2
 rw [Int.zero_add, Int.one_mul] at h2
 exact h2
end
theorem digit_take (x : ByteArray) (hd : ∀ i, (hi : i < x.size) → digB (x[i].toNat : Int) = true) (k : Nat) : ∀ b ∈ x.data.toList.take k, digB (b.toNat : Int) = true := by
 intro b hb
 obtain ⟨i, hi, rfl⟩ := List.getElem_of_mem hb
 have hi' : i < x.data.toList.length := by simp at hi; simp; omega
 have hs : i < x.size := by
  have h4 : x.data.toList.length = x.size := by simp
  omega
 rw [List.getElem_take]
 exact hd i hs
theorem take_snoc (s : ByteArray) (k : Nat) (h : k < s.size) : s.data.toList.take (k + 1) = s.data.toList.take k ++ [s[k]] := by
 rw [List.take_succ_eq_append_getElem (by simpa using h)]; rfl
theorem conv_bytes (x : ByteArray) (w : World) : ∃ cap W1, (convert 9 71 (.string x)).run Tryz.prog w = .ok (.slice (some ⟨w.heap.size, 0, none⟩) x.size cap) W1 ∧ Below w.heap.size w W1 ∧
  ∀ i, (hi : i < x.size) → W1.cell? ⟨w.heap.size, i, none⟩ = some (.int .u8 (x[i].toNat : Int)) := by
 refine ⟨_, _, run_bytes_of_string w 9 71 5 x Tryz.underlying9 Tryz.underlying71 Tryz.underlying5, ((Below.refl _ _).drew.alloc (Nat.le_refl _) _), ?_⟩
 intro i hi
 have hh := heap_alloc_new w.drew (.cells (bytesRow x (grownCap w x.size 0 5)) 5 ((bytesRow x (grownCap w x.size 0 5)).size, (bytesRow x (grownCap w x.size 0 5)).size + 1))
 have hh2 : (w.drew.alloc (.cells (bytesRow x (grownCap w x.size 0 5)) 5 ((bytesRow x (grownCap w x.size 0 5)).size, (bytesRow x (grownCap w x.size 0 5)).size + 1))).heap[w.heap.size]? = some (.cells (bytesRow x (grownCap w x.size 0 5)) 5 ((bytesRow x (grownCap w x.size 0 5)).size, (bytesRow x (grownCap w x.size 0 5)).size + 1)) := hh
 have hi2 : i < x.data.size := hi
 simp only [World.cell?, hh2]
 have h3 : (bytesRow x (grownCap w x.size 0 5))[i]? = some (.int .u8 (x[i].toNat : Int)) := by
  unfold bytesRow; rw [Array.getElem?_append_left (by simpa using hi2), Array.getElem?_map, Array.getElem?_eq_getElem hi2]; rfl
 simpa using h3
theorem pow10_le {n : Nat} (h : n ≤ 10) : (10 : Int) ^ n ≤ 10000000000 := by
 have : ∀ m : Fin 11, (10 : Int) ^ m.val ≤ 10000000000 := by decide
 exact this ⟨n, by omega⟩
theorem iatoi_any (x : ByteArray) (w : World) (h1 : 1 ≤ x.size) (h2 : x.size ≤ 10) (hd : ∀ i, (hi : i < x.size) → digB (x[i].toNat : Int) = true) :
  Calls Tryz.prog 249 #[.string x] w fun e w' => e = .returned (.tuple #[.int .i64 (numL x.data.toList), .nilIface]) ∧ Below w.heap.size w w' := by
 obtain ⟨cap, W1, hcv, hbel, hcell⟩ := conv_bytes x w
 have h0 := hd 0 h1
 simp [digB, btwB] at h0
 obtain ⟨h0a, h0b⟩ := h0
 have e45 : (((x[0].toNat : Nat) : Int) == 45) = false := beq_eq_false_iff_ne.2 (by omega)
 have e43 : (((x[0].toNat : Nat) : Int) == 43) = false := beq_eq_false_iff_ne.2 (by omega)
 have HBEL := hide hbel
 have HCELL := hide hcell
 have HD := hide hd
 clear hbel hcell hd
 go_enter Tryz.func249, Tryz.ntmps249
 go_wp2
 go_loop [6, 8, 49] (fun n _ i => ∃ k : Nat, k ≤ x.size ∧ i = .int .i64 k ∧ n = .int .i64 (numL (x.data.toList.take k))) (fun _ _ i => x.size - (intOf i).toNat)
 case atStart => exact ⟨0, Nat.zero_le _, rfl, rfl⟩
 case round =>
  obtain ⟨k, hk, rfl, rfl⟩ := hrel
  by_cases hlt : k < x.size
  ·
   have hck := unhide HCELL k hlt; have hdk := unhide HD k hlt; simp [digB, btwB] at hdk; obtain ⟨ha, hb⟩ := hdk; have hnb := numL_bound _ (digit_take x HD.out k)
   have hl : (x.data.toList.take k).length ≤ 10 := by simp; omega
   have hp := pow10_le hl; obtain ⟨hn0, hn1⟩ := hnb; have hn2 : numL (x.data.toList.take k) < 10000000000 := by omega
   have HS := hide (numL_snoc (x.data.toList.take k) x[k]); have HT := hide (take_snoc x k hlt); obtain ⟨N, hN⟩ : ∃ N, N = numL (x.data.toList.take k) := ⟨_, rfl⟩; rw [← hN] at hn0 hn2 ⊢; have HN := hide hN
   clear hN hn1 hp hl
   go_wp2
   exact ⟨⟨k + 1, by omega, by go_num, by rw [HT.out, HS.out, ← HN.out]⟩, by simp [intOf]; omega⟩
  ·
   have HT : Hid (x.data.toList.take k = x.data.toList) := List.take_of_length_le (by simp; omega)
   go_wp2
   go_ret2
   refine ⟨?_, HBEL.out⟩; rw [HT.out]; rfl
theorem atoi_any (x : ByteArray) (w : World) (h1 : 1 ≤ x.size) (h2 : x.size ≤ 10) (hd : ∀ i, (hi : i < x.size) → digB (x[i].toNat : Int) = true) :
  Calls Tryz.prog 182 #[.string x] w fun e w' => e = .returned (.tuple #[.int .i64 (numL x.data.toList), .nilIface]) ∧ Below w.heap.size w w' := by
 have HD := hide hd
 clear hd
 go_enter Tryz.func182, Tryz.ntmps182
 go_wp2_with fail
 refine (iatoi_any x w h1 h2 HD.out).mono ?_
 rintro e w1 ⟨rfl, hb⟩
 have HB := hide hb
 clear hb
 go_wp2_with fail
 go_ret2
 exact ⟨rfl, HB.out⟩
theorem data_len (x : ByteArray) : x.data.toList.length = x.size := by simp
theorem past_in (p : Int → Bool) (s : ByteArray) : ∀ n k, n + k = s.size → ∀ i, k ≤ i → i < pastN p s k → (hi : i < s.size) → p (s[i].toNat : Int) = true
 | 0, k, e, i, h1, h2, hi => by omega
 | n + 1, k, e, i, h1, h2, hi => by
  cases hk : p ((s[k]'(by omega)).toNat : Int)
  ·
   rw [pastN_stop p s k (by omega) hk] at h2; omega
  ·
   by_cases hik : i = k
   ·
    subst hik; exact hk
   ·
    rw [← pastN_go p s k (by omega) hk] at h2; exact past_in p s n (k + 1) (by omega) i (by omega) h2 hi
theorem extract_at (s : ByteArray) (a b i : Nat) (h1 : b ≤ s.size) (hi : i < (s.extract a b).size) : (s.extract a b)[i] = s[a + i]'(by simp at hi; omega) := by
 simp [ByteArray.getElem_extract]
def rdNum (s : ByteArray) (k : Nat) : Rd :=
 if 10 < pastN digB s k - k then .bad 3 k
 else if 1 < pastN digB s k - k ∧ (((s.data.toList.getD k 0).toNat : Nat) : Int) = 48 then .bad 3 k
 else if 1000000000 < numL (s.extract k (pastN digB s k)).data.toList then .bad 2 k
 else .tok 3 ⟨#[]⟩ (numL (s.extract k (pastN digB s k)).data.toList) (pastN digB s k)
section
variable (s : ByteArray) (k e : Nat) (w : World) (hs : s.size ≤ 3000) (hk : k < s.size) (he : pastN digB s k = e) (hke : k < e) (hes : e ≤ s.size)
include s k e w hs hk he hke hes
theorem readNum_long (h10 : 10 < e - k) :
  Calls Tryz.prog 159 #[.string s, .int .i64 (k : Int)] w (RPost k (.bad 3 k) w) := by
 exact zcat
theorem readNum_zero (hpos : 0 < (s.extract k e).size) (h10 : ¬ 10 < e - k) (h1 : 1 < e - k) (h48 : (((s.extract k e)[0].toNat : Int) == 48) = true) :
  Calls Tryz.prog 159 #[.string s, .int .i64 (k : Int)] w (RPost k (.bad 3 k) w) := by
 exact zcat
theorem readNum_big (hpos : 0 < (s.extract k e).size) (n : Int) (hn : numL (s.extract k e).data.toList = n) (h10 : ¬ 10 < e - k) (h1 : 1 < e - k) (h48 : (((s.extract k e)[0].toNat : Int) == 48) = false) (hb : 1000000000 < n) :
  Calls Tryz.prog 159 #[.string s, .int .i64 (k : Int)] w (RPost k (.bad 2 k) w) := by
 have HNN := hide hn
 clear hn
 have HE := hide he
 clear he
 go_enter Tryz.func159, Tryz.ntmps159
 go_wp2_with fail
 refine (digit_any _).mono ?_
 rintro e1 w1 ⟨x, rfl, hx, hbel⟩
 obtain ⟨hc, hf⟩ := bcell hbel
 have HBEL := hide hbel
 have HX := hide hx
 clear hx hbel
 go_wp2_with fail
 have hpast := past_any s k x digB w1 (by unfold maxLen; omega) (by omega) HX.out
 rw [HE.out] at hpast
 refine hpast.mono ?_
 clear hpast
 rintro e2 w2 ⟨rfl, rfl⟩
 go_wp2_with fail
 have hds : ∀ i, (hi : i < (s.extract k e).size) → digB ((s.extract k e)[i].toNat : Int) = true := fun i hi => by
  exact zcbm
 have hsz := extract_size s k e (by omega) hes
 refine (atoi_any (s.extract k e) w2 (by omega) (by omega) hds).mono ?_
 rw [HNN.out]
 rintro e3 w3 ⟨rfl, hbel3⟩
 have hbelA := HBEL.out.trans (hbel3.mono HBEL.out.size)
 clear hc hf HBEL
 obtain ⟨hc, hf⟩ := bcell hbelA
 have HBEL := hide hbelA
 clear hbelA hbel3 hds hsz
 exact zbbh
theorem readNum_many (hpos : 0 < (s.extract k e).size) (n : Int) (hn : numL (s.extract k e).data.toList = n) (h10 : ¬ 10 < e - k) (h1 : 1 < e - k) (h48 : (((s.extract k e)[0].toNat : Int) == 48) = false) (hb : ¬ 1000000000 < n) :
  Calls Tryz.prog 159 #[.string s, .int .i64 (k : Int)] w (RPost k (.tok 3 ⟨#[]⟩ n e) w) := by
 exact zbbd
theorem readNum_one (n : Int) (hn : numL (s.extract k e).data.toList = n) (h1 : ¬ 1 < e - k) (hb : ¬ 1000000000 < n) :
  Calls Tryz.prog 159 #[.string s, .int .i64 (k : Int)] w (RPost k (.tok 3 ⟨#[]⟩ n e) w) := by
 exact zbbd
end
theorem readNum_any (s : ByteArray) (k : Nat) (w : World) (hs : s.size ≤ 3000) (hk : k < s.size) (hd : digB (s[k].toNat : Int) = true) :
  Calls Tryz.prog 159 #[.string s, .int .i64 (k : Int)] w (RPost k (rdNum s k) w) := by
 have hke : k < pastN digB s k := by rw [← pastN_go digB s k hk hd]; have := pastN_ge digB s (k + 1); omega
 have hes := pastN_le digB s k (by omega)
 have hsz := extract_size s k (pastN digB s k) (by omega) hes
 have hpos : 0 < (s.extract k (pastN digB s k)).size := by omega
 have h0 : (s.extract k (pastN digB s k))[0] = s[k] := by rw [extract_at s k _ 0 hes hpos]; rfl
 have hat := at_eq s k hk
 by_cases h10 : 10 < pastN digB s k - k
 ·
  have hr : rdNum s k = .bad 3 k := by unfold rdNum; rw [if_pos h10]
  rw [hr]; exact readNum_long s k _ w hs hk rfl hke hes h10
 ·
  by_cases h1 : 1 < pastN digB s k - k
  ·
   by_cases h48 : ((s[k].toNat : Nat) : Int) = 48
   ·
    have hr : rdNum s k = .bad 3 k := by unfold rdNum; rw [if_neg h10, if_pos ⟨h1, by rw [hat]; exact h48⟩]
    rw [hr]; exact readNum_zero s k _ w hs hk rfl hke hes hpos h10 h1 (by rw [h0]; exact beq_iff_eq.2 h48)
   ·
    have h48' : (((s.extract k (pastN digB s k))[0].toNat : Int) == 48) = false := by rw [h0]; exact beq_eq_false_iff_ne.2 h48
    have hc : ¬ (1 < pastN digB s k - k ∧ (((s.data.toList.getD k 0).toNat : Nat) : Int) = 48) := fun h => h48 (by have := h.2; rw [hat] at this; exact this)
    by_cases hb : 1000000000 < numL (s.extract k (pastN digB s k)).data.toList
    ·
     have hr : rdNum s k = .bad 2 k := by unfold rdNum; rw [if_neg h10, if_neg hc, if_pos hb]
     rw [hr]; exact readNum_big s k _ w hs hk rfl hke hes hpos _ rfl h10 h1 h48' hb
    ·
     have hr : rdNum s k = .tok 3 ⟨#[]⟩ (numL (s.extract k (pastN digB s k)).data.toList) (pastN digB s k) := by unfold rdNum; rw [if_neg h10, if_neg hc, if_neg hb]
     rw [hr]; exact readNum_many s k _ w hs hk rfl hke hes hpos _ rfl h10 h1 h48' hb
  ·
   have hc : ¬ (1 < pastN digB s k - k ∧ (((s.data.toList.getD k 0).toNat : Nat) : Int) = 48) := fun h => h1 h.1; have hds : ∀ b ∈ (s.extract k (pastN digB s k)).data.toList, digB (b.toNat : Int) = true := by
    have := digit_take (s.extract k (pastN digB s k)) (fun i hi => by
     rw [extract_at s k _ i hes hi]; exact past_in digB s (s.size - k) k (by omega) (k + i) (by omega) (by omega) (by omega)) (pastN digB s k - k)
    rw [List.take_of_length_le (by rw [data_len]; omega)] at this
    exact this
   have hb1 := (numL_bound _ hds).2; have hl : (s.extract k (pastN digB s k)).data.toList.length = 1 := by rw [data_len]; omega
   rw [hl] at hb1; have hb : ¬ 1000000000 < numL (s.extract k (pastN digB s k)).data.toList := by omega
   have hr : rdNum s k = .tok 3 ⟨#[]⟩ (numL (s.extract k (pastN digB s k)).data.toList) (pastN digB s k) := by unfold rdNum; rw [if_neg h10, if_neg hc, if_neg hb]
   rw [hr]; exact readNum_one s k _ w hs hk rfl hke hes _ rfl h1 hb
def bt (s : ByteArray) (i : Nat) : UInt8 := s.data.toList.getD i 0
theorem bt_eq (s : ByteArray) (i : Nat) (h : i < s.size) : bt s i = s[i] := at_eq s i h
def esc (c : UInt8) : Option UInt8 := if c = 110 then some 10 else if c = 39 ∨ c = 92 then some c else none
inductive SR where
 | ok (said : List UInt8) (e : Nat)
 | bad (p : Nat)
def strR (s : ByteArray) (i : Nat) (said : List UInt8) : SR :=
 if i < s.size then
  if bt s i = 39 then .ok said (i + 1)
  else if bt s i = 10 then .bad i
  else if bt s i = 92 then
   if i + 1 < s.size then
    match esc (bt s (i + 1)) with
    | some m => strR s (i + 2) (said ++ [m])
    | none => .bad (i + 1)
   else .bad (i + 1)
  else strR s (i + 1) (said ++ [bt s i])
 else .bad s.size
termination_by s.size - i
def rdStr (s : ByteArray) (k : Nat) : Rd :=
 match strR s (k + 1) [] with
 | .ok said e => if 500 < said.length then .bad 4 k else .tok 4 (ofBytes said) 0 e
 | .bad p => .bad 3 p
section
variable (s : ByteArray) (i : Nat) (said : List UInt8)
include s i said
theorem strR_end (h : ¬ i < s.size) : strR s i said = .bad s.size := by rw [strR, if_neg h]
theorem strR_quote (h : i < s.size) (hc : bt s i = 39) : strR s i said = .ok said (i + 1) := by rw [strR, if_pos h, if_pos hc]
theorem strR_lf (h : i < s.size) (hc : bt s i = 10) : strR s i said = .bad i := by rw [strR, if_pos h, if_neg (by rw [hc]; decide), if_pos hc]
theorem strR_esc (m : UInt8) (h : i < s.size) (hc : bt s i = 92) (h1 : i + 1 < s.size) (hm : esc (bt s (i + 1)) = some m) : strR s i said = strR s (i + 2) (said ++ [m]) := by
 conv => lhs; rw [strR]
 rw [if_pos h, if_neg (by rw [hc]; decide), if_neg (by rw [hc]; decide), if_pos hc, if_pos h1, hm]
theorem strR_noesc (h : i < s.size) (hc : bt s i = 92) (hm : i + 1 < s.size → esc (bt s (i + 1)) = none) : strR s i said = .bad (i + 1) := by
 rw [strR, if_pos h, if_neg (by rw [hc]; decide), if_neg (by rw [hc]; decide), if_pos hc]
 by_cases h1 : i + 1 < s.size
 ·
  rw [if_pos h1, hm h1]
 ·
  rw [if_neg h1]
theorem strR_plain (h : i < s.size) (h1 : bt s i ≠ 39) (h2 : bt s i ≠ 10) (h3 : bt s i ≠ 92) : strR s i said = strR s (i + 1) (said ++ [bt s i]) := by
 conv => lhs; rw [strR]
 rw [if_pos h, if_neg h1, if_neg h2, if_neg h3]
end
theorem byte_eq (b c : UInt8) : (((b.toNat : Nat) : Int) == ((c.toNat : Nat) : Int)) = decide (b = c) := by
 by_cases h : b = c
 ·
  subst h; simp
 ·
  have : b.toNat ≠ c.toNat := fun e => h (UInt8.toNat_inj.1 e); simp [h]; omega
def escV (o : Option UInt8) : Value := match o with | some m => .tuple #[.int .u8 (m.toNat : Int), .bool true] | none => .tuple #[.int .u8 0, .bool false]
section
variable (s : ByteArray) (i : Nat) (w : World)
include s i w
theorem escaped_out (h : s.size ≤ i) :
  Calls Tryz.prog 237 #[.string s, .int .i64 (i : Int)] w fun e w' => e = .returned (.tuple #[.int .u8 0, .bool false]) ∧ w' = w := by
 exact zbfm
theorem escaped_in (h : i < s.size) :
  Calls Tryz.prog 237 #[.string s, .int .i64 (i : Int)] w fun e w' => e = .returned (escV (esc (bt s i))) ∧ w' = w := by
 rw [bt_eq s i h]
 obtain ⟨b, hb⟩ : ∃ b, b = s[i] := ⟨_, rfl⟩
 have b1 := byte_eq b 110
 have b2 := byte_eq b 39
 have b3 := byte_eq b 92
 rw [← hb]
 by_cases h1 : b = 110
 ·
  have e : esc b = some 10 := by simp [esc, h1]
  have c1 : (((s[i].toNat : Nat) : Int) == 110) = true := by rw [← hb, h1]; rfl
  rw [e]; clear b1 b2 b3 hb h1; exact zbfm
 ·
  have c1 : (((s[i].toNat : Nat) : Int) == 110) = false := by rw [← hb]; simpa [h1] using b1
  by_cases h2 : b = 39
  ·
   have e : esc b = some 39 := by simp [esc, h2]
   have c2 : (((s[i].toNat : Nat) : Int) == 39) = true := by rw [← hb, h2]; rfl
   have hv : ((s[i].toNat : Nat) : Int) = 39 := by rw [← hb, h2]; rfl
   exact zbeg
  ·
   have c2 : (((s[i].toNat : Nat) : Int) == 39) = false := by rw [← hb]; simpa [h2] using b2
   by_cases h3 : b = 92
   ·
    have e : esc b = some 92 := by simp [esc, h3]
    have c3 : (((s[i].toNat : Nat) : Int) == 92) = true := by rw [← hb, h3]; rfl
    have hv : ((s[i].toNat : Nat) : Int) = 92 := by rw [← hb, h3]; rfl
    exact zbeg
   ·
    have e : esc b = none := by simp [esc, h1, h2, h3]
    have c3 : (((s[i].toNat : Nat) : Int) == 92) = false := by rw [← hb]; simpa [h3] using b3
    rw [e]; clear b1 b2 b3 hb h1 h2; exact zbfm
end
def cellsOf (l : List UInt8) : List Value := l.map (fun b => Value.int .u8 (b.toNat : Int))
theorem row_shape {w : World} {base : Nat} {v : Value} {n : Nat} {xs : List Value} (h : w.ownsRow base 5 1 v n xs) : ∃ a cap, v = .slice a n cap := by
 obtain ⟨_, ⟨rfl, rfl⟩ | ⟨g, cap, cur, rfl, _⟩⟩ := h
 all_goals
  exact ⟨_, _, rfl⟩
theorem row_text {w : World} {base : Nat} {v : Value} (l : List UInt8) (h : w.ownsRow base 5 1 v l.length (cellsOf l)) : (convert 71 9 v).run Tryz.prog w = .ok (.string (ofBytes l)) w := by
 obtain ⟨hl, ⟨rfl, h0⟩ | ⟨g, cap, cur, rfl, hb, hh, hn, hm, hs, ht⟩⟩ := h
 ·
  have : l = [] := List.length_eq_zero_iff.1 h0; subst this; exact run_convert_bytes_nil w 71 5 Tryz.underlying71 Tryz.underlying5 0 0 9 Tryz.underlying9
 ·
  refine run_convert_bytes_back w 71 9 5 ⟨g, 0, none⟩ cap l Tryz.underlying71 Tryz.underlying5 Tryz.underlying9 ?_; intro j hj
  have h1 : (cellsOf l)[j]? = some (.int .u8 (l[j].toNat : Int)) := by unfold cellsOf; rw [List.getElem?_map, List.getElem?_eq_getElem hj]; rfl
  rw [← ht, List.getElem?_take_of_lt (by omega)] at h1; have h2 : cur[j]? = some (.int .u8 (l[j].toNat : Int)) := by simpa using h1
  have e : (Addr.add ⟨g, 0, none⟩ j) = ⟨g, j, none⟩ := by simp [Addr.add]; intro h; exact h.symm
  rw [e]; simp only [World.cell?, hh]; simpa using h2
theorem info5 : (Tryz.prog.info? 5).map (fun i => (i.zero, i.size, i.bytes)) = some (some (.int .u8 0), 1, 1) := by kernel_rfl
theorem cells_snoc (l : List UInt8) (b : UInt8) : cellsOf (l ++ [b]) = cellsOf l ++ [.int .u8 (b.toNat : Int)] := by simp [cellsOf]
theorem rel_app {w wr w1 : World} {v v' : Value} {said : List UInt8} {b : UInt8} (o : Obj) (hB : Below (w.heap.size + 1) (w.alloc O35) wr) (hsz : w.heap.size + 1 ≤ wr.heap.size)
  (hown : wr.ownsRow (w.heap.size + 1) 5 1 v said.length (cellsOf said))
  (hown' : w1.ownsRow (w.heap.size + 1) 5 1 v' (said.length + 1) (cellsOf said ++ [.int .u8 (b.toNat : Int)])) (hg : (wr.alloc o).grownBy w1 v.ownBlock) :
  w1.ownsRow (w.heap.size + 1) 5 1 v' (said ++ [b]).length (cellsOf (said ++ [b])) ∧ Below (w.heap.size + 1) (w.alloc O35) w1 ∧ w.heap.size + 1 ≤ w1.heap.size := by
 have hb2 : Below (w.heap.size + 1) (w.alloc O35) (wr.alloc o) := hB.alloc hsz o
 have hB1 : Below (w.heap.size + 1) (w.alloc O35) w1 := hb2.grown hg (by simp; omega) (fun k hk => by
  obtain ⟨_, ⟨rfl, _⟩ | ⟨g, cap, cur, rfl, hge, _⟩⟩ := hown
  ·
   simp [Value.ownBlock] at hk
  ·
   simp [Value.ownBlock] at hk; omega)
 refine ⟨by rw [cells_snoc, List.length_append]; exact hown', hB1, ?_⟩
 have := hB1.size; simp at this; omega
theorem readStr_any (s : ByteArray) (k : Nat) (w : World) (hs : s.size ≤ 3000) (hk : k < s.size) :
  Calls Tryz.prog 160 #[.string s, .int .i64 (k : Int)] w (RPost k (rdStr s k) w) := by
 obtain ⟨i0, hi, hz0, hz1, hz2⟩ := info_parts info5
 obtain ⟨r, hr⟩ : ∃ r, strR s (k + 1) [] = r := ⟨_, rfl⟩
 have HR := hide hr
 obtain ⟨q, hq⟩ : ∃ q, rdStr s k = q := ⟨_, rfl⟩
 have HQ := hide hq
 rw [hq]
 clear hr hq
 go_enter Tryz.func160, Tryz.ntmps160
 go_wp2
 go_loopw [7, 8, 9, 10, 11] (fun v i _ _ _ wr => ∃ (j : Nat) (said : List UInt8), j ≤ s.size ∧ said.length ≤ j ∧ i = .int .i64 j ∧ strR s j said = r ∧ wr.ownsRow (w.heap.size + 1) 5 1 v said.length (cellsOf said) ∧ Below (w.heap.size + 1) (w.alloc O35) wr ∧ w.heap.size + 1 ≤ wr.heap.size) (fun _ i _ _ _ _ => s.size - (intOf i).toNat)
 case atStart => exact ⟨k + 1, [], by omega, by simp, by go_num, HR.out, World.ownsRow_nil _ _ _ _, Below.refl _ _, by simp⟩
 case round =>
  obtain ⟨j, said, hj, hsl, rfl, he, hown, hB, hsz⟩ := hrel; have HE := hide he; have HOWN := hide hown; have HB := hide hB; clear he
  by_cases hlt : j < s.size
  ·
   have hbt := bt_eq s j hlt; obtain ⟨a, cap, rfl⟩ := row_shape hown; clear hown hB; have b1 := byte_eq s[j] 39; have b2 := byte_eq s[j] 10; have b3 := byte_eq s[j] 92
   by_cases c1 : s[j] = 39
   ·
    -- the quote
    have t1 : (((s[j].toNat : Nat) : Int) == 39) = true := by rw [c1]; rfl
    have hst : r = .ok said (j + 1) := by rw [← HE.out, strR_quote s j said hlt (by rw [hbt]; exact c1)]
    clear b1 b2 b3 c1 hbt
    by_cases h500 : 500 < said.length
    ·
     have hq2 : q = .bad 4 k := by rw [← HQ.out]; unfold rdStr; rw [HR.out, hst]; simp [h500]
     clear hst HR HE; subst hq2; exact zbar
    ·
     have hq2 : q = .tok 4 (ofBytes said) 0 (j + 1) := by rw [← HQ.out]; unfold rdStr; rw [HR.out, hst]; simp [h500]
     clear hst HR HE; subst hq2; have hcv := row_text said HOWN.out; have hbelB : Below (w.alloc O35).heap.size (w.alloc O35) wr := by simpa using unhide HB
     obtain ⟨hc, hf⟩ := bcell hbelB; have HBEL2 := hide hbelB; clear hbelB; go_wp2_with fail
     exact bodyPost_ret (v := .tuple #[.agg #[.int .i64 4, .string (ofBytes said), .int .i64 0, .int .i64 (k : Int)], .int .i64 ((j : Int) + 1), .nilIface]) (by simp [results, Tryz.results160, go_sem, hc]) rfl ⟨by simp, good_end HBEL2.out _ _ _ _⟩
   ·
    have t1 : (((s[j].toNat : Nat) : Int) == 39) = false := by rw [show (39 : Int) = (((39 : UInt8).toNat : Nat) : Int) from rfl, b1]; simp [c1]
    by_cases c2 : s[j] = 10
    ·
     -- a line feed
     have t2 : (((s[j].toNat : Nat) : Int) == 10) = true := by rw [c2]; rfl
     have hst : r = .bad j := by rw [← HE.out, strR_lf s j said hlt (by rw [hbt]; exact c2)]
     have hq2 : q = .bad 3 j := by rw [← HQ.out]; unfold rdStr; rw [HR.out, hst]
     clear b1 b2 b3 c1 c2 hbt hst HR HE; subst hq2; exact zbar
    ·
     have t2 : (((s[j].toNat : Nat) : Int) == 10) = false := by rw [show (10 : Int) = (((10 : UInt8).toNat : Nat) : Int) from rfl, b2]; simp [c2]
     by_cases c3 : s[j] = 92
     ·
      -- a backslash
      have t3 : (((s[j].toNat : Nat) : Int) == 92) = true := by rw [c3]; rfl
      by_cases hlt2 : j + 1 < s.size
      ·
       cases hm : esc (bt s (j + 1)) with
       | none =>
        have hst : r = .bad (j + 1) := by rw [← HE.out, strR_noesc s j said hlt (by rw [hbt]; exact c3) (fun _ => hm)]
        have hq2 : q = .bad 3 (j + 1) := by rw [← HQ.out]; unfold rdStr; rw [HR.out, hst]
        have HM := hide hm; clear b1 b2 b3 c1 c2 c3 hbt hst HR HE hm; subst hq2; go_wp2_with fail; have hesc := escaped_in s (j + 1) wr hlt2; rw [HM.out] at hesc; refine cm hesc ?_; clear hesc; rintro e3 w3 ⟨rfl, rfl⟩
        simp only [escV]; exact zbar
       | some m =>
        have hst : strR s (j + 2) (said ++ [m]) = r := by rw [← HE.out, strR_esc s j said m hlt (by rw [hbt]; exact c3) hlt2 hm]
        have HST := hide hst; have HM := hide hm; clear b1 b2 b3 c1 c2 c3 hbt hst HE hm; go_wp2_with fail; have hesc := escaped_in s (j + 1) wr hlt2; rw [HM.out] at hesc; refine cm hesc ?_; clear hesc
        rintro e3 w3 ⟨rfl, rfl⟩; simp only [escV]
        go_wp2_with (at_builtin; refine wpList_append_own _ rfl _ _ 71 rfl (w.heap.size + 1) 5 i0 (.int .u8 0) 1 1 Tryz.underlying71 hi hz0 hz1 hz2 rfl (by decide) _ _ _ rfl (HOWN.out.alloc _) ⟨w3.heap.size, 0, none⟩ 1 1 [.int .u8 (m.toNat : Int)] rfl rfl ?c1 ?c2 ?c3 ?c4 ?c5 ?_)
        case c1 =>
         intro j u hj
         match j, hj with
         | 0, hj => simp at hj; subst hj; simp [Addr.add]
        case c2 => intro u hu; simp at hu; subst hu; rfl
        case c3 => unfold maxLen; omega
        case c4 => omega
        case c5 => simp; omega
        intro v' w1 hown' hgrow _; have R := rel_app (b := m) _ HB.out hsz HOWN.out hown' hgrow; have HRR := hide R; clear hown' hgrow R
        go_wp2
        go_roundw
        case rel => exact ⟨j + 2, said ++ [m], by omega, by simp; omega, by go_num, HST.out, HRR.out.1, HRR.out.2.1, HRR.out.2.2⟩
        case measure => simp [intOf]; omega
      ·
       have hst : r = .bad (j + 1) := by rw [← HE.out, strR_noesc s j said hlt (by rw [hbt]; exact c3) (fun h => absurd h hlt2)]
       have hq2 : q = .bad 3 (j + 1) := by rw [← HQ.out]; unfold rdStr; rw [HR.out, hst]
       clear b1 b2 b3 c1 c2 c3 hbt hst HR HE; subst hq2; go_wp2_with fail; have hesc := escaped_out s (j + 1) wr (by omega); refine cm hesc ?_; clear hesc; rintro e3 w3 ⟨rfl, rfl⟩; exact zbar
     ·
      -- a plain byte
      have t3 : (((s[j].toNat : Nat) : Int) == 92) = false := by rw [show (92 : Int) = (((92 : UInt8).toNat : Nat) : Int) from rfl, b3]; simp [c3]
      have hst : strR s (j + 1) (said ++ [s[j]]) = r := by rw [← HE.out, strR_plain s j said hlt (by rw [hbt]; exact c1) (by rw [hbt]; exact c2) (by rw [hbt]; exact c3), hbt]
      have HST := hide hst; clear b1 b2 b3 c1 c2 c3 hbt hst HE
      go_wp2_with (at_builtin; refine wpList_append_own _ rfl _ _ 71 rfl (w.heap.size + 1) 5 i0 (.int .u8 0) 1 1 Tryz.underlying71 hi hz0 hz1 hz2 rfl (by decide) _ _ _ rfl (HOWN.out.alloc _) ⟨wr.heap.size, 0, none⟩ 1 1 [.int .u8 (s[j].toNat : Int)] rfl rfl ?c1 ?c2 ?c3 ?c4 ?c5 ?_)
      case c1 =>
       intro j u hj
       match j, hj with
       | 0, hj => simp at hj; subst hj; simp [Addr.add]
      case c2 => intro u hu; simp at hu; subst hu; rfl
      case c3 => unfold maxLen; omega
      case c4 => omega
      case c5 => simp; omega
      intro v' w1 hown' hgrow _; have R := rel_app (b := s[j]) _ HB.out hsz HOWN.out hown' hgrow; have HRR := hide R; clear hown' hgrow R
      go_wp2
      go_roundw
      case rel => exact ⟨j + 1, said ++ [s[j]], by omega, by simp; omega, by go_num, HST.out, HRR.out.1, HRR.out.2.1, HRR.out.2.2⟩
      case measure => simp [intOf]; omega
  ·
   have hst : r = .bad s.size := by rw [← HE.out, strR_end s j said hlt]
   have hq2 : q = .bad 3 s.size := by rw [← HQ.out]; unfold rdStr; rw [HR.out, hst]
   clear hst HR HE hown hB; subst hq2; exact zbar
end Go.Proofs.YtoimgcjbcbhclaaGreatDoor
