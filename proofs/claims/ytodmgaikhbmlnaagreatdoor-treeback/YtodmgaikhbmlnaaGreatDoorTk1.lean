/-
  The walk of readName: a word, a name, or a name that is too long.
-/
import Derived.Test.YtodmgaikhbmlnaaGreatDoorTk0
import Derived.Laws.IdiomStrings
import Derived.Laws.BytesArg
set_option maxRecDepth 100000
set_option maxHeartbeats 16000000
namespace Go.Proofs.YtodmgaikhbmlnaaGreatDoor
open Go.RowKit

theorem pastN_ge (p : Int → Bool) (s : ByteArray) (k : Nat) : k ≤ pastN p s k := by unfold pastN; omega

theorem good_end {w w1 : World} {o : Obj} (hbel : Below (w.alloc o).heap.size (w.alloc o) w1) (v0 v1 v2 v3 : Value) :
      Below w.heap.size w ((((w1.setCell ⟨w.heap.size, 0, none⟩ v0).setCell ⟨w.heap.size, 1, none⟩ v1).setCell ⟨w.heap.size, 2, none⟩ v2).setCell ⟨w.heap.size, 3, none⟩ v3) := by
  have hz : (w.alloc o).heap.size = w.heap.size + 1 := by simp
  have b0 : Below w.heap.size w (w.alloc o) := (Below.refl _ _).alloc (Nat.le_refl _) _
  have b1 : Below w.heap.size w w1 := b0.trans (hbel.mono (by omega))
  exact (((b1.setCell (Nat.le_refl _) _).setCell (Nat.le_refl _) _).setCell (Nat.le_refl _) _).setCell (Nat.le_refl _) _

/-- The word or name at a place. -/
def rdName (ws : List ByteArray) (s : ByteArray) (k : Nat) : Rd :=
  if isIn ws (s.extract k (pastN lodB s k)) = true then .tok 2 (s.extract k (pastN lodB s k)) 0 (pastN lodB s k)
  else if 20 < pastN lodB s k - k then .bad 4 k
  else .tok 1 (s.extract k (pastN lodB s k)) 0 (pastN lodB s k)

abbrev O35 : Obj := .cells #[.int .i64 0, .string ⟨#[]⟩, .int .i64 0, .int .i64 0] 123

theorem readName_word (ws : List ByteArray) (s : ByteArray) (k e : Nat) (w : World) (hs : s.size ≤ 3000) (hk : k < s.size) (he : pastN lodB s k = e) (hke : k ≤ e) (hes : e ≤ s.size) (hw : isIn ws (s.extract k e) = true) (hn : ws.length = 19) (t : TypeId) (fr : Nat × Nat)
    (hg : w.heap[2]? = some (.cells (ws.map Value.string).toArray t fr)) :
    Calls Tryz.prog 152 #[.string s, .int .i64 (k : Int)] w (RPost k (.tok 2 (s.extract k e) 0 e) w) := by
  have hlt : 2 < w.heap.size := (Array.getElem?_eq_some_iff.1 hg).1
  have HE := hide he
  have HG := hide hg
  have HN := hide hn
  have HW := hide hw
  clear hg hn he hw
  go_enter Tryz.func152, Tryz.ntmps152
  go_wp2_with fail
  refine (lod_any _).mono ?_
  rintro e1 w1 ⟨x, rfl, hx, hbel⟩
  obtain ⟨hc, hf⟩ := bcell hbel
  have HBEL := hide hbel
  have HX := hide hx
  clear hx hbel
  go_wp2_with fail
  have hpast := past_any s k x lodB w1 (by unfold maxLen; omega) (by omega) (unhide HX)
  rw [unhide HE] at hpast
  refine hpast.mono ?_
  clear hpast
  rintro e2 w2 ⟨rfl, rfl⟩
  have HG2 : Hid (w2.heap[2]? = some (.cells (ws.map Value.string).toArray t fr)) := by
    show _ = _
    rw [(unhide HBEL).block 2 (by simp; omega), Below.heap_alloc w _ 2 hlt]; exact unhide HG
  go_wp2_with fail
  refine (isWord_any ws (s.extract k e) w2 (unhide HN) t fr (unhide HG2)).mono ?_
  rw [unhide HW]
  rintro e3 w3 ⟨rfl, rfl⟩
  go_wp2_with fail
  exact bodyPost_ret (v := .tuple #[.agg #[.int .i64 2, .string (s.extract k e), .int .i64 0, .int .i64 (k : Int)], .int .i64 (e : Int), .nilIface]) (by simp [results, Tryz.results152, go_sem, hc]) rfl ⟨rfl, good_end (unhide HBEL) _ _ _ _⟩

theorem readName_name (ws : List ByteArray) (s : ByteArray) (k e : Nat) (w : World) (hs : s.size ≤ 3000) (hk : k < s.size) (he : pastN lodB s k = e) (hke : k ≤ e) (hes : e ≤ s.size) (hw : isIn ws (s.extract k e) = false) (h20 : ¬ 20 < e - k) (hn : ws.length = 19) (t : TypeId) (fr : Nat × Nat)
    (hg : w.heap[2]? = some (.cells (ws.map Value.string).toArray t fr)) :
    Calls Tryz.prog 152 #[.string s, .int .i64 (k : Int)] w (RPost k (.tok 1 (s.extract k e) 0 e) w) := by
  have hlt : 2 < w.heap.size := (Array.getElem?_eq_some_iff.1 hg).1
  have HE := hide he
  have HG := hide hg
  have HN := hide hn
  have HW := hide hw
  clear hg hn he hw
  go_enter Tryz.func152, Tryz.ntmps152
  go_wp2_with fail
  refine (lod_any _).mono ?_
  rintro e1 w1 ⟨x, rfl, hx, hbel⟩
  obtain ⟨hc, hf⟩ := bcell hbel
  have HBEL := hide hbel
  have HX := hide hx
  clear hx hbel
  go_wp2_with fail
  have hpast := past_any s k x lodB w1 (by unfold maxLen; omega) (by omega) (unhide HX)
  rw [unhide HE] at hpast
  refine hpast.mono ?_
  clear hpast
  rintro e2 w2 ⟨rfl, rfl⟩
  have HG2 : Hid (w2.heap[2]? = some (.cells (ws.map Value.string).toArray t fr)) := by
    show _ = _
    rw [(unhide HBEL).block 2 (by simp; omega), Below.heap_alloc w _ 2 hlt]; exact unhide HG
  go_wp2_with fail
  refine (isWord_any ws (s.extract k e) w2 (unhide HN) t fr (unhide HG2)).mono ?_
  rw [unhide HW]
  rintro e3 w3 ⟨rfl, rfl⟩
  go_wp2_with fail
  exact bodyPost_ret (v := .tuple #[.agg #[.int .i64 1, .string (s.extract k e), .int .i64 0, .int .i64 (k : Int)], .int .i64 (e : Int), .nilIface]) (by simp [results, Tryz.results152, go_sem, hc]) rfl ⟨rfl, good_end (unhide HBEL) _ _ _ _⟩

theorem readName_long (ws : List ByteArray) (s : ByteArray) (k e : Nat) (w : World) (hs : s.size ≤ 3000) (hk : k < s.size) (he : pastN lodB s k = e) (hke : k ≤ e) (hes : e ≤ s.size) (hw : isIn ws (s.extract k e) = false) (h20 : 20 < e - k) (hn : ws.length = 19) (t : TypeId) (fr : Nat × Nat)
    (hg : w.heap[2]? = some (.cells (ws.map Value.string).toArray t fr)) :
    Calls Tryz.prog 152 #[.string s, .int .i64 (k : Int)] w (RPost k (.bad 4 k) w) := by
  have hlt : 2 < w.heap.size := (Array.getElem?_eq_some_iff.1 hg).1
  have HE := hide he
  have HG := hide hg
  have HN := hide hn
  have HW := hide hw
  clear hg hn he hw
  go_enter Tryz.func152, Tryz.ntmps152
  go_wp2_with fail
  refine (lod_any _).mono ?_
  rintro e1 w1 ⟨x, rfl, hx, hbel⟩
  obtain ⟨hc, hf⟩ := bcell hbel
  have HBEL := hide hbel
  have HX := hide hx
  clear hx hbel
  go_wp2_with fail
  have hpast := past_any s k x lodB w1 (by unfold maxLen; omega) (by omega) (unhide HX)
  rw [unhide HE] at hpast
  refine hpast.mono ?_
  clear hpast
  rintro e2 w2 ⟨rfl, rfl⟩
  have HG2 : Hid (w2.heap[2]? = some (.cells (ws.map Value.string).toArray t fr)) := by
    show _ = _
    rw [(unhide HBEL).block 2 (by simp; omega), Below.heap_alloc w _ 2 hlt]; exact unhide HG
  go_wp2_with fail
  refine (isWord_any ws (s.extract k e) w2 (unhide HN) t fr (unhide HG2)).mono ?_
  rw [unhide HW]
  rintro e3 w3 ⟨rfl, rfl⟩
  go_wp2_with fail
  refine (fail_any _ _ _).mono ?_
  rintro e4 w4 ⟨b, rfl, hb, hlb, hbel2⟩
  have hbel := (unhide HBEL).trans (hbel2.mono (unhide HBEL).size)
  have hlb2 := Nat.le_trans (unhide HBEL).size hlb
  clear hc hf
  obtain ⟨hc, hf⟩ := bcell hbel
  have HB := hide hb
  have HBEL2 := hide hbel
  clear hb hbel hbel2 hlb
  go_wp2_with fail
  exact bodyPost_ret (v := .tuple #[noTok, .int .i64 0, .iface 129 (.pointer (some ⟨b, 0, none⟩))]) (by simp [results, Tryz.results152, go_sem, hc]) rfl ⟨b, rfl, bad_end (unhide HBEL2) hlb2 (unhide HB) _ _ _ _⟩

theorem readName_any (ws : List ByteArray) (s : ByteArray) (k : Nat) (w : World) (hs : s.size ≤ 3000) (hk : k < s.size) (hn : ws.length = 19) (t : TypeId) (fr : Nat × Nat)
    (hg : w.heap[2]? = some (.cells (ws.map Value.string).toArray t fr)) :
    Calls Tryz.prog 152 #[.string s, .int .i64 (k : Int)] w (RPost k (rdName ws s k) w) := by
  have hke := pastN_ge lodB s k
  have hes := pastN_le lodB s k (by omega)
  cases hw : isIn ws (s.extract k (pastN lodB s k))
  · by_cases h20 : 20 < pastN lodB s k - k
    · have hr : rdName ws s k = .bad 4 k := by unfold rdName; rw [hw]; simp [h20]
      rw [hr]; exact readName_long ws s k _ w hs hk rfl hke hes hw h20 hn t fr hg
    · have hr : rdName ws s k = .tok 1 (s.extract k (pastN lodB s k)) 0 (pastN lodB s k) := by unfold rdName; rw [hw]; simp [h20]
      rw [hr]; exact readName_name ws s k _ w hs hk rfl hke hes hw h20 hn t fr hg
  · have hr : rdName ws s k = .tok 2 (s.extract k (pastN lodB s k)) 0 (pastN lodB s k) := by unfold rdName; rw [hw]; simp
    rw [hr]; exact readName_word ws s k _ w hs hk rfl hke hes hw hn t fr hg


/-- The number that digits write. -/
def numL (l : List UInt8) : Int := l.foldl (fun n b => n * 10 + ((b.toNat : Int) - 48)) 0

theorem numL_snoc (l : List UInt8) (b : UInt8) : numL (l ++ [b]) = numL l * 10 + ((b.toNat : Int) - 48) := by simp [numL, List.foldl_append]

theorem num_from (l : List UInt8) : ∀ (n : Int), 0 ≤ n → (∀ b ∈ l, digB (b.toNat : Int) = true) →
    0 ≤ l.foldl (fun n b => n * 10 + ((b.toNat : Int) - 48)) n ∧ l.foldl (fun n b => n * 10 + ((b.toNat : Int) - 48)) n < (n + 1) * 10 ^ l.length := by
  induction l with
  | nil => intro n h0 _; simp; omega
  | cons b l ih =>
    intro n h0 h
    have hb := h b (by simp)
    simp [digB, btwB] at hb
    have h1 := ih (n * 10 + ((b.toNat : Int) - 48)) (by omega) (fun c hc => h c (by simp [hc]))
    refine ⟨h1.1, Int.lt_of_lt_of_le h1.2 ?_⟩
    rw [List.length_cons, Int.pow_succ, Int.mul_comm ((10 : Int) ^ l.length) 10, ← Int.mul_assoc]
    exact Int.mul_le_mul_of_nonneg_right (by omega) (Int.pow_nonneg (by omega))

theorem numL_bound (l : List UInt8) (h : ∀ b ∈ l, digB (b.toNat : Int) = true) : 0 ≤ numL l ∧ numL l < 10 ^ l.length := by
  have h1 := num_from l 0 (Int.le_refl _) h
  refine ⟨h1.1, ?_⟩
  have h2 := h1.2
  rw [Int.zero_add, Int.one_mul] at h2
  exact h2

theorem digit_take (x : ByteArray) (hd : ∀ i, (hi : i < x.size) → digB (x[i].toNat : Int) = true) (k : Nat) : ∀ b ∈ x.data.toList.take k, digB (b.toNat : Int) = true := by
  intro b hb
  obtain ⟨i, hi, rfl⟩ := List.getElem_of_mem hb
  have hi' : i < x.data.toList.length := by simp at hi; simp; omega
  have hs : i < x.size := by
    have h4 : x.data.toList.length = x.size := by simp
    omega
  rw [List.getElem_take]
  exact hd i hs

theorem take_snoc (s : ByteArray) (k : Nat) (h : k < s.size) : s.data.toList.take (k + 1) = s.data.toList.take k ++ [s[k]] := by
  rw [List.take_succ_eq_append_getElem (by simpa using h)]; rfl

theorem conv_bytes (x : ByteArray) (w : World) : ∃ cap W1, (convert 9 82 (.string x)).run Tryz.prog w = .ok (.slice (some ⟨w.heap.size, 0, none⟩) x.size cap) W1 ∧ Below w.heap.size w W1 ∧
    ∀ i, (hi : i < x.size) → W1.cell? ⟨w.heap.size, i, none⟩ = some (.int .u8 (x[i].toNat : Int)) := by
  refine ⟨_, _, run_bytes_of_string w 9 82 5 x Tryz.underlying9 Tryz.underlying82 Tryz.underlying5, ((Below.refl _ _).drew.alloc (Nat.le_refl _) _), ?_⟩
  intro i hi
  have hh := heap_alloc_new w.drew (.cells (bytesRow x (grownCap w x.size 0 5)) 5 ((bytesRow x (grownCap w x.size 0 5)).size, (bytesRow x (grownCap w x.size 0 5)).size + 1))
  have hh2 : (w.drew.alloc (.cells (bytesRow x (grownCap w x.size 0 5)) 5 ((bytesRow x (grownCap w x.size 0 5)).size, (bytesRow x (grownCap w x.size 0 5)).size + 1))).heap[w.heap.size]? = some (.cells (bytesRow x (grownCap w x.size 0 5)) 5 ((bytesRow x (grownCap w x.size 0 5)).size, (bytesRow x (grownCap w x.size 0 5)).size + 1)) := hh
  have hi2 : i < x.data.size := hi
  simp only [World.cell?, hh2]
  have h3 : (bytesRow x (grownCap w x.size 0 5))[i]? = some (.int .u8 (x[i].toNat : Int)) := by
    unfold bytesRow
    rw [Array.getElem?_append_left (by simpa using hi2), Array.getElem?_map, Array.getElem?_eq_getElem hi2]
    rfl
  simpa using h3

theorem pow10_le {n : Nat} (h : n ≤ 10) : (10 : Int) ^ n ≤ 10000000000 := by
  have : ∀ m : Fin 11, (10 : Int) ^ m.val ≤ 10000000000 := by decide
  exact this ⟨n, by omega⟩

theorem iatoi_any (x : ByteArray) (w : World) (h1 : 1 ≤ x.size) (h2 : x.size ≤ 10) (hd : ∀ i, (hi : i < x.size) → digB (x[i].toNat : Int) = true) :
    Calls Tryz.prog 144 #[.string x] w fun e w' => e = .returned (.tuple #[.int .i64 (numL x.data.toList), .nilIface]) ∧ Below w.heap.size w w' := by
  obtain ⟨cap, W1, hcv, hbel, hcell⟩ := conv_bytes x w
  have h0 := hd 0 h1
  simp [digB, btwB] at h0
  obtain ⟨h0a, h0b⟩ := h0
  have e45 : (((x[0].toNat : Nat) : Int) == 45) = false := beq_eq_false_iff_ne.2 (by omega)
  have e43 : (((x[0].toNat : Nat) : Int) == 43) = false := beq_eq_false_iff_ne.2 (by omega)
  have HBEL := hide hbel
  have HCELL := hide hcell
  have HD := hide hd
  clear hbel hcell hd
  go_enter Tryz.func144, Tryz.ntmps144
  go_wp2
  go_loop [6, 8, 49] (fun n _ i => ∃ k : Nat, k ≤ x.size ∧ i = .int .i64 k ∧ n = .int .i64 (numL (x.data.toList.take k))) (fun _ _ i => x.size - (intOf i).toNat)
  case atStart => exact ⟨0, Nat.zero_le _, rfl, rfl⟩
  case round =>
    obtain ⟨k, hk, rfl, rfl⟩ := hrel
    by_cases hlt : k < x.size
    · have hck := unhide HCELL k hlt
      have hdk := unhide HD k hlt
      simp [digB, btwB] at hdk
      obtain ⟨ha, hb⟩ := hdk
      have hnb := numL_bound _ (digit_take x (unhide HD) k)
      have hl : (x.data.toList.take k).length ≤ 10 := by simp; omega
      have hp := pow10_le hl
      obtain ⟨hn0, hn1⟩ := hnb
      have hn2 : numL (x.data.toList.take k) < 10000000000 := by omega
      have HS := hide (numL_snoc (x.data.toList.take k) x[k])
      have HT := hide (take_snoc x k hlt)
      obtain ⟨N, hN⟩ : ∃ N, N = numL (x.data.toList.take k) := ⟨_, rfl⟩
      rw [← hN] at hn0 hn2 ⊢
      have HN := hide hN
      clear hN hn1 hp hl
      go_wp2
      exact ⟨⟨k + 1, by omega, by go_num, by rw [unhide HT, unhide HS, ← unhide HN]⟩, by simp [intOf]; omega⟩
    · have HT : Hid (x.data.toList.take k = x.data.toList) := List.take_of_length_le (by simp; omega)
      go_wp2
      go_ret2
      refine ⟨?_, unhide HBEL⟩
      rw [unhide HT]
      rfl


theorem atoi_any (x : ByteArray) (w : World) (h1 : 1 ≤ x.size) (h2 : x.size ≤ 10) (hd : ∀ i, (hi : i < x.size) → digB (x[i].toNat : Int) = true) :
    Calls Tryz.prog 96 #[.string x] w fun e w' => e = .returned (.tuple #[.int .i64 (numL x.data.toList), .nilIface]) ∧ Below w.heap.size w w' := by
  have HD := hide hd
  clear hd
  go_enter Tryz.func96, Tryz.ntmps96
  go_wp2_with fail
  refine (iatoi_any x w h1 h2 (unhide HD)).mono ?_
  rintro e w1 ⟨rfl, hb⟩
  have HB := hide hb
  clear hb
  go_wp2_with fail
  go_ret2
  exact ⟨rfl, unhide HB⟩

theorem data_len (x : ByteArray) : x.data.toList.length = x.size := by simp

theorem past_in (p : Int → Bool) (s : ByteArray) : ∀ n k, n + k = s.size → ∀ i, k ≤ i → i < pastN p s k → (hi : i < s.size) → p (s[i].toNat : Int) = true
  | 0, k, e, i, h1, h2, hi => by omega
  | n + 1, k, e, i, h1, h2, hi => by
    cases hk : p ((s[k]'(by omega)).toNat : Int)
    · rw [pastN_stop p s k (by omega) hk] at h2; omega
    · by_cases hik : i = k
      · subst hik; exact hk
      · rw [← pastN_go p s k (by omega) hk] at h2
        exact past_in p s n (k + 1) (by omega) i (by omega) h2 hi

theorem extract_at (s : ByteArray) (a b i : Nat) (h1 : b ≤ s.size) (hi : i < (s.extract a b).size) : (s.extract a b)[i] = s[a + i]'(by simp at hi; omega) := by
  simp [ByteArray.getElem_extract]

/-- The number at a place. -/
def rdNum (s : ByteArray) (k : Nat) : Rd :=
  if 10 < pastN digB s k - k then .bad 3 k
  else if 1 < pastN digB s k - k ∧ (((s.data.toList.getD k 0).toNat : Nat) : Int) = 48 then .bad 3 k
  else if 1000000000 < numL (s.extract k (pastN digB s k)).data.toList then .bad 2 k
  else .tok 3 ⟨#[]⟩ (numL (s.extract k (pastN digB s k)).data.toList) (pastN digB s k)

theorem readNum_long (s : ByteArray) (k e : Nat) (w : World) (hs : s.size ≤ 3000) (hk : k < s.size) (he : pastN digB s k = e) (hke : k < e) (hes : e ≤ s.size) (h10 : 10 < e - k) :
    Calls Tryz.prog 153 #[.string s, .int .i64 (k : Int)] w (RPost k (.bad 3 k) w) := by
  have HE := hide he
  clear he
  go_enter Tryz.func153, Tryz.ntmps153
  go_wp2_with fail
  refine (digit_any _).mono ?_
  rintro e1 w1 ⟨x, rfl, hx, hbel⟩
  obtain ⟨hc, hf⟩ := bcell hbel
  have HBEL := hide hbel
  have HX := hide hx
  clear hx hbel
  go_wp2_with fail
  have hpast := past_any s k x digB w1 (by unfold maxLen; omega) (by omega) (unhide HX)
  rw [unhide HE] at hpast
  refine hpast.mono ?_
  clear hpast
  rintro e2 w2 ⟨rfl, rfl⟩
  go_wp2_with fail
  refine (fail_any _ _ _).mono ?_
  rintro e4 w4 ⟨b, rfl, hb, hlb, hbel2⟩
  have hbel := (unhide HBEL).trans (hbel2.mono (unhide HBEL).size)
  have hlb2 := Nat.le_trans (unhide HBEL).size hlb
  clear hc hf
  obtain ⟨hc, hf⟩ := bcell hbel
  have HB := hide hb
  have HBEL2 := hide hbel
  clear hb hbel hbel2 hlb
  go_wp2_with fail
  exact bodyPost_ret (v := .tuple #[noTok, .int .i64 0, .iface 129 (.pointer (some ⟨b, 0, none⟩))]) (by simp [results, Tryz.results153, go_sem, hc]) rfl ⟨b, rfl, bad_end (unhide HBEL2) hlb2 (unhide HB) _ _ _ _⟩

theorem readNum_zero (s : ByteArray) (k e : Nat) (w : World) (hs : s.size ≤ 3000) (hk : k < s.size) (he : pastN digB s k = e) (hke : k < e) (hes : e ≤ s.size) (hpos : 0 < (s.extract k e).size) (h10 : ¬ 10 < e - k) (h1 : 1 < e - k) (h48 : (((s.extract k e)[0].toNat : Int) == 48) = true) :
    Calls Tryz.prog 153 #[.string s, .int .i64 (k : Int)] w (RPost k (.bad 3 k) w) := by
  have HE := hide he
  clear he
  go_enter Tryz.func153, Tryz.ntmps153
  go_wp2_with fail
  refine (digit_any _).mono ?_
  rintro e1 w1 ⟨x, rfl, hx, hbel⟩
  obtain ⟨hc, hf⟩ := bcell hbel
  have HBEL := hide hbel
  have HX := hide hx
  clear hx hbel
  go_wp2_with fail
  have hpast := past_any s k x digB w1 (by unfold maxLen; omega) (by omega) (unhide HX)
  rw [unhide HE] at hpast
  refine hpast.mono ?_
  clear hpast
  rintro e2 w2 ⟨rfl, rfl⟩
  go_wp2_with fail
  refine (fail_any _ _ _).mono ?_
  rintro e4 w4 ⟨b, rfl, hb, hlb, hbel2⟩
  have hbel := (unhide HBEL).trans (hbel2.mono (unhide HBEL).size)
  have hlb2 := Nat.le_trans (unhide HBEL).size hlb
  clear hc hf
  obtain ⟨hc, hf⟩ := bcell hbel
  have HB := hide hb
  have HBEL2 := hide hbel
  clear hb hbel hbel2 hlb
  go_wp2_with fail
  exact bodyPost_ret (v := .tuple #[noTok, .int .i64 0, .iface 129 (.pointer (some ⟨b, 0, none⟩))]) (by simp [results, Tryz.results153, go_sem, hc]) rfl ⟨b, rfl, bad_end (unhide HBEL2) hlb2 (unhide HB) _ _ _ _⟩

theorem readNum_big (s : ByteArray) (k e : Nat) (w : World) (hs : s.size ≤ 3000) (hk : k < s.size) (he : pastN digB s k = e) (hke : k < e) (hes : e ≤ s.size) (hpos : 0 < (s.extract k e).size) (n : Int) (hn : numL (s.extract k e).data.toList = n) (h10 : ¬ 10 < e - k) (h1 : 1 < e - k) (h48 : (((s.extract k e)[0].toNat : Int) == 48) = false) (hb : 1000000000 < n) :
    Calls Tryz.prog 153 #[.string s, .int .i64 (k : Int)] w (RPost k (.bad 2 k) w) := by
  have HNN := hide hn
  clear hn
  have HE := hide he
  clear he
  go_enter Tryz.func153, Tryz.ntmps153
  go_wp2_with fail
  refine (digit_any _).mono ?_
  rintro e1 w1 ⟨x, rfl, hx, hbel⟩
  obtain ⟨hc, hf⟩ := bcell hbel
  have HBEL := hide hbel
  have HX := hide hx
  clear hx hbel
  go_wp2_with fail
  have hpast := past_any s k x digB w1 (by unfold maxLen; omega) (by omega) (unhide HX)
  rw [unhide HE] at hpast
  refine hpast.mono ?_
  clear hpast
  rintro e2 w2 ⟨rfl, rfl⟩
  go_wp2_with fail
  have hds : ∀ i, (hi : i < (s.extract k e).size) → digB ((s.extract k e)[i].toNat : Int) = true := fun i hi => by
    rw [extract_at s k e i hes hi]
    have hi2 : i < e - k := by rw [extract_size s k e (by omega) hes] at hi; exact hi
    exact past_in digB s (s.size - k) k (by omega) (k + i) (by omega) (by rw [unhide HE]; omega) (by omega)
  have hsz := extract_size s k e (by omega) hes
  refine (atoi_any (s.extract k e) w2 (by omega) (by omega) hds).mono ?_
  rw [unhide HNN]
  rintro e3 w3 ⟨rfl, hbel3⟩
  have hbelA := (unhide HBEL).trans (hbel3.mono (unhide HBEL).size)
  clear hc hf HBEL
  obtain ⟨hc, hf⟩ := bcell hbelA
  have HBEL := hide hbelA
  clear hbelA hbel3 hds hsz
  go_wp2_with fail
  refine (fail_any _ _ _).mono ?_
  rintro e4 w4 ⟨b, rfl, hb, hlb, hbel2⟩
  have hbel := (unhide HBEL).trans (hbel2.mono (unhide HBEL).size)
  have hlb2 := Nat.le_trans (unhide HBEL).size hlb
  clear hc hf
  obtain ⟨hc, hf⟩ := bcell hbel
  have HB := hide hb
  have HBEL2 := hide hbel
  clear hb hbel hbel2 hlb
  go_wp2_with fail
  exact bodyPost_ret (v := .tuple #[noTok, .int .i64 0, .iface 129 (.pointer (some ⟨b, 0, none⟩))]) (by simp [results, Tryz.results153, go_sem, hc]) rfl ⟨b, rfl, bad_end (unhide HBEL2) hlb2 (unhide HB) _ _ _ _⟩

theorem readNum_many (s : ByteArray) (k e : Nat) (w : World) (hs : s.size ≤ 3000) (hk : k < s.size) (he : pastN digB s k = e) (hke : k < e) (hes : e ≤ s.size) (hpos : 0 < (s.extract k e).size) (n : Int) (hn : numL (s.extract k e).data.toList = n) (h10 : ¬ 10 < e - k) (h1 : 1 < e - k) (h48 : (((s.extract k e)[0].toNat : Int) == 48) = false) (hb : ¬ 1000000000 < n) :
    Calls Tryz.prog 153 #[.string s, .int .i64 (k : Int)] w (RPost k (.tok 3 ⟨#[]⟩ n e) w) := by
  have HNN := hide hn
  clear hn
  have HE := hide he
  clear he
  go_enter Tryz.func153, Tryz.ntmps153
  go_wp2_with fail
  refine (digit_any _).mono ?_
  rintro e1 w1 ⟨x, rfl, hx, hbel⟩
  obtain ⟨hc, hf⟩ := bcell hbel
  have HBEL := hide hbel
  have HX := hide hx
  clear hx hbel
  go_wp2_with fail
  have hpast := past_any s k x digB w1 (by unfold maxLen; omega) (by omega) (unhide HX)
  rw [unhide HE] at hpast
  refine hpast.mono ?_
  clear hpast
  rintro e2 w2 ⟨rfl, rfl⟩
  go_wp2_with fail
  have hds : ∀ i, (hi : i < (s.extract k e).size) → digB ((s.extract k e)[i].toNat : Int) = true := fun i hi => by
    rw [extract_at s k e i hes hi]
    have hi2 : i < e - k := by rw [extract_size s k e (by omega) hes] at hi; exact hi
    exact past_in digB s (s.size - k) k (by omega) (k + i) (by omega) (by rw [unhide HE]; omega) (by omega)
  have hsz := extract_size s k e (by omega) hes
  refine (atoi_any (s.extract k e) w2 (by omega) (by omega) hds).mono ?_
  rw [unhide HNN]
  rintro e3 w3 ⟨rfl, hbel3⟩
  have hbelA := (unhide HBEL).trans (hbel3.mono (unhide HBEL).size)
  clear hc hf HBEL
  obtain ⟨hc, hf⟩ := bcell hbelA
  have HBEL := hide hbelA
  clear hbelA hbel3 hds hsz
  go_wp2_with fail
  exact bodyPost_ret (v := .tuple #[.agg #[.int .i64 3, .string ⟨#[]⟩, .int .i64 n, .int .i64 (k : Int)], .int .i64 (e : Int), .nilIface]) (by simp [results, Tryz.results153, go_sem, hc]) rfl ⟨rfl, good_end (unhide HBEL) _ _ _ _⟩

theorem readNum_one (s : ByteArray) (k e : Nat) (w : World) (hs : s.size ≤ 3000) (hk : k < s.size) (he : pastN digB s k = e) (hke : k < e) (hes : e ≤ s.size) (n : Int) (hn : numL (s.extract k e).data.toList = n) (h1 : ¬ 1 < e - k) (hb : ¬ 1000000000 < n) :
    Calls Tryz.prog 153 #[.string s, .int .i64 (k : Int)] w (RPost k (.tok 3 ⟨#[]⟩ n e) w) := by
  have HNN := hide hn
  clear hn
  have HE := hide he
  clear he
  go_enter Tryz.func153, Tryz.ntmps153
  go_wp2_with fail
  refine (digit_any _).mono ?_
  rintro e1 w1 ⟨x, rfl, hx, hbel⟩
  obtain ⟨hc, hf⟩ := bcell hbel
  have HBEL := hide hbel
  have HX := hide hx
  clear hx hbel
  go_wp2_with fail
  have hpast := past_any s k x digB w1 (by unfold maxLen; omega) (by omega) (unhide HX)
  rw [unhide HE] at hpast
  refine hpast.mono ?_
  clear hpast
  rintro e2 w2 ⟨rfl, rfl⟩
  go_wp2_with fail
  have hds : ∀ i, (hi : i < (s.extract k e).size) → digB ((s.extract k e)[i].toNat : Int) = true := fun i hi => by
    rw [extract_at s k e i hes hi]
    have hi2 : i < e - k := by rw [extract_size s k e (by omega) hes] at hi; exact hi
    exact past_in digB s (s.size - k) k (by omega) (k + i) (by omega) (by rw [unhide HE]; omega) (by omega)
  have hsz := extract_size s k e (by omega) hes
  refine (atoi_any (s.extract k e) w2 (by omega) (by omega) hds).mono ?_
  rw [unhide HNN]
  rintro e3 w3 ⟨rfl, hbel3⟩
  have hbelA := (unhide HBEL).trans (hbel3.mono (unhide HBEL).size)
  clear hc hf HBEL
  obtain ⟨hc, hf⟩ := bcell hbelA
  have HBEL := hide hbelA
  clear hbelA hbel3 hds hsz
  go_wp2_with fail
  exact bodyPost_ret (v := .tuple #[.agg #[.int .i64 3, .string ⟨#[]⟩, .int .i64 n, .int .i64 (k : Int)], .int .i64 (e : Int), .nilIface]) (by simp [results, Tryz.results153, go_sem, hc]) rfl ⟨rfl, good_end (unhide HBEL) _ _ _ _⟩

theorem readNum_any (s : ByteArray) (k : Nat) (w : World) (hs : s.size ≤ 3000) (hk : k < s.size) (hd : digB (s[k].toNat : Int) = true) :
    Calls Tryz.prog 153 #[.string s, .int .i64 (k : Int)] w (RPost k (rdNum s k) w) := by
  have hke : k < pastN digB s k := by rw [← pastN_go digB s k hk hd]; have := pastN_ge digB s (k + 1); omega
  have hes := pastN_le digB s k (by omega)
  have hsz := extract_size s k (pastN digB s k) (by omega) hes
  have hpos : 0 < (s.extract k (pastN digB s k)).size := by omega
  have h0 : (s.extract k (pastN digB s k))[0] = s[k] := by rw [extract_at s k _ 0 hes hpos]; rfl
  have hat := at_eq s k hk
  by_cases h10 : 10 < pastN digB s k - k
  · have hr : rdNum s k = .bad 3 k := by unfold rdNum; rw [if_pos h10]
    rw [hr]; exact readNum_long s k _ w hs hk rfl hke hes h10
  · by_cases h1 : 1 < pastN digB s k - k
    · by_cases h48 : ((s[k].toNat : Nat) : Int) = 48
      · have hr : rdNum s k = .bad 3 k := by unfold rdNum; rw [if_neg h10, if_pos ⟨h1, by rw [hat]; exact h48⟩]
        rw [hr]; exact readNum_zero s k _ w hs hk rfl hke hes hpos h10 h1 (by rw [h0]; exact beq_iff_eq.2 h48)
      · have h48' : (((s.extract k (pastN digB s k))[0].toNat : Int) == 48) = false := by rw [h0]; exact beq_eq_false_iff_ne.2 h48
        have hc : ¬ (1 < pastN digB s k - k ∧ (((s.data.toList.getD k 0).toNat : Nat) : Int) = 48) := fun h => h48 (by have := h.2; rw [hat] at this; exact this)
        by_cases hb : 1000000000 < numL (s.extract k (pastN digB s k)).data.toList
        · have hr : rdNum s k = .bad 2 k := by unfold rdNum; rw [if_neg h10, if_neg hc, if_pos hb]
          rw [hr]; exact readNum_big s k _ w hs hk rfl hke hes hpos _ rfl h10 h1 h48' hb
        · have hr : rdNum s k = .tok 3 ⟨#[]⟩ (numL (s.extract k (pastN digB s k)).data.toList) (pastN digB s k) := by unfold rdNum; rw [if_neg h10, if_neg hc, if_neg hb]
          rw [hr]; exact readNum_many s k _ w hs hk rfl hke hes hpos _ rfl h10 h1 h48' hb
    · have hc : ¬ (1 < pastN digB s k - k ∧ (((s.data.toList.getD k 0).toNat : Nat) : Int) = 48) := fun h => h1 h.1
      have hds : ∀ b ∈ (s.extract k (pastN digB s k)).data.toList, digB (b.toNat : Int) = true := by
        have := digit_take (s.extract k (pastN digB s k)) (fun i hi => by
          rw [extract_at s k _ i hes hi]
          exact past_in digB s (s.size - k) k (by omega) (k + i) (by omega) (by omega) (by omega)) (pastN digB s k - k)
        rw [List.take_of_length_le (by rw [data_len]; omega)] at this
        exact this
      have hb1 := (numL_bound _ hds).2
      have hl : (s.extract k (pastN digB s k)).data.toList.length = 1 := by rw [data_len]; omega
      rw [hl] at hb1
      have hb : ¬ 1000000000 < numL (s.extract k (pastN digB s k)).data.toList := by omega
      have hr : rdNum s k = .tok 3 ⟨#[]⟩ (numL (s.extract k (pastN digB s k)).data.toList) (pastN digB s k) := by unfold rdNum; rw [if_neg h10, if_neg hc, if_neg hb]
      rw [hr]; exact readNum_one s k _ w hs hk rfl hke hes _ rfl h1 hb


def bt (s : ByteArray) (i : Nat) : UInt8 := s.data.toList.getD i 0
theorem bt_eq (s : ByteArray) (i : Nat) (h : i < s.size) : bt s i = s[i] := at_eq s i h

/-- What stands for what behind a backslash. -/
def esc (c : UInt8) : Option UInt8 := if c = 110 then some 10 else if c = 39 ∨ c = 92 then some c else none

inductive SR where
  | ok (said : List UInt8) (e : Nat)
  | bad (p : Nat)

/-- A string's rest from a place on, what it has said so far at hand. -/
def strR (s : ByteArray) (i : Nat) (said : List UInt8) : SR :=
  if i < s.size then
    if bt s i = 39 then .ok said (i + 1)
    else if bt s i = 10 then .bad i
    else if bt s i = 92 then
      if i + 1 < s.size then
        match esc (bt s (i + 1)) with
        | some m => strR s (i + 2) (said ++ [m])
        | none => .bad (i + 1)
      else .bad (i + 1)
    else strR s (i + 1) (said ++ [bt s i])
  else .bad s.size
termination_by s.size - i

def rdStr (s : ByteArray) (k : Nat) : Rd :=
  match strR s (k + 1) [] with
  | .ok said e => if 500 < said.length then .bad 4 k else .tok 4 (ofBytes said) 0 e
  | .bad p => .bad 3 p

theorem strR_end (s : ByteArray) (i : Nat) (said : List UInt8) (h : ¬ i < s.size) : strR s i said = .bad s.size := by rw [strR, if_neg h]
theorem strR_quote (s : ByteArray) (i : Nat) (said : List UInt8) (h : i < s.size) (hc : bt s i = 39) : strR s i said = .ok said (i + 1) := by rw [strR, if_pos h, if_pos hc]
theorem strR_lf (s : ByteArray) (i : Nat) (said : List UInt8) (h : i < s.size) (hc : bt s i = 10) : strR s i said = .bad i := by rw [strR, if_pos h, if_neg (by rw [hc]; decide), if_pos hc]
theorem strR_esc (s : ByteArray) (i : Nat) (said : List UInt8) (m : UInt8) (h : i < s.size) (hc : bt s i = 92) (h1 : i + 1 < s.size) (hm : esc (bt s (i + 1)) = some m) : strR s i said = strR s (i + 2) (said ++ [m]) := by
  conv => lhs; rw [strR]
  rw [if_pos h, if_neg (by rw [hc]; decide), if_neg (by rw [hc]; decide), if_pos hc, if_pos h1, hm]
theorem strR_noesc (s : ByteArray) (i : Nat) (said : List UInt8) (h : i < s.size) (hc : bt s i = 92) (hm : i + 1 < s.size → esc (bt s (i + 1)) = none) : strR s i said = .bad (i + 1) := by
  rw [strR, if_pos h, if_neg (by rw [hc]; decide), if_neg (by rw [hc]; decide), if_pos hc]
  by_cases h1 : i + 1 < s.size
  · rw [if_pos h1, hm h1]
  · rw [if_neg h1]
theorem strR_plain (s : ByteArray) (i : Nat) (said : List UInt8) (h : i < s.size) (h1 : bt s i ≠ 39) (h2 : bt s i ≠ 10) (h3 : bt s i ≠ 92) : strR s i said = strR s (i + 1) (said ++ [bt s i]) := by
  conv => lhs; rw [strR]
  rw [if_pos h, if_neg h1, if_neg h2, if_neg h3]

theorem byte_eq (b c : UInt8) : (((b.toNat : Nat) : Int) == ((c.toNat : Nat) : Int)) = decide (b = c) := by
  by_cases h : b = c
  · subst h; simp
  · have : b.toNat ≠ c.toNat := fun e => h (UInt8.toNat_inj.1 e)
    simp [h]; omega

/-- escaped, at a place that is there. -/
def escV (o : Option UInt8) : Value := match o with | some m => .tuple #[.int .u8 (m.toNat : Int), .bool true] | none => .tuple #[.int .u8 0, .bool false]

theorem escaped_out (s : ByteArray) (i : Nat) (w : World) (h : s.size ≤ i) :
    Calls Tryz.prog 216 #[.string s, .int .i64 (i : Int)] w fun e w' => e = .returned (.tuple #[.int .u8 0, .bool false]) ∧ w' = w := by
  go_enter Tryz.func216, Tryz.ntmps216
  go_wp2
  go_ret2
  exact ⟨rfl, rfl⟩

theorem escaped_in (s : ByteArray) (i : Nat) (w : World) (h : i < s.size) :
    Calls Tryz.prog 216 #[.string s, .int .i64 (i : Int)] w fun e w' => e = .returned (escV (esc (bt s i))) ∧ w' = w := by
  rw [bt_eq s i h]
  obtain ⟨b, hb⟩ : ∃ b, b = s[i] := ⟨_, rfl⟩
  have b1 := byte_eq b 110
  have b2 := byte_eq b 39
  have b3 := byte_eq b 92
  rw [← hb]
  by_cases h1 : b = 110
  · have e : esc b = some 10 := by simp [esc, h1]
    have c1 : (((s[i].toNat : Nat) : Int) == 110) = true := by rw [← hb, h1]; rfl
    rw [e]
    clear b1 b2 b3 hb h1
    go_enter Tryz.func216, Tryz.ntmps216
    go_wp2
    go_ret2
    exact ⟨rfl, rfl⟩
  · have c1 : (((s[i].toNat : Nat) : Int) == 110) = false := by rw [← hb]; simpa [h1] using b1
    by_cases h2 : b = 39
    · have e : esc b = some 39 := by simp [esc, h2]
      have c2 : (((s[i].toNat : Nat) : Int) == 39) = true := by rw [← hb, h2]; rfl
      have hv : ((s[i].toNat : Nat) : Int) = 39 := by rw [← hb, h2]; rfl
      rw [e]
      have HV := hide hv
      clear b1 b2 b3 hb h1 h2 hv
      go_enter Tryz.func216, Tryz.ntmps216
      go_wp2
      go_ret2
      refine ⟨?_, rfl⟩
      show Ending.returned (.tuple #[.int .u8 (s[i].toNat : Int), .bool true]) = _
      rw [unhide HV]; rfl
    · have c2 : (((s[i].toNat : Nat) : Int) == 39) = false := by rw [← hb]; simpa [h2] using b2
      by_cases h3 : b = 92
      · have e : esc b = some 92 := by simp [esc, h3]
        have c3 : (((s[i].toNat : Nat) : Int) == 92) = true := by rw [← hb, h3]; rfl
        have hv : ((s[i].toNat : Nat) : Int) = 92 := by rw [← hb, h3]; rfl
        rw [e]
        have HV := hide hv
        clear b1 b2 b3 hb h1 h2 hv
        go_enter Tryz.func216, Tryz.ntmps216
        go_wp2
        go_ret2
        refine ⟨?_, rfl⟩
        show Ending.returned (.tuple #[.int .u8 (s[i].toNat : Int), .bool true]) = _
        rw [unhide HV]; rfl
      · have e : esc b = none := by simp [esc, h1, h2, h3]
        have c3 : (((s[i].toNat : Nat) : Int) == 92) = false := by rw [← hb]; simpa [h3] using b3
        rw [e]
        clear b1 b2 b3 hb h1 h2
        go_enter Tryz.func216, Tryz.ntmps216
        go_wp2
        go_ret2
        exact ⟨rfl, rfl⟩

/-- The cells of a row of bytes. -/
def cellsOf (l : List UInt8) : List Value := l.map (fun b => Value.int .u8 (b.toNat : Int))

theorem row_shape {w : World} {base : Nat} {v : Value} {n : Nat} {xs : List Value} (h : w.ownsRow base 5 1 v n xs) : ∃ a cap, v = .slice a n cap := by
  obtain ⟨_, ⟨rfl, rfl⟩ | ⟨g, cap, cur, rfl, _⟩⟩ := h
  · exact ⟨_, _, rfl⟩
  · exact ⟨_, _, rfl⟩

theorem row_text {w : World} {base : Nat} {v : Value} (l : List UInt8) (h : w.ownsRow base 5 1 v l.length (cellsOf l)) : (convert 82 9 v).run Tryz.prog w = .ok (.string (ofBytes l)) w := by
  obtain ⟨hl, ⟨rfl, h0⟩ | ⟨g, cap, cur, rfl, hb, hh, hn, hm, hs, ht⟩⟩ := h
  · have : l = [] := List.length_eq_zero_iff.1 h0
    subst this
    exact run_convert_bytes_nil w 82 5 Tryz.underlying82 Tryz.underlying5 0 0 9 Tryz.underlying9
  · refine run_convert_bytes_back w 82 9 5 ⟨g, 0, none⟩ cap l Tryz.underlying82 Tryz.underlying5 Tryz.underlying9 ?_
    intro j hj
    have h1 : (cellsOf l)[j]? = some (.int .u8 (l[j].toNat : Int)) := by unfold cellsOf; rw [List.getElem?_map, List.getElem?_eq_getElem hj]; rfl
    rw [← ht, List.getElem?_take_of_lt (by omega)] at h1
    have h2 : cur[j]? = some (.int .u8 (l[j].toNat : Int)) := by simpa using h1
    have e : (Addr.add ⟨g, 0, none⟩ j) = ⟨g, j, none⟩ := by simp [Addr.add]; intro h; exact h.symm
    rw [e]
    simp only [World.cell?, hh]
    simpa using h2

end Go.Proofs.YtodmgaikhbmlnaaGreatDoor
