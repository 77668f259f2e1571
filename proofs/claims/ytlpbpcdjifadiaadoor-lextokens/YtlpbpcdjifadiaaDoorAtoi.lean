/-
  The walk of strconv.Atoi over one to ten digits.
-/
import Derived.Test.YtlpbpcdjifadiaaDoorReadA
import Derived.Laws.IdiomStrings
namespace Go.Proofs.YtlpbpcdjifadiaaDoor
open Go.RowKit

/-- The number that digits write. -/
def numL (l : List UInt8) : Int := l.foldl (fun n b => n * 10 + ((b.toNat : Int) - 48)) 0

theorem numL_snoc (l : List UInt8) (b : UInt8) : numL (l ++ [b]) = numL l * 10 + ((b.toNat : Int) - 48) := by simp [numL, List.foldl_append]

theorem num_from (l : List UInt8) : ∀ (n : Int), 0 ≤ n → (∀ b ∈ l, digB (b.toNat : Int) = true) →
    0 ≤ l.foldl (fun n b => n * 10 + ((b.toNat : Int) - 48)) n ∧ l.foldl (fun n b => n * 10 + ((b.toNat : Int) - 48)) n < (n + 1) * 10 ^ l.length := by
  induction l with
  | nil => intro n h0 _; simp; omega
  | cons b l ih =>
    intro n h0 h
    have hb := h b (by simp)
    simp [digB, btwB] at hb
    have h1 := ih (n * 10 + ((b.toNat : Int) - 48)) (by omega) (fun c hc => h c (by simp [hc]))
    refine ⟨h1.1, Int.lt_of_lt_of_le h1.2 ?_⟩
    rw [List.length_cons, Int.pow_succ, Int.mul_comm ((10 : Int) ^ l.length) 10, ← Int.mul_assoc]
    exact Int.mul_le_mul_of_nonneg_right (by omega) (Int.pow_nonneg (by omega))

theorem numL_bound (l : List UInt8) (h : ∀ b ∈ l, digB (b.toNat : Int) = true) : 0 ≤ numL l ∧ numL l < 10 ^ l.length := by
  have h1 := num_from l 0 (Int.le_refl _) h
  refine ⟨h1.1, ?_⟩
  have h2 := h1.2
  rw [Int.zero_add, Int.one_mul] at h2
  exact h2

theorem digit_take (x : ByteArray) (hd : ∀ i, (hi : i < x.size) → digB (x[i].toNat : Int) = true) (k : Nat) : ∀ b ∈ x.data.toList.take k, digB (b.toNat : Int) = true := by
  intro b hb
  obtain ⟨i, hi, rfl⟩ := List.getElem_of_mem hb
  have hi' : i < x.data.toList.length := by simp at hi; simp; omega
  have hs : i < x.size := by have h4 : x.data.toList.length = x.size := by simp
                             omega
  rw [List.getElem_take]
  exact hd i hs

theorem take_snoc (s : ByteArray) (k : Nat) (h : k < s.size) : s.data.toList.take (k + 1) = s.data.toList.take k ++ [s[k]] := by
  rw [List.take_succ_eq_append_getElem (by simpa using h)]; rfl

theorem conv_bytes (x : ByteArray) (w : World) : ∃ cap W1, (convert 9 67 (.string x)).run Tryd.prog w = .ok (.slice (some ⟨w.heap.size, 0, none⟩) x.size cap) W1 ∧ Below w.heap.size w W1 ∧
    ∀ i, (hi : i < x.size) → W1.cell? ⟨w.heap.size, i, none⟩ = some (.int .u8 (x[i].toNat : Int)) := by
  refine ⟨_, _, run_bytes_of_string w 9 67 5 x Tryd.underlying9 Tryd.underlying67 Tryd.underlying5, ((Below.refl _ _).drew.alloc (Nat.le_refl _) _), ?_⟩
  intro i hi
  have hh := heap_alloc_new w.drew (.cells (bytesRow x (grownCap w x.size 0 5)) 5 ((bytesRow x (grownCap w x.size 0 5)).size, (bytesRow x (grownCap w x.size 0 5)).size + 1))
  have hh2 : (w.drew.alloc (.cells (bytesRow x (grownCap w x.size 0 5)) 5 ((bytesRow x (grownCap w x.size 0 5)).size, (bytesRow x (grownCap w x.size 0 5)).size + 1))).heap[w.heap.size]? = some (.cells (bytesRow x (grownCap w x.size 0 5)) 5 ((bytesRow x (grownCap w x.size 0 5)).size, (bytesRow x (grownCap w x.size 0 5)).size + 1)) := hh
  have hi2 : i < x.data.size := hi
  simp only [World.cell?, hh2]
  have h3 : (bytesRow x (grownCap w x.size 0 5))[i]? = some (.int .u8 (x[i].toNat : Int)) := by
    unfold bytesRow
    rw [Array.getElem?_append_left (by simpa using hi2), Array.getElem?_map, Array.getElem?_eq_getElem hi2]
    rfl
  simpa using h3

theorem pow10_le {n : Nat} (h : n ≤ 10) : (10 : Int) ^ n ≤ 10000000000 := by
  have : ∀ m : Fin 11, (10 : Int) ^ m.val ≤ 10000000000 := by decide
  exact this ⟨n, by omega⟩

set_option maxRecDepth 100000 in
set_option maxHeartbeats 1000000 in
theorem iatoi_any (x : ByteArray) (w : World) (h1 : 1 ≤ x.size) (h2 : x.size ≤ 10) (hd : ∀ i, (hi : i < x.size) → digB (x[i].toNat : Int) = true) :
    Calls Tryd.prog 26 #[.string x] w fun e w' => e = .returned (.tuple #[.int .i64 (numL x.data.toList), .nilIface]) ∧ Below w.heap.size w w' := by
  obtain ⟨cap, W1, hcv, hbel, hcell⟩ := conv_bytes x w
  have h0 := hd 0 h1
  simp [digB, btwB] at h0
  obtain ⟨h0a, h0b⟩ := h0
  have e45 : (((x[0].toNat : Nat) : Int) == 45) = false := beq_eq_false_iff_ne.2 (by omega)
  have e43 : (((x[0].toNat : Nat) : Int) == 43) = false := beq_eq_false_iff_ne.2 (by omega)
  have HBEL := hide hbel
  have HCELL := hide hcell
  have HD := hide hd
  clear hbel hcell hd
  go_enter Tryd.func26, Tryd.ntmps26
  go_wp2
  go_loop [6, 8, 49] (fun n _ i => ∃ k : Nat, k ≤ x.size ∧ i = .int .i64 k ∧ n = .int .i64 (numL (x.data.toList.take k))) (fun _ _ i => x.size - (intOf i).toNat)
  case atStart => exact ⟨0, Nat.zero_le _, rfl, rfl⟩
  case round =>
    obtain ⟨k, hk, rfl, rfl⟩ := hrel
    by_cases hlt : k < x.size
    · have hck := unhide HCELL k hlt
      have hdk := unhide HD k hlt
      simp [digB, btwB] at hdk
      obtain ⟨ha, hb⟩ := hdk
      have hnb := numL_bound _ (digit_take x (unhide HD) k)
      have hl : (x.data.toList.take k).length ≤ 10 := by simp; omega
      have hp := pow10_le hl
      obtain ⟨hn0, hn1⟩ := hnb
      have hn2 : numL (x.data.toList.take k) < 10000000000 := by omega
      have HS := hide (numL_snoc (x.data.toList.take k) x[k])
      have HT := hide (take_snoc x k hlt)
      obtain ⟨N, hN⟩ : ∃ N, N = numL (x.data.toList.take k) := ⟨_, rfl⟩
      rw [← hN] at hn0 hn2 ⊢
      have HN := hide hN
      clear hN hn1 hp hl
      go_wp2
      exact ⟨⟨k + 1, by omega, by go_num, by rw [unhide HT, unhide HS, ← unhide HN]⟩, by simp [intOf]; omega⟩
    · have HT : Hid (x.data.toList.take k = x.data.toList) := List.take_of_length_le (by simp; omega)
      go_wp2
      go_ret2
      refine ⟨?_, unhide HBEL⟩
      rw [unhide HT]
      rfl

end Go.Proofs.YtlpbpcdjifadiaaDoor
