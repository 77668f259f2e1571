/-
  What is deleted of a row by its name.
-/
import Derived.Test.YtomogijjkdiomaaDoorHp9
import Derived.Lib.SliceRun
set_option maxRecDepth 100000
set_option maxHeartbeats 16000000
namespace Go.Proofs.YtomogijjkdiomaaDoor
open Go.RowKit

theorem row_shrink {w : World} {B : Nat} {e : TypeId} {size g n cap m : Nat} {xs : List Value} (h : w.ownsRow B e size (.slice (some ⟨g, 0, none⟩) n cap) n xs) (hm : m ≤ n) : w.ownsRow B e size (.slice (some ⟨g, 0, none⟩) m cap) m (xs.take (m * size)) := by
  have h1 := h.1
  rcases h.2 with ⟨h', _⟩ | ⟨g', cap', cur, h', hb, hg, hn, hx, hs, ht⟩
  · simp at h'
  · simp only [Value.slice.injEq, Option.some.injEq, Addr.mk.injEq, and_true, true_and] at h'
    obtain ⟨rfl, rfl⟩ := h'
    have hle : m * size ≤ n * size := Nat.mul_le_mul_right _ hm
    refine ⟨by rw [List.length_take, h1]; omega, .inr ⟨g, cap, cur, rfl, hb, hg, Nat.le_trans hm hn, hx, hs, ?_⟩⟩
    rw [← ht, List.take_take, Nat.min_eq_left hle]
def Lm {α : Type} (bs : List α) (k m : Nat) : List α := (bs.eraseIdx k).take m ++ bs.drop m
theorem Lm_len {α : Type} {bs : List α} {k m : Nat} (hk : k < bs.length) (hm : m < bs.length) : (Lm bs k m).length = bs.length := by
  simp [Lm, List.length_eraseIdx, hk]; omega
theorem Lm_at {α : Type} {bs : List α} {k m j : Nat} (hk : k < bs.length) (hm : m < bs.length) (hj : m ≤ j) : (Lm bs k m)[j]? = bs[j]? := by
  have hl : ((bs.eraseIdx k).take m).length = m := by simp [List.length_eraseIdx, hk]; omega
  rw [Lm, List.getElem?_append_right (by omega), hl, List.getElem?_drop, Nat.add_sub_cancel' hj]
theorem Lm_start {α : Type} {bs : List α} {k : Nat} (_hk : k < bs.length) : Lm bs k k = bs := by
  rw [Lm, List.eraseIdx_eq_take_drop_succ, List.take_append_of_le_length (by simp; omega), List.take_take, Nat.min_self, List.take_append_drop]
theorem Lm_step {α : Type} {bs : List α} {k m : Nat} {b : α} (hk : k ≤ m) (hm : m + 1 < bs.length) (hb : bs[m + 1]? = some b) : (Lm bs k m).set m b = Lm bs k (m + 1) := by
  have hkl : k < bs.length := by omega
  have hl : ((bs.eraseIdx k).take m).length = m := by simp [List.length_eraseIdx, hkl]; omega
  have he : (bs.eraseIdx k)[m]? = some b := by rw [List.getElem?_eraseIdx, if_neg (by omega)]; exact hb
  rw [Lm, List.set_append_right _ _ (by omega), hl, Nat.sub_self, Lm, List.take_add_one, he]
  rw [List.append_assoc]
  congr 1
  rw [List.drop_eq_getElem_cons (i := m) (by omega)]
  rfl
theorem Lm_end {α : Type} {bs : List α} {k m : Nat} (hk : k < bs.length) (hm : m + 1 = bs.length) : (Lm bs k m).take m = bs.eraseIdx k := by
  have hl : ((bs.eraseIdx k).take m).length = m := by simp [List.length_eraseIdx, hk]; omega
  rw [Lm, List.take_append_of_le_length (by omega), List.take_take, Nat.min_self, List.take_of_length_le (by simp [List.length_eraseIdx, hk]; omega)]
theorem fm_take {α : Type} {f : α → List Value} {s : Nat} (hf : ∀ a, (f a).length = s) : ∀ (l : List α) (m : Nat), (l.flatMap f).take (m * s) = (l.take m).flatMap f
  | [], m => by simp
  | a :: l, 0 => by simp
  | a :: l, m + 1 => by
    have h := fm_take hf l m
    rw [List.flatMap_cons, show (m + 1) * s = (f a).length + m * s by rw [hf, Nat.add_mul]; omega, List.take_length_add_append, h, List.take_succ_cons, List.flatMap_cons]

theorem setall_P : ∀ (bs : List Pr) (k : Nat) (b : Pr), k < bs.length → ((((((bs.flatMap Pr.h)).set (k * 5) (.string b.name)).set (k * 5 + 1) (.int .i64 3)).set (k * 5 + 2) (.int .i64 b.v)).set (k * 5 + 3) (.string ⟨#[]⟩)).set (k * 5 + 4) (.bool b.fixed) = (bs.set k b).flatMap Pr.h
  | [], k, b, h => by simp at h
  | c :: bs, 0, b, h => by simp [Pr.h]
  | c :: bs, k + 1, b, h => by
    have := setall_P bs k b (by simpa using h)
    have e0 : (k + 1) * 5 = k * 5 + 1 + 1 + 1 + 1 + 1 := by omega
    simp only [e0, List.set_cons_succ, List.flatMap_cons, Pr.h, List.cons_append, List.nil_append] at this ⊢
    rw [this]
theorem del_P (s : ByteArray) (b : Pr) (z : Nat) (w : World) (hz : w.cell? ⟨z, 0, none⟩ = some (.string s)) :
    Calls Tryd.prog 44 #[.agg #[.string b.name, .int .i64 3, .int .i64 b.v, .string ⟨#[]⟩, .bool b.fixed], .pointer (some ⟨z, 0, none⟩)] w fun e w' => e = .returned (.bool (b.name.toList == s.toList)) ∧ Below w.heap.size w w' := by
  have hzl : z < w.heap.size := World.block_lt_of_cell? w _ hz
  go_enter Tryd.func44, Tryd.ntmps44
  go_wp2_with fail
  go_ret
  exact ⟨rfl, (Below.refl _ _).alloc (Nat.le_refl _) _⟩
theorem idx_P (g cap H : Nat) (bs : List Pr) (s : ByteArray) (z : Nat) (w : World) (hrow : w.ownsRow H 88 5 (.slice (some ⟨g, 0, none⟩) bs.length cap) bs.length (bs.flatMap Pr.h)) (hm : bs.length ≤ 100000) (k : Nat) (hk : fP s bs = some k) (hz : w.cell? ⟨z, 0, none⟩ = some (.string s)) :
    Calls Tryd.prog 57 #[.slice (some ⟨g, 0, none⟩) bs.length cap, .func (.func 44) #[] #[.pointer (some ⟨z, 0, none⟩)]] w fun e w' => e = .returned (.int .i64 k) ∧ Below w.heap.size w w' := by
  obtain ⟨hkl, hk1, hk2⟩ := List.findIdx?_eq_some_iff_getElem.1 hk
  have HK1 := hide hk1
  have HK2 := hide hk2
  have HROW := hide hrow
  have HZ := hide hz
  have HZL := hide (World.block_lt_of_cell? w _ hz)
  clear hrow hz hk hk1 hk2
  go_enter Tryd.func57, Tryd.ntmps57
  go_wp2_with fail
  go_loopw [8] (fun i wr => ∃ m : Nat, m ≤ k ∧ i = .int .i64 m ∧ Below w.heap.size w wr) (fun i _ => k + 1 - (intOf i).toNat)
  case atStart => exact ⟨0, Nat.zero_le _, rfl, Below.refl _ _⟩
  case round =>
    obtain ⟨m, hmk, rfl, hb⟩ := hrel
    have hml : m < bs.length := by omega
    obtain ⟨b, hbm⟩ : ∃ b, bs[m]? = some b := ⟨_, List.getElem?_eq_getElem hml⟩
    obtain ⟨g', cap', hv', _, ⟨hcc, hgl, _⟩, _⟩ := atP (row_later HROW.out hb) hbm
    simp only [Value.slice.injEq, Option.some.injEq, Addr.mk.injEq, and_true, true_and] at hv'
    obtain ⟨rfl, rfl⟩ := hv'
    have d0 : wr.cell? ⟨g, m * 5, none⟩ = some (.string b.name) := hcc 0 _ rfl
    have d1 := hcc 1 _ rfl
    have d2 := hcc 2 _ rfl
    have d3 := hcc 3 _ rfl
    have d4 := hcc 4 _ rfl
    have hz2 : wr.cell? ⟨z, 0, none⟩ = some (.string s) := (cell_below hb (a := ⟨z, 0, none⟩) HZL.out).trans HZ.out
    have HC := hide (del_P s b z wr hz2)
    have HB := hide hb
    clear hb hcc hz2
    by_cases hmk2 : m = k
    · subst hmk2
      rw [show (b.name.toList == s.toList) = true by
        have := HK1.out
        rw [List.getElem?_eq_getElem hml] at hbm
        rw [Option.some.inj hbm] at this
        exact this] at HC
      clear hbm
      go_wp2_with fail
      refine Calls.mono HC.out ?_
      rintro e w2 ⟨rfl, hb2⟩
      have HB2 := hide (HB.out.trans (hb2.mono HB.out.size))
      clear hb2
      go_wp2_with fail
      go_ret
      exact ⟨rfl, HB2.out⟩
    · rw [show (b.name.toList == s.toList) = false by
        have := HK2.out m (by omega)
        rw [List.getElem?_eq_getElem hml] at hbm
        rw [Option.some.inj hbm] at this
        simpa [isN] using this] at HC
      clear hbm
      go_wp2_with fail
      refine Calls.mono HC.out ?_
      rintro e w2 ⟨rfl, hb2⟩
      have HB2 := hide (HB.out.trans (hb2.mono HB.out.size))
      clear hb2
      go_wp2_with fail
      go_roundw
      case rel => exact ⟨m + 1, by omega, by go_num, HB2.out⟩
      case measure => simp [intOf]; omega
def zP : List Value := [.string ⟨#[]⟩, .int .i64 0, .int .i64 0, .string ⟨#[]⟩, .bool false]
theorem run_clear_P (w : World) (g o cap : Nat) (hc : ∀ j, j < 5 → (w.cell? ⟨g, o + j, none⟩).isSome = true) (hf : ∀ j, w.frozen? ⟨g, j, none⟩ = false) :
    (Builtin.clear_ #[71] 0 #[.slice (some ⟨g, o, none⟩) 1 cap]).run Tryd.prog w = .ok (.tuple #[]) (w.setCells g o zP) := by
  have hst := run_storeCells_cells (P := Tryd.prog) g o zP 0 w (by simpa [zP] using hc) (by simpa using fun j _ => hf (o + j)) (by intro v hv'; simp [zP] at hv'; rcases hv' with rfl | rfl | rfl | rfl | rfl <;> rfl)
  simp only [Nat.add_zero] at hst
  have hv : ∀ w, (zeroValue 88).run Tryd.prog w = .ok (.agg #[.string ⟨#[]⟩, .int .i64 0, .int .i64 0, .string ⟨#[]⟩, .bool false]) w := fun w => by
    obtain ⟨ii, hi0, hz0, hz1, hz2⟩ := info_parts info88
    simp [zeroValue, typeInfo, hi0, hz0]
  have hzc : (Builtin.zeroCells (Value.agg #[.string ⟨#[]⟩, .int .i64 0, .int .i64 0, .string ⟨#[]⟩, .bool false]).cells 1).toList = zP := by kernel_rfl
  simp [Builtin.clear_, run_underlying Tryd.underlying71, hv, hzc, hst]
theorem cleared_P {w : World} {g cap H n o : Nat} {xs : List Value} (h : w.ownsRow H 88 5 (.slice (some ⟨g, 0, none⟩) n cap) n xs) (ho2 : o ≤ n) : (w.setCells g (o * 5) zP).ownsRow H 88 5 (.slice (some ⟨g, 0, none⟩) o cap) o (xs.take (o * 5)) ∧ w.grownBy (w.setCells g (o * 5) zP) (some g) := by
  obtain ⟨r1, q1⟩ := h.stored (o * 5) (.string ⟨#[]⟩)
  obtain ⟨r2, q2⟩ := r1.stored (o * 5 + 1) (.int .i64 0)
  obtain ⟨r3, q3⟩ := r2.stored (o * 5 + 2) (.int .i64 0)
  obtain ⟨r4, q4⟩ := r3.stored (o * 5 + 3) (.string ⟨#[]⟩)
  obtain ⟨r5, q5⟩ := r4.stored (o * 5 + 4) (.bool false)
  have hx : ((((((xs).set (o * 5) (.string ⟨#[]⟩)).set (o * 5 + 1) (.int .i64 0)).set (o * 5 + 2) (.int .i64 0)).set (o * 5 + 3) (.string ⟨#[]⟩)).set (o * 5 + 4) (.bool false)).take (o * 5) = xs.take (o * 5) := by
    rw [List.take_set_of_le (by omega), List.take_set_of_le (by omega), List.take_set_of_le (by omega), List.take_set_of_le (by omega), List.take_set_of_le (by omega)]
  have hq := grown_trans (grown_trans (grown_trans (grown_trans (q1) q2) q3) q4) q5
  have hr := row_shrink r5 ho2
  rw [hx] at hr
  exact ⟨hr, hq⟩

theorem setall_C : ∀ (bs : List Ce) (k : Nat) (b : Ce), k < bs.length → (((((((bs.flatMap Ce.h)).set (k * 6) (.string b.name)).set (k * 6 + 1) (.int .i64 3)).set (k * 6 + 2) (.int .i64 b.v)).set (k * 6 + 3) (.string ⟨#[]⟩)).set (k * 6 + 4) (.int .i64 b.kind)).set (k * 6 + 5) (.bool b.ready) = (bs.set k b).flatMap Ce.h
  | [], k, b, h => by simp at h
  | c :: bs, 0, b, h => by simp [Ce.h]
  | c :: bs, k + 1, b, h => by
    have := setall_C bs k b (by simpa using h)
    have e0 : (k + 1) * 6 = k * 6 + 1 + 1 + 1 + 1 + 1 + 1 := by omega
    simp only [e0, List.set_cons_succ, List.flatMap_cons, Ce.h, List.cons_append, List.nil_append] at this ⊢
    rw [this]
theorem del_C (s : ByteArray) (b : Ce) (z : Nat) (w : World) (hz : w.cell? ⟨z, 0, none⟩ = some (.string s)) :
    Calls Tryd.prog 49 #[.agg #[.string b.name, .int .i64 3, .int .i64 b.v, .string ⟨#[]⟩, .int .i64 b.kind, .bool b.ready], .pointer (some ⟨z, 0, none⟩)] w fun e w' => e = .returned (.bool (b.name.toList == s.toList)) ∧ Below w.heap.size w w' := by
  have hzl : z < w.heap.size := World.block_lt_of_cell? w _ hz
  go_enter Tryd.func49, Tryd.ntmps49
  go_wp2_with fail
  go_ret
  exact ⟨rfl, (Below.refl _ _).alloc (Nat.le_refl _) _⟩
theorem idx_C (g cap H : Nat) (bs : List Ce) (s : ByteArray) (z : Nat) (w : World) (hrow : w.ownsRow H 98 6 (.slice (some ⟨g, 0, none⟩) bs.length cap) bs.length (bs.flatMap Ce.h)) (hm : bs.length ≤ 100000) (k : Nat) (hk : fC s bs = some k) (hz : w.cell? ⟨z, 0, none⟩ = some (.string s)) :
    Calls Tryd.prog 60 #[.slice (some ⟨g, 0, none⟩) bs.length cap, .func (.func 49) #[] #[.pointer (some ⟨z, 0, none⟩)]] w fun e w' => e = .returned (.int .i64 k) ∧ Below w.heap.size w w' := by
  obtain ⟨hkl, hk1, hk2⟩ := List.findIdx?_eq_some_iff_getElem.1 hk
  have HK1 := hide hk1
  have HK2 := hide hk2
  have HROW := hide hrow
  have HZ := hide hz
  have HZL := hide (World.block_lt_of_cell? w _ hz)
  clear hrow hz hk hk1 hk2
  go_enter Tryd.func60, Tryd.ntmps60
  go_wp2_with fail
  go_loopw [8] (fun i wr => ∃ m : Nat, m ≤ k ∧ i = .int .i64 m ∧ Below w.heap.size w wr) (fun i _ => k + 1 - (intOf i).toNat)
  case atStart => exact ⟨0, Nat.zero_le _, rfl, Below.refl _ _⟩
  case round =>
    obtain ⟨m, hmk, rfl, hb⟩ := hrel
    have hml : m < bs.length := by omega
    obtain ⟨b, hbm⟩ : ∃ b, bs[m]? = some b := ⟨_, List.getElem?_eq_getElem hml⟩
    obtain ⟨g', cap', hv', _, ⟨hcc, hgl, _⟩, _⟩ := atC (row_later HROW.out hb) hbm
    simp only [Value.slice.injEq, Option.some.injEq, Addr.mk.injEq, and_true, true_and] at hv'
    obtain ⟨rfl, rfl⟩ := hv'
    have d0 : wr.cell? ⟨g, m * 6, none⟩ = some (.string b.name) := hcc 0 _ rfl
    have d1 := hcc 1 _ rfl
    have d2 := hcc 2 _ rfl
    have d3 := hcc 3 _ rfl
    have d4 := hcc 4 _ rfl
    have d5 := hcc 5 _ rfl
    have hz2 : wr.cell? ⟨z, 0, none⟩ = some (.string s) := (cell_below hb (a := ⟨z, 0, none⟩) HZL.out).trans HZ.out
    have HC := hide (del_C s b z wr hz2)
    have HB := hide hb
    clear hb hcc hz2
    by_cases hmk2 : m = k
    · subst hmk2
      rw [show (b.name.toList == s.toList) = true by
        have := HK1.out
        rw [List.getElem?_eq_getElem hml] at hbm
        rw [Option.some.inj hbm] at this
        exact this] at HC
      clear hbm
      go_wp2_with fail
      refine Calls.mono HC.out ?_
      rintro e w2 ⟨rfl, hb2⟩
      have HB2 := hide (HB.out.trans (hb2.mono HB.out.size))
      clear hb2
      go_wp2_with fail
      go_ret
      exact ⟨rfl, HB2.out⟩
    · rw [show (b.name.toList == s.toList) = false by
        have := HK2.out m (by omega)
        rw [List.getElem?_eq_getElem hml] at hbm
        rw [Option.some.inj hbm] at this
        simpa [isN] using this] at HC
      clear hbm
      go_wp2_with fail
      refine Calls.mono HC.out ?_
      rintro e w2 ⟨rfl, hb2⟩
      have HB2 := hide (HB.out.trans (hb2.mono HB.out.size))
      clear hb2
      go_wp2_with fail
      go_roundw
      case rel => exact ⟨m + 1, by omega, by go_num, HB2.out⟩
      case measure => simp [intOf]; omega
def zC : List Value := [.string ⟨#[]⟩, .int .i64 0, .int .i64 0, .string ⟨#[]⟩, .int .i64 0, .bool false]
theorem run_clear_C (w : World) (g o cap : Nat) (hc : ∀ j, j < 6 → (w.cell? ⟨g, o + j, none⟩).isSome = true) (hf : ∀ j, w.frozen? ⟨g, j, none⟩ = false) :
    (Builtin.clear_ #[74] 0 #[.slice (some ⟨g, o, none⟩) 1 cap]).run Tryd.prog w = .ok (.tuple #[]) (w.setCells g o zC) := by
  have hst := run_storeCells_cells (P := Tryd.prog) g o zC 0 w (by simpa [zC] using hc) (by simpa using fun j _ => hf (o + j)) (by intro v hv'; simp [zC] at hv'; rcases hv' with rfl | rfl | rfl | rfl | rfl | rfl <;> rfl)
  simp only [Nat.add_zero] at hst
  have hv : ∀ w, (zeroValue 98).run Tryd.prog w = .ok (.agg #[.string ⟨#[]⟩, .int .i64 0, .int .i64 0, .string ⟨#[]⟩, .int .i64 0, .bool false]) w := fun w => by
    obtain ⟨ii, hi0, hz0, hz1, hz2⟩ := info_parts info98
    simp [zeroValue, typeInfo, hi0, hz0]
  have hzc : (Builtin.zeroCells (Value.agg #[.string ⟨#[]⟩, .int .i64 0, .int .i64 0, .string ⟨#[]⟩, .int .i64 0, .bool false]).cells 1).toList = zC := by kernel_rfl
  simp [Builtin.clear_, run_underlying Tryd.underlying74, hv, hzc, hst]
theorem cleared_C {w : World} {g cap H n o : Nat} {xs : List Value} (h : w.ownsRow H 98 6 (.slice (some ⟨g, 0, none⟩) n cap) n xs) (ho2 : o ≤ n) : (w.setCells g (o * 6) zC).ownsRow H 98 6 (.slice (some ⟨g, 0, none⟩) o cap) o (xs.take (o * 6)) ∧ w.grownBy (w.setCells g (o * 6) zC) (some g) := by
  obtain ⟨r1, q1⟩ := h.stored (o * 6) (.string ⟨#[]⟩)
  obtain ⟨r2, q2⟩ := r1.stored (o * 6 + 1) (.int .i64 0)
  obtain ⟨r3, q3⟩ := r2.stored (o * 6 + 2) (.int .i64 0)
  obtain ⟨r4, q4⟩ := r3.stored (o * 6 + 3) (.string ⟨#[]⟩)
  obtain ⟨r5, q5⟩ := r4.stored (o * 6 + 4) (.int .i64 0)
  obtain ⟨r6, q6⟩ := r5.stored (o * 6 + 5) (.bool false)
  have hx : (((((((xs).set (o * 6) (.string ⟨#[]⟩)).set (o * 6 + 1) (.int .i64 0)).set (o * 6 + 2) (.int .i64 0)).set (o * 6 + 3) (.string ⟨#[]⟩)).set (o * 6 + 4) (.int .i64 0)).set (o * 6 + 5) (.bool false)).take (o * 6) = xs.take (o * 6) := by
    rw [List.take_set_of_le (by omega), List.take_set_of_le (by omega), List.take_set_of_le (by omega), List.take_set_of_le (by omega), List.take_set_of_le (by omega), List.take_set_of_le (by omega)]
  have hq := grown_trans (grown_trans (grown_trans (grown_trans (grown_trans (q1) q2) q3) q4) q5) q6
  have hr := row_shrink r6 ho2
  rw [hx] at hr
  exact ⟨hr, hq⟩
end Go.Proofs.YtomogijjkdiomaaDoor
