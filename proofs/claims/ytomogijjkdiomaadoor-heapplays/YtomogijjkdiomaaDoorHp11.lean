/-
  What is deleted of a row by its name: the library's own way.
-/
import Derived.Test.YtomogijjkdiomaaDoorHp10
set_option maxRecDepth 100000
set_option maxHeartbeats 16000000
namespace Go.Proofs.YtomogijjkdiomaaDoor
open Go.RowKit

theorem delf_P (g cap H : Nat) (bs : List Pr) (s : ByteArray) (z : Nat) (w : World) (hrow : w.ownsRow H 88 5 (.slice (some ⟨g, 0, none⟩) bs.length cap) bs.length (bs.flatMap Pr.h)) (hm : bs.length ≤ 1000) (k : Nat) (hk : fP s bs = some k) (hu : ∀ j b, k < j → bs[j]? = some b → isN s b.name = false) (hz : w.heap[z]? = some (.cells #[.string s] 9 (0, 0))) :
    Calls Tryd.prog 43 #[.slice (some ⟨g, 0, none⟩) bs.length cap, .func (.func 44) #[] #[.pointer (some ⟨z, 0, none⟩)]] w fun e w' => e = .returned (.slice (some ⟨g, 0, none⟩) ((bs.eraseIdx k).length : Nat) cap) ∧ w.grownBy w' (some g) ∧ w'.ownsRow H 88 5 (.slice (some ⟨g, 0, none⟩) (bs.eraseIdx k).length cap) (bs.eraseIdx k).length ((bs.eraseIdx k).flatMap Pr.h) := by
  have hzc : w.cell? ⟨z, 0, none⟩ = some (.string s) := by simp [World.cell?, hz]
  have HC := hide (idx_P g cap H bs s z w hrow (by omega) k hk hzc)
  obtain ⟨hkl, hk1, hk2⟩ := List.findIdx?_eq_some_iff_getElem.1 hk
  obtain ⟨N, hN⟩ : ∃ N, N = bs.length := ⟨_, rfl⟩
  have hel : (bs.eraseIdx k).length = N - 1 := by rw [List.length_eraseIdx, if_pos hkl, hN]
  rw [hel]
  obtain ⟨cg, hcg⟩ := row_tag hrow (k := g) rfl
  have hzg : z ≠ g := tags_ne hz hcg (by decide)
  have hzl := lt_of_block hz
  have HROW := hide hrow
  have HU := hide hu
  have HN := hide hN
  have HZ := hide hz
  have HEL := hide hel
  rw [← hN] at HC HROW hkl
  rw [← hN] at hm
  have hNb : bs.length = N := hN.symm
  clear hrow hk hk1 hk2 hz hzc hcg hu hN hel
  rw [hNb]
  clear hNb
  go_enter Tryd.func43, Tryd.ntmps43
  go_wp2_with fail
  refine Calls.mono HC.out ?_
  rintro e w1 ⟨rfl, hb⟩
  have HROW1 := hide (row_later HROW.out hb)
  have HG1 : Hid (w.grownBy w1 (some g)) := ⟨hb.os, hb.tape, hb.output, hb.size, fun j hj _ => hb.block j hj⟩
  have hcap : N ≤ cap := by
    rcases HROW.out.2 with ⟨h', _⟩ | ⟨g', cap', cur, h', _, _, hn, _⟩
    · simp at h'
    · simp only [Value.slice.injEq, Option.some.injEq, Addr.mk.injEq, and_true, true_and] at h'
      obtain ⟨rfl, rfl⟩ := h'
      exact hn
  have hkm1 : ((k : Int) == -1) = false := by rw [beq_eq_false_iff_ne]; omega
  clear hb
  go_wp2_with fail
  go_loopw [5, 6] (fun i j wr => ∃ m : Nat, k ≤ m ∧ m + 1 ≤ N ∧ i = .int .i64 m ∧ j = .int .i64 ((m + 1 : Nat) : Int) ∧ w.grownBy wr (some g) ∧ wr.ownsRow H 88 5 (.slice (some ⟨g, 0, none⟩) N cap) N ((Lm bs k m).flatMap Pr.h)) (fun _ j _ => N + 1 - (intOf j).toNat)
  case atStart => exact ⟨k, Nat.le_refl _, hkl, rfl, by go_num, HG1.out, by rw [Lm_start (by rw [← HN.out]; exact hkl)]; exact HROW1.out⟩
  case round =>
    obtain ⟨m, hkm, hmN, rfl, rfl, hgr, hown⟩ := hrel
    have HGR := hide hgr
    have HOWN := hide hown
    have hzb : wr.heap[z]? = some (.cells #[.string s] 9 (0, 0)) := (hgr.block z hzl (fun e => hzg (Option.some.inj e))).trans HZ.out
    have hgl : g < wr.heap.size := (hown.lt g rfl).2
    by_cases hlt : m + 1 < N
    · obtain ⟨b, hbm⟩ : ∃ b, bs[m + 1]? = some b := ⟨_, List.getElem?_eq_getElem (by rw [← HN.out]; exact hlt)⟩
      have hkl' : k < bs.length := by rw [← HN.out]; exact hkl
      have hml' : m < bs.length := by rw [← HN.out]; omega
      have hll : (Lm bs k m).length = N := by rw [Lm_len hkl' hml', HN.out]
      have hbm2 : (Lm bs k m)[m + 1]? = some b := by rw [Lm_at hkl' hml' (by omega)]; exact hbm
      have hown2 := hown
      rw [← hll] at hown2
      obtain ⟨g', cap', hv', _, ⟨hcc, _, hff⟩, _⟩ := atP hown2 hbm2
      simp only [Value.slice.injEq, Option.some.injEq, Addr.mk.injEq, and_true, true_and] at hv'
      obtain ⟨rfl, rfl⟩ := hv'
      have hf := HU.out (m + 1) b (by omega) hbm
      have d0 : wr.cell? ⟨g, (m + 1) * 5, none⟩ = some (.string b.name) := hcc 0 _ rfl
      have d1 : wr.cell? ⟨g, (m + 1) * 5 + 1, none⟩ = some (.int .i64 3) := hcc 1 _ rfl
      have d2 : wr.cell? ⟨g, (m + 1) * 5 + 2, none⟩ = some (.int .i64 b.v) := hcc 2 _ rfl
      have d3 : wr.cell? ⟨g, (m + 1) * 5 + 3, none⟩ = some (.string ⟨#[]⟩) := hcc 3 _ rfl
      have d4 : wr.cell? ⟨g, (m + 1) * 5 + 4, none⟩ = some (.bool b.fixed) := hcc 4 _ rfl
      have hzc : (wr.alloc (.cells #[.string b.name, .int .i64 3, .int .i64 b.v, .string ⟨#[]⟩, .bool b.fixed] 88)).cell? ⟨z, 0, none⟩ = some (.string s) := by
        rw [World.cell?_alloc_past _ _ _ (lt_of_block hzb)]
        simp [World.cell?, hzb]
      have HD := hide (del_P s b z _ hzc)
      rw [show (b.name.toList == s.toList) = false from hf] at HD
      have HBM := hide hbm
      have HLL := hide hll
      have hget : ∀ j, j < 5 → ∃ u, wr.cell? ⟨g, m * 5 + j, none⟩ = some u := fun j hj => by
        have := hown.cellAt (m * 5 + j) (by omega)
        rw [this]
        obtain ⟨x, hx⟩ : ∃ x, (Lm bs k m)[m]? = some x := ⟨_, List.getElem?_eq_getElem (by omega)⟩
        rw [fm_get (s := 5) (fun _ => rfl) _ m j hj, hx]
        exact ⟨_, List.getElem?_eq_getElem (by simpa [Pr.h] using hj)⟩
      obtain ⟨u0, o0⟩ := hget 0 (by decide)
      obtain ⟨u1, o1⟩ := hget 1 (by decide)
      obtain ⟨u2, o2⟩ := hget 2 (by decide)
      obtain ⟨u3, o3⟩ := hget 3 (by decide)
      obtain ⟨u4, o4⟩ := hget 4 (by decide)
      have HFF := hide hff
      clear hgr hown hown2 hbm hbm2 hcc hff hf hzc hzb hll hget
      go_wp2_with fail
      refine Calls.mono HD.out ?_
      rintro e w3 ⟨rfl, hb3⟩
      have hsz3 : wr.heap.size + 1 ≤ w3.heap.size := by have := hb3.size; simpa using this
      have hbw : Below (wr.heap.size + 1) (wr.alloc (.cells #[.string b.name, .int .i64 3, .int .i64 b.v, .string ⟨#[]⟩, .bool b.fixed] 88)) w3 := hb3.mono (by simp)
      have hblk : w3.heap[wr.heap.size]? = some (.cells #[.string b.name, .int .i64 3, .int .i64 b.v, .string ⟨#[]⟩, .bool b.fixed] 88 (0, 0)) := (hbw.block _ (Nat.lt_succ_self _)).trans (heap_alloc_new wr _)
      have n0 : w3.cell? ⟨wr.heap.size, 0, none⟩ = some (.string b.name) := by simp [World.cell?, hblk]
      have n1 : w3.cell? ⟨wr.heap.size, 1, none⟩ = some (.int .i64 3) := by simp [World.cell?, hblk]
      have n2 : w3.cell? ⟨wr.heap.size, 2, none⟩ = some (.int .i64 b.v) := by simp [World.cell?, hblk]
      have n3 : w3.cell? ⟨wr.heap.size, 3, none⟩ = some (.string ⟨#[]⟩) := by simp [World.cell?, hblk]
      have n4 : w3.cell? ⟨wr.heap.size, 4, none⟩ = some (.bool b.fixed) := by simp [World.cell?, hblk]
      have hg3 : ∀ j, w3.cell? ⟨g, j, none⟩ = wr.cell? ⟨g, j, none⟩ := fun j => by
        rw [cell_below hbw (a := ⟨g, j, none⟩) (by show g < _; omega), World.cell?_alloc_past _ _ _ hgl]
      have hgf3 : ∀ j, w3.frozen? ⟨g, j, none⟩ = false := fun j => by
        rw [World.frozen?_of_block (w := wr.alloc (.cells #[.string b.name, .int .i64 3, .int .i64 b.v, .string ⟨#[]⟩, .bool b.fixed] 88)) (a := ⟨g, j, none⟩) (hbw.block g (by omega)), World.frozen?_alloc_old _ _ _ (by show g ≠ _; omega)]
        exact HFF.out j
      have p0 : w3.cell? ⟨g, m * 5, none⟩ = some u0 := (hg3 _).trans o0
      have p1 : w3.cell? ⟨g, m * 5 + 1, none⟩ = some u1 := (hg3 _).trans o1
      have p2 : w3.cell? ⟨g, m * 5 + 2, none⟩ = some u2 := (hg3 _).trans o2
      have p3 : w3.cell? ⟨g, m * 5 + 3, none⟩ = some u3 := (hg3 _).trans o3
      have p4 : w3.cell? ⟨g, m * 5 + 4, none⟩ = some u4 := (hg3 _).trans o4
      have hgne : g ≠ wr.heap.size := by omega
      have hg3l : g < w3.heap.size := by omega
      have hown3 : w3.ownsRow H 88 5 (.slice (some ⟨g, 0, none⟩) N cap) N ((Lm bs k m).flatMap Pr.h) := HOWN.out.kept (grown_trans (World.grownBy_alloc _ _ none) ⟨hb3.os, hb3.tape, hb3.output, hb3.size, fun j hj _ => hb3.block j hj⟩) (by simp [Value.ownBlock])
      obtain ⟨r1, q1⟩ := hown3.stored (m * 5) (.string b.name)
      obtain ⟨r2, q2⟩ := r1.stored (m * 5 + 1) (.int .i64 3)
      obtain ⟨r3, q3⟩ := r2.stored (m * 5 + 2) (.int .i64 b.v)
      obtain ⟨r4, q4⟩ := r3.stored (m * 5 + 3) (.string ⟨#[]⟩)
      obtain ⟨r5, q5⟩ := r4.stored (m * 5 + 4) (.bool b.fixed)
      rw [setall_P (Lm bs k m) m b (by rw [HLL.out]; omega), Lm_step hkm (by rw [← HN.out]; exact hlt) HBM.out] at r5
      have HOW := hide r5
      have HGW : Hid (w.grownBy _ (some g)) := grown_trans HGR.out (grown_trans (World.grownBy_alloc wr (.cells #[.string b.name, .int .i64 3, .int .i64 b.v, .string ⟨#[]⟩, .bool b.fixed] 88) (some g)) (grown_trans ⟨hb3.os, hb3.tape, hb3.output, hb3.size, fun j hj _ => hb3.block j hj⟩ (grown_trans (grown_trans (grown_trans (grown_trans (q1) q2) q3) q4) q5)))
      clear r1 q1 r2 q2 r3 q3 r4 q4 r5 q5 hb3 hbw hblk hown3 HOWN HGR HFF hg3
      go_wp2_with fail
      go_roundw
      case rel => exact ⟨m + 1, by omega, by omega, by go_num, by go_num, HGW.out, HOW.out⟩
      case measure => simp [intOf]; omega
    · have hmN2 : N = m + 1 := by omega
      subst hmN2
      have hkl' : k < bs.length := by rw [← HN.out]; exact hkl
      have hll : (Lm bs k m).length = m + 1 := by rw [Lm_len hkl' (by rw [← HN.out]; omega), HN.out]
      have hxl : ((Lm bs k m).flatMap Pr.h).length = (m + 1) * 5 := by rw [fm_len (s := 5) (fun _ => rfl), hll]
      have HCS : Hid (∀ j, j < 5 → (wr.cell? ⟨g, m * 5 + j, none⟩).isSome = true) := fun j hj => by
        have := hown.cellAt (m * 5 + j) (by omega)
        rw [this, List.getElem?_eq_getElem (by rw [hxl]; omega)]
        rfl
      have HCF : Hid (∀ j, wr.frozen? ⟨g, j, none⟩ = false) := hown.frozenAt
      have hz := cleared_P (o := m) hown (by omega)
      rw [fm_take (s := 5) (fun _ => rfl), Lm_end hkl' (by rw [← HN.out])] at hz
      have HZZ := hide hz
      clear hgr hown hzb hz hxl hll
      go_wp2_with fail
      rw [run_clear_P wr g (m * 5) _ HCS.out HCF.out]
      go_simp
      go_wp2_with fail
      go_ret
      exact ⟨rfl, grown_trans HGR.out HZZ.out.2, HZZ.out.1⟩

theorem delf_C (g cap H : Nat) (bs : List Ce) (s : ByteArray) (z : Nat) (w : World) (hrow : w.ownsRow H 98 6 (.slice (some ⟨g, 0, none⟩) bs.length cap) bs.length (bs.flatMap Ce.h)) (hm : bs.length ≤ 1000) (k : Nat) (hk : fC s bs = some k) (hu : ∀ j b, k < j → bs[j]? = some b → isN s b.name = false) (hz : w.heap[z]? = some (.cells #[.string s] 9 (0, 0))) :
    Calls Tryd.prog 48 #[.slice (some ⟨g, 0, none⟩) bs.length cap, .func (.func 49) #[] #[.pointer (some ⟨z, 0, none⟩)]] w fun e w' => e = .returned (.slice (some ⟨g, 0, none⟩) ((bs.eraseIdx k).length : Nat) cap) ∧ w.grownBy w' (some g) ∧ w'.ownsRow H 98 6 (.slice (some ⟨g, 0, none⟩) (bs.eraseIdx k).length cap) (bs.eraseIdx k).length ((bs.eraseIdx k).flatMap Ce.h) := by
  have hzc : w.cell? ⟨z, 0, none⟩ = some (.string s) := by simp [World.cell?, hz]
  have HC := hide (idx_C g cap H bs s z w hrow (by omega) k hk hzc)
  obtain ⟨hkl, hk1, hk2⟩ := List.findIdx?_eq_some_iff_getElem.1 hk
  obtain ⟨N, hN⟩ : ∃ N, N = bs.length := ⟨_, rfl⟩
  have hel : (bs.eraseIdx k).length = N - 1 := by rw [List.length_eraseIdx, if_pos hkl, hN]
  rw [hel]
  obtain ⟨cg, hcg⟩ := row_tag hrow (k := g) rfl
  have hzg : z ≠ g := tags_ne hz hcg (by decide)
  have hzl := lt_of_block hz
  have HROW := hide hrow
  have HU := hide hu
  have HN := hide hN
  have HZ := hide hz
  have HEL := hide hel
  rw [← hN] at HC HROW hkl
  rw [← hN] at hm
  have hNb : bs.length = N := hN.symm
  clear hrow hk hk1 hk2 hz hzc hcg hu hN hel
  rw [hNb]
  clear hNb
  go_enter Tryd.func48, Tryd.ntmps48
  go_wp2_with fail
  refine Calls.mono HC.out ?_
  rintro e w1 ⟨rfl, hb⟩
  have HROW1 := hide (row_later HROW.out hb)
  have HG1 : Hid (w.grownBy w1 (some g)) := ⟨hb.os, hb.tape, hb.output, hb.size, fun j hj _ => hb.block j hj⟩
  have hcap : N ≤ cap := by
    rcases HROW.out.2 with ⟨h', _⟩ | ⟨g', cap', cur, h', _, _, hn, _⟩
    · simp at h'
    · simp only [Value.slice.injEq, Option.some.injEq, Addr.mk.injEq, and_true, true_and] at h'
      obtain ⟨rfl, rfl⟩ := h'
      exact hn
  have hkm1 : ((k : Int) == -1) = false := by rw [beq_eq_false_iff_ne]; omega
  clear hb
  go_wp2_with fail
  go_loopw [5, 6] (fun i j wr => ∃ m : Nat, k ≤ m ∧ m + 1 ≤ N ∧ i = .int .i64 m ∧ j = .int .i64 ((m + 1 : Nat) : Int) ∧ w.grownBy wr (some g) ∧ wr.ownsRow H 98 6 (.slice (some ⟨g, 0, none⟩) N cap) N ((Lm bs k m).flatMap Ce.h)) (fun _ j _ => N + 1 - (intOf j).toNat)
  case atStart => exact ⟨k, Nat.le_refl _, hkl, rfl, by go_num, HG1.out, by rw [Lm_start (by rw [← HN.out]; exact hkl)]; exact HROW1.out⟩
  case round =>
    obtain ⟨m, hkm, hmN, rfl, rfl, hgr, hown⟩ := hrel
    have HGR := hide hgr
    have HOWN := hide hown
    have hzb : wr.heap[z]? = some (.cells #[.string s] 9 (0, 0)) := (hgr.block z hzl (fun e => hzg (Option.some.inj e))).trans HZ.out
    have hgl : g < wr.heap.size := (hown.lt g rfl).2
    by_cases hlt : m + 1 < N
    · obtain ⟨b, hbm⟩ : ∃ b, bs[m + 1]? = some b := ⟨_, List.getElem?_eq_getElem (by rw [← HN.out]; exact hlt)⟩
      have hkl' : k < bs.length := by rw [← HN.out]; exact hkl
      have hml' : m < bs.length := by rw [← HN.out]; omega
      have hll : (Lm bs k m).length = N := by rw [Lm_len hkl' hml', HN.out]
      have hbm2 : (Lm bs k m)[m + 1]? = some b := by rw [Lm_at hkl' hml' (by omega)]; exact hbm
      have hown2 := hown
      rw [← hll] at hown2
      obtain ⟨g', cap', hv', _, ⟨hcc, _, hff⟩, _⟩ := atC hown2 hbm2
      simp only [Value.slice.injEq, Option.some.injEq, Addr.mk.injEq, and_true, true_and] at hv'
      obtain ⟨rfl, rfl⟩ := hv'
      have hf := HU.out (m + 1) b (by omega) hbm
      have d0 : wr.cell? ⟨g, (m + 1) * 6, none⟩ = some (.string b.name) := hcc 0 _ rfl
      have d1 : wr.cell? ⟨g, (m + 1) * 6 + 1, none⟩ = some (.int .i64 3) := hcc 1 _ rfl
      have d2 : wr.cell? ⟨g, (m + 1) * 6 + 2, none⟩ = some (.int .i64 b.v) := hcc 2 _ rfl
      have d3 : wr.cell? ⟨g, (m + 1) * 6 + 3, none⟩ = some (.string ⟨#[]⟩) := hcc 3 _ rfl
      have d4 : wr.cell? ⟨g, (m + 1) * 6 + 4, none⟩ = some (.int .i64 b.kind) := hcc 4 _ rfl
      have d5 : wr.cell? ⟨g, (m + 1) * 6 + 5, none⟩ = some (.bool b.ready) := hcc 5 _ rfl
      have hzc : (wr.alloc (.cells #[.string b.name, .int .i64 3, .int .i64 b.v, .string ⟨#[]⟩, .int .i64 b.kind, .bool b.ready] 98)).cell? ⟨z, 0, none⟩ = some (.string s) := by
        rw [World.cell?_alloc_past _ _ _ (lt_of_block hzb)]
        simp [World.cell?, hzb]
      have HD := hide (del_C s b z _ hzc)
      rw [show (b.name.toList == s.toList) = false from hf] at HD
      have HBM := hide hbm
      have HLL := hide hll
      have hget : ∀ j, j < 6 → ∃ u, wr.cell? ⟨g, m * 6 + j, none⟩ = some u := fun j hj => by
        have := hown.cellAt (m * 6 + j) (by omega)
        rw [this]
        obtain ⟨x, hx⟩ : ∃ x, (Lm bs k m)[m]? = some x := ⟨_, List.getElem?_eq_getElem (by omega)⟩
        rw [fm_get (s := 6) (fun _ => rfl) _ m j hj, hx]
        exact ⟨_, List.getElem?_eq_getElem (by simpa [Ce.h] using hj)⟩
      obtain ⟨u0, o0⟩ := hget 0 (by decide)
      obtain ⟨u1, o1⟩ := hget 1 (by decide)
      obtain ⟨u2, o2⟩ := hget 2 (by decide)
      obtain ⟨u3, o3⟩ := hget 3 (by decide)
      obtain ⟨u4, o4⟩ := hget 4 (by decide)
      obtain ⟨u5, o5⟩ := hget 5 (by decide)
      have HFF := hide hff
      clear hgr hown hown2 hbm hbm2 hcc hff hf hzc hzb hll hget
      go_wp2_with fail
      refine Calls.mono HD.out ?_
      rintro e w3 ⟨rfl, hb3⟩
      have hsz3 : wr.heap.size + 1 ≤ w3.heap.size := by have := hb3.size; simpa using this
      have hbw : Below (wr.heap.size + 1) (wr.alloc (.cells #[.string b.name, .int .i64 3, .int .i64 b.v, .string ⟨#[]⟩, .int .i64 b.kind, .bool b.ready] 98)) w3 := hb3.mono (by simp)
      have hblk : w3.heap[wr.heap.size]? = some (.cells #[.string b.name, .int .i64 3, .int .i64 b.v, .string ⟨#[]⟩, .int .i64 b.kind, .bool b.ready] 98 (0, 0)) := (hbw.block _ (Nat.lt_succ_self _)).trans (heap_alloc_new wr _)
      have n0 : w3.cell? ⟨wr.heap.size, 0, none⟩ = some (.string b.name) := by simp [World.cell?, hblk]
      have n1 : w3.cell? ⟨wr.heap.size, 1, none⟩ = some (.int .i64 3) := by simp [World.cell?, hblk]
      have n2 : w3.cell? ⟨wr.heap.size, 2, none⟩ = some (.int .i64 b.v) := by simp [World.cell?, hblk]
      have n3 : w3.cell? ⟨wr.heap.size, 3, none⟩ = some (.string ⟨#[]⟩) := by simp [World.cell?, hblk]
      have n4 : w3.cell? ⟨wr.heap.size, 4, none⟩ = some (.int .i64 b.kind) := by simp [World.cell?, hblk]
      have n5 : w3.cell? ⟨wr.heap.size, 5, none⟩ = some (.bool b.ready) := by simp [World.cell?, hblk]
      have hg3 : ∀ j, w3.cell? ⟨g, j, none⟩ = wr.cell? ⟨g, j, none⟩ := fun j => by
        rw [cell_below hbw (a := ⟨g, j, none⟩) (by show g < _; omega), World.cell?_alloc_past _ _ _ hgl]
      have hgf3 : ∀ j, w3.frozen? ⟨g, j, none⟩ = false := fun j => by
        rw [World.frozen?_of_block (w := wr.alloc (.cells #[.string b.name, .int .i64 3, .int .i64 b.v, .string ⟨#[]⟩, .int .i64 b.kind, .bool b.ready] 98)) (a := ⟨g, j, none⟩) (hbw.block g (by omega)), World.frozen?_alloc_old _ _ _ (by show g ≠ _; omega)]
        exact HFF.out j
      have p0 : w3.cell? ⟨g, m * 6, none⟩ = some u0 := (hg3 _).trans o0
      have p1 : w3.cell? ⟨g, m * 6 + 1, none⟩ = some u1 := (hg3 _).trans o1
      have p2 : w3.cell? ⟨g, m * 6 + 2, none⟩ = some u2 := (hg3 _).trans o2
      have p3 : w3.cell? ⟨g, m * 6 + 3, none⟩ = some u3 := (hg3 _).trans o3
      have p4 : w3.cell? ⟨g, m * 6 + 4, none⟩ = some u4 := (hg3 _).trans o4
      have p5 : w3.cell? ⟨g, m * 6 + 5, none⟩ = some u5 := (hg3 _).trans o5
      have hgne : g ≠ wr.heap.size := by omega
      have hg3l : g < w3.heap.size := by omega
      have hown3 : w3.ownsRow H 98 6 (.slice (some ⟨g, 0, none⟩) N cap) N ((Lm bs k m).flatMap Ce.h) := HOWN.out.kept (grown_trans (World.grownBy_alloc _ _ none) ⟨hb3.os, hb3.tape, hb3.output, hb3.size, fun j hj _ => hb3.block j hj⟩) (by simp [Value.ownBlock])
      obtain ⟨r1, q1⟩ := hown3.stored (m * 6) (.string b.name)
      obtain ⟨r2, q2⟩ := r1.stored (m * 6 + 1) (.int .i64 3)
      obtain ⟨r3, q3⟩ := r2.stored (m * 6 + 2) (.int .i64 b.v)
      obtain ⟨r4, q4⟩ := r3.stored (m * 6 + 3) (.string ⟨#[]⟩)
      obtain ⟨r5, q5⟩ := r4.stored (m * 6 + 4) (.int .i64 b.kind)
      obtain ⟨r6, q6⟩ := r5.stored (m * 6 + 5) (.bool b.ready)
      rw [setall_C (Lm bs k m) m b (by rw [HLL.out]; omega), Lm_step hkm (by rw [← HN.out]; exact hlt) HBM.out] at r6
      have HOW := hide r6
      have HGW : Hid (w.grownBy _ (some g)) := grown_trans HGR.out (grown_trans (World.grownBy_alloc wr (.cells #[.string b.name, .int .i64 3, .int .i64 b.v, .string ⟨#[]⟩, .int .i64 b.kind, .bool b.ready] 98) (some g)) (grown_trans ⟨hb3.os, hb3.tape, hb3.output, hb3.size, fun j hj _ => hb3.block j hj⟩ (grown_trans (grown_trans (grown_trans (grown_trans (grown_trans (q1) q2) q3) q4) q5) q6)))
      clear r1 q1 r2 q2 r3 q3 r4 q4 r5 q5 r6 q6 hb3 hbw hblk hown3 HOWN HGR HFF hg3
      go_wp2_with fail
      go_roundw
      case rel => exact ⟨m + 1, by omega, by omega, by go_num, by go_num, HGW.out, HOW.out⟩
      case measure => simp [intOf]; omega
    · have hmN2 : N = m + 1 := by omega
      subst hmN2
      have hkl' : k < bs.length := by rw [← HN.out]; exact hkl
      have hll : (Lm bs k m).length = m + 1 := by rw [Lm_len hkl' (by rw [← HN.out]; omega), HN.out]
      have hxl : ((Lm bs k m).flatMap Ce.h).length = (m + 1) * 6 := by rw [fm_len (s := 6) (fun _ => rfl), hll]
      have HCS : Hid (∀ j, j < 6 → (wr.cell? ⟨g, m * 6 + j, none⟩).isSome = true) := fun j hj => by
        have := hown.cellAt (m * 6 + j) (by omega)
        rw [this, List.getElem?_eq_getElem (by rw [hxl]; omega)]
        rfl
      have HCF : Hid (∀ j, wr.frozen? ⟨g, j, none⟩ = false) := hown.frozenAt
      have hz := cleared_C (o := m) hown (by omega)
      rw [fm_take (s := 6) (fun _ => rfl), Lm_end hkl' (by rw [← HN.out])] at hz
      have HZZ := hide hz
      clear hgr hown hzb hz hxl hll
      go_wp2_with fail
      rw [run_clear_C wr g (m * 6) _ HCS.out HCF.out]
      go_simp
      go_wp2_with fail
      go_ret
      exact ⟨rfl, grown_trans HGR.out HZZ.out.2, HZZ.out.1⟩
end Go.Proofs.YtomogijjkdiomaaDoor
