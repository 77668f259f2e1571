/-
  tell: with.
-/
import Derived.Test.YtoimgcjbcbhclaaGreatDoorWh34
import Derived.Test.YtoimgcjbcbhclaaGreatDoorWh35
set_option maxRecDepth 100000
set_option maxHeartbeats 16000000
namespace Go.Proofs.YtoimgcjbcbhclaaGreatDoor
open Go.RowKit

theorem tl9 (w : World) (p tb q0 q1 : Nat) (oa : Option Addr) (st sb : Bool) (g kn kc : Nat) (I : Nat → Prop) (Q1 Q : World → Prop) (c0 : w.cell? ⟨p, 0, none⟩ = some (.int .i64 9)) (c3 : w.cell? ⟨p, 3, none⟩ = some (.slice (some ⟨g, 0, none⟩) kn kc)) (d0 : w.cell? ⟨g, 0, none⟩ = some (nPtr q0)) (d1 : w.cell? ⟨g, 1, none⟩ = some (nPtr q1)) (hkn : 2 ≤ kn) (hIp : I p) (hIg : I g)
    (hst : ∀ X, Below w.heap.size w X → Calls Tryz.prog 118 #[nPtr p] X fun e w' => e = .returned (.bool sb) ∧ w' = X)
    (ht1 : ∀ X, Below w.heap.size w X → Calls Tryz.prog 68 #[sPtr tb, nPtr q0, plV2 (.pointer oa) (st || sb)] X fun e w' => e = .returned (.tuple #[]) ∧ Fm (fun b => I b ∨ (w.heap.size ≤ b ∧ b < X.heap.size)) X w' ∧ Q1 w')
    (hta : ∀ X Y b, Q1 X → Below X.heap.size X Y → X.heap.size ≤ b → Y.heap[b]? = some (scObj 0 (.slice none 0 0) true (.pointer oa)) → Calls Tryz.prog 68 #[sPtr tb, nPtr q1, plV2 (sPtr b) (st || sb)] Y fun e w' => e = .returned (.tuple #[]) ∧ Q w') :
    Calls Tryz.prog 68 #[sPtr tb, nPtr p, plV2 (.pointer oa) st] w fun e w' => e = .returned (.tuple #[]) ∧ Q w' := by
  have hpl := cell_lt c0
  have hgl := cell_lt d0
  have hn0 : ¬ kn = 0 := by omega
  have hn1 : ¬ (kn : Int) ≤ 1 := by omega
  have HC3 := hide c3
  have HD0 := hide d0
  have HD1 := hide d1
  have HIP := hide hIp
  have HIG := hide hIg
  have HST := hide hst
  have HT1 := hide ht1
  have HTA := hide hta
  clear hst hta ht1 c3 d0 d1 hkn hIp hIg
  cases st with
  | true =>
    rw [Bool.true_or] at HTA HT1
    have hbA : Below w.heap.size w (w.alloc (.cells #[.pointer oa, .bool true] 112)) := (Below.refl _ _).alloc (Nat.le_refl _) _
    obtain ⟨w2, hw2⟩ : ∃ w2, w2 = w.alloc (.cells #[.pointer oa, .bool true] 112) := ⟨_, rfl⟩
    have HB2 : Hid (Below w.heap.size w w2) := by show Below _ _ _; rw [hw2]; exact (Below.refl _ _).alloc (Nat.le_refl _) _
    have HP2 : Hid (w2.heap[w.heap.size]? = some (.cells #[.pointer oa, .bool true] 112 (0, 0))) := by show _ = _; rw [hw2]; exact heap_new _ _
    have HW2 := hide hw2
    clear hw2
    go_enter Tryz.func68, Tryz.ntmps68
    go_wp2_with fail
    rw [← unhide HW2]
    have hs2 : w2.heap.size = w.heap.size + 1 := by rw [unhide HW2]; simp
    have HX0 : Hid (w2.cell? ⟨w.heap.size, 0, none⟩ = some (.pointer oa)) := by show _ = _; rw [cell_of (unhide HP2)]; rfl
    have HX1 : Hid (w2.cell? ⟨w.heap.size, 1, none⟩ = some (.bool true)) := by show _ = _; rw [cell_of (unhide HP2)]; rfl
    have HK3 := hide (keepC (unhide HB2) (unhide HC3))
    have HE0 := hide (keepC (unhide HB2) (unhide HD0))
    have HE1 := hide (keepC (unhide HB2) (unhide HD1))
    obtain ⟨wd, hwd⟩ : ∃ wd, wd = w2.drew := ⟨_, rfl⟩
    have hS0 : Below w2.heap.size w2 wd := by rw [hwd]; exact (Below.refl _ _).drew
    have hsd : wd.heap.size = w2.heap.size := by rw [hwd]; rfl
    refine wp_region_U 8 (fun X => Below w2.heap.size w2 X) (by kernel_rfl) ?_
    rw [← hwd]
    have HSD := hide hsd
    clear hwd hsd
    refine uh 0 (sPtr tb) hS0 ?_
    refine uh 1 (nPtr p) hS0 ?_
    refine uh 2 (nPtr p) hS0 ?_
    refine uh 3 (.pointer (some ⟨p, 3, none⟩)) hS0 ?_
    refine uc 4 (.slice (some ⟨g, 0, none⟩) kn kc) rfl (Or.inl ⟨by kernel_rfl, fun X hX => by have h0 := keepC hX (unhide HK3); go_simp⟩) hS0 ?_
    refine uh 5 (.pointer (some ⟨g, 0, none⟩)) hS0 ?_
    refine uc 6 (nPtr q0) rfl (Or.inl ⟨by kernel_rfl, fun X hX => by have h0 := keepC hX (unhide HE0); go_simp⟩) hS0 ?_
    refine uc 7 (plV2 (.pointer oa) true) rfl (Or.inl ⟨by kernel_rfl, fun X hX => by have h0 := keepC hX (unhide HX0); have h1 := keepC hX (unhide HX1); go_simp⟩) hS0 ?_
    refine uq1 8 fun K hK => ?_
    go_simp
    refine Calls.mono (unhide HT1 _ ((unhide HB2).trans (hS0.mono (unhide HB2).size))) ?_
    rintro e w5 ⟨rfl, hf5, hq5⟩
    refine hK.out _ _ (fun e => by cases e) ?_
    clear hK K
    refine udone (by kernel_rfl) ?_ _
    have hpd : w.heap.size < wd.heap.size := by have := unhide HSD; omega
    have HY0 : Hid (w5.cell? ⟨w.heap.size, 0, none⟩ = some (.pointer oa)) := (hf5.cell (Or.inr ⟨Nat.le_refl _, hpd⟩) hpd).trans (keepC hS0 (unhide HX0))
    have HY1 : Hid (w5.cell? ⟨w.heap.size, 1, none⟩ = some (.bool true)) := (hf5.cell (Or.inr ⟨Nat.le_refl _, hpd⟩) hpd).trans (keepC hS0 (unhide HX1))
    have HZ3 : Hid (w5.cell? ⟨p, 3, none⟩ = some (.slice (some ⟨g, 0, none⟩) kn kc)) := (hf5.cell (Or.inl (unhide HIP)) (by omega)).trans (keepC hS0 (unhide HK3))
    have HZ1 : Hid (w5.cell? ⟨g, 1, none⟩ = some (nPtr q1)) := (hf5.cell (Or.inl (unhide HIG)) (by omega)).trans (keepC hS0 (unhide HE1))
    have HQ5 := hide hq5
    clear hf5 hq5 hS0 hpd HSD HX0 HX1 HK3 HE0 HE1 hs2 HB2 HP2 HW2
    go_simp
    go_wp2_with fail
    obtain ⟨we, hwe⟩ : ∃ we, we = w5.drew := ⟨_, rfl⟩
    have hS5 : Below w5.heap.size w5 we := by rw [hwe]; exact (Below.refl _ _).drew
    refine wp_region_U 10 (fun X => Below w5.heap.size w5 X) (by kernel_rfl) ?_
    rw [← hwe]
    clear hwe
    refine uh 0 (sPtr tb) hS5 ?_
    refine uh 1 (nPtr p) hS5 ?_
    refine uh 2 (nPtr p) hS5 ?_
    refine uh 3 (.pointer (some ⟨p, 3, none⟩)) hS5 ?_
    refine uc 4 (.slice (some ⟨g, 0, none⟩) kn kc) rfl (Or.inl ⟨by kernel_rfl, fun X hX => by have h0 := keepC hX (unhide HZ3); go_simp⟩) hS5 ?_
    refine uh 5 (.pointer (some ⟨g, 1, none⟩)) hS5 ?_
    refine uc 6 (nPtr q1) rfl (Or.inl ⟨by kernel_rfl, fun X hX => by have h0 := keepC hX (unhide HZ1); go_simp⟩) hS5 ?_
    refine uc 7 (plV2 (.pointer oa) true) rfl (Or.inl ⟨by kernel_rfl, fun X hX => by have h0 := keepC hX (unhide HY0); have h1 := keepC hX (unhide HY1); go_simp⟩) hS5 ?_
    refine uh 8 (.agg #[.int .i64 0, .slice none 0 0, .bool true, .pointer none]) hS5 ?_
    refine uq1 9 fun K hK => ?_
    go_simp
    refine Calls.mono (in_any oa true 0 none 0 0 true none we) ?_
    rintro e w6 ⟨⟨rfl, hk6⟩, hb6⟩
    have hS6 : Below w5.heap.size w5 w6 := hS5.trans (hb6.mono hS5.size)
    have hge := hS5.size
    refine hK.out _ _ (fun _ => hS6) ?_
    clear hK K
    refine uq1 10 fun K hK => ?_
    go_simp
    refine Calls.mono (unhide HTA w5 w6 _ (unhide HQ5) hS6 (by omega) hk6) ?_
    rintro e w9 ⟨rfl, hq9⟩
    refine hK.out _ _ (fun e => by cases e) ?_
    clear hK K
    refine udone (by kernel_rfl) ?_ _
    have HQ9 := hide hq9
    clear hq9 hS5 hS6 hk6 hb6 hge
    go_simp
    go_wp2_with fail
    exact bodyPost_ret (v := .tuple #[]) (by simp [results, Tryz.results68, go_sem]) rfl ⟨rfl, unhide HQ9⟩
  | false =>
    rw [Bool.false_or] at HTA HT1
    have hbA : Below w.heap.size w (w.alloc (.cells #[.pointer oa, .bool false] 112)) := (Below.refl _ _).alloc (Nat.le_refl _) _
    obtain ⟨w2, hw2⟩ : ∃ w2, w2 = w.alloc (.cells #[.pointer oa, .bool sb] 112) := ⟨_, rfl⟩
    have HB2 : Hid (Below w.heap.size w w2) := by show Below _ _ _; rw [hw2]; exact (Below.refl _ _).alloc (Nat.le_refl _) _
    have HP2 : Hid (w2.heap[w.heap.size]? = some (.cells #[.pointer oa, .bool sb] 112 (0, 0))) := by show _ = _; rw [hw2]; exact heap_new _ _
    have HW2 := hide hw2
    clear hw2
    go_enter Tryz.func68, Tryz.ntmps68
    go_wp2_with fail
    refine Calls.mono (unhide HST _ hbA) ?_
    rintro e wx ⟨rfl, hwx⟩
    rw [hwx]
    clear hwx wx
    go_wp2_with fail
    rw [← unhide HW2]
    have hs2 : w2.heap.size = w.heap.size + 1 := by rw [unhide HW2]; simp
    have HX0 : Hid (w2.cell? ⟨w.heap.size, 0, none⟩ = some (.pointer oa)) := by show _ = _; rw [cell_of (unhide HP2)]; rfl
    have HX1 : Hid (w2.cell? ⟨w.heap.size, 1, none⟩ = some (.bool sb)) := by show _ = _; rw [cell_of (unhide HP2)]; rfl
    have HK3 := hide (keepC (unhide HB2) (unhide HC3))
    have HE0 := hide (keepC (unhide HB2) (unhide HD0))
    have HE1 := hide (keepC (unhide HB2) (unhide HD1))
    obtain ⟨wd, hwd⟩ : ∃ wd, wd = w2.drew := ⟨_, rfl⟩
    have hS0 : Below w2.heap.size w2 wd := by rw [hwd]; exact (Below.refl _ _).drew
    have hsd : wd.heap.size = w2.heap.size := by rw [hwd]; rfl
    refine wp_region_U 8 (fun X => Below w2.heap.size w2 X) (by kernel_rfl) ?_
    rw [← hwd]
    have HSD := hide hsd
    clear hwd hsd
    refine uh 0 (sPtr tb) hS0 ?_
    refine uh 1 (nPtr p) hS0 ?_
    refine uh 2 (nPtr p) hS0 ?_
    refine uh 3 (.pointer (some ⟨p, 3, none⟩)) hS0 ?_
    refine uc 4 (.slice (some ⟨g, 0, none⟩) kn kc) rfl (Or.inl ⟨by kernel_rfl, fun X hX => by have h0 := keepC hX (unhide HK3); go_simp⟩) hS0 ?_
    refine uh 5 (.pointer (some ⟨g, 0, none⟩)) hS0 ?_
    refine uc 6 (nPtr q0) rfl (Or.inl ⟨by kernel_rfl, fun X hX => by have h0 := keepC hX (unhide HE0); go_simp⟩) hS0 ?_
    refine uc 7 (plV2 (.pointer oa) sb) rfl (Or.inl ⟨by kernel_rfl, fun X hX => by have h0 := keepC hX (unhide HX0); have h1 := keepC hX (unhide HX1); go_simp⟩) hS0 ?_
    refine uq1 8 fun K hK => ?_
    go_simp
    refine Calls.mono (unhide HT1 _ ((unhide HB2).trans (hS0.mono (unhide HB2).size))) ?_
    rintro e w5 ⟨rfl, hf5, hq5⟩
    refine hK.out _ _ (fun e => by cases e) ?_
    clear hK K
    refine udone (by kernel_rfl) ?_ _
    have hpd : w.heap.size < wd.heap.size := by have := unhide HSD; omega
    have HY0 : Hid (w5.cell? ⟨w.heap.size, 0, none⟩ = some (.pointer oa)) := (hf5.cell (Or.inr ⟨Nat.le_refl _, hpd⟩) hpd).trans (keepC hS0 (unhide HX0))
    have HY1 : Hid (w5.cell? ⟨w.heap.size, 1, none⟩ = some (.bool sb)) := (hf5.cell (Or.inr ⟨Nat.le_refl _, hpd⟩) hpd).trans (keepC hS0 (unhide HX1))
    have HZ3 : Hid (w5.cell? ⟨p, 3, none⟩ = some (.slice (some ⟨g, 0, none⟩) kn kc)) := (hf5.cell (Or.inl (unhide HIP)) (by omega)).trans (keepC hS0 (unhide HK3))
    have HZ1 : Hid (w5.cell? ⟨g, 1, none⟩ = some (nPtr q1)) := (hf5.cell (Or.inl (unhide HIG)) (by omega)).trans (keepC hS0 (unhide HE1))
    have HQ5 := hide hq5
    clear hf5 hq5 hS0 hpd HSD HX0 HX1 HK3 HE0 HE1 hs2 HB2 HP2 HW2
    go_simp
    go_wp2_with fail
    obtain ⟨we, hwe⟩ : ∃ we, we = w5.drew := ⟨_, rfl⟩
    have hS5 : Below w5.heap.size w5 we := by rw [hwe]; exact (Below.refl _ _).drew
    refine wp_region_U 10 (fun X => Below w5.heap.size w5 X) (by kernel_rfl) ?_
    rw [← hwe]
    clear hwe
    refine uh 0 (sPtr tb) hS5 ?_
    refine uh 1 (nPtr p) hS5 ?_
    refine uh 2 (nPtr p) hS5 ?_
    refine uh 3 (.pointer (some ⟨p, 3, none⟩)) hS5 ?_
    refine uc 4 (.slice (some ⟨g, 0, none⟩) kn kc) rfl (Or.inl ⟨by kernel_rfl, fun X hX => by have h0 := keepC hX (unhide HZ3); go_simp⟩) hS5 ?_
    refine uh 5 (.pointer (some ⟨g, 1, none⟩)) hS5 ?_
    refine uc 6 (nPtr q1) rfl (Or.inl ⟨by kernel_rfl, fun X hX => by have h0 := keepC hX (unhide HZ1); go_simp⟩) hS5 ?_
    refine uc 7 (plV2 (.pointer oa) sb) rfl (Or.inl ⟨by kernel_rfl, fun X hX => by have h0 := keepC hX (unhide HY0); have h1 := keepC hX (unhide HY1); go_simp⟩) hS5 ?_
    refine uh 8 (.agg #[.int .i64 0, .slice none 0 0, .bool true, .pointer none]) hS5 ?_
    refine uq1 9 fun K hK => ?_
    go_simp
    refine Calls.mono (in_any oa sb 0 none 0 0 true none we) ?_
    rintro e w6 ⟨⟨rfl, hk6⟩, hb6⟩
    have hS6 : Below w5.heap.size w5 w6 := hS5.trans (hb6.mono hS5.size)
    have hge := hS5.size
    refine hK.out _ _ (fun _ => hS6) ?_
    clear hK K
    refine uq1 10 fun K hK => ?_
    go_simp
    refine Calls.mono (unhide HTA w5 w6 _ (unhide HQ5) hS6 (by omega) hk6) ?_
    rintro e w9 ⟨rfl, hq9⟩
    refine hK.out _ _ (fun e => by cases e) ?_
    clear hK K
    refine udone (by kernel_rfl) ?_ _
    have HQ9 := hide hq9
    clear hq9 hS5 hS6 hk6 hb6 hge
    go_simp
    go_wp2_with fail
    exact bodyPost_ret (v := .tuple #[]) (by simp [results, Tryz.results68, go_sem]) rfl ⟨rfl, unhide HQ9⟩

theorem tlF (w : World) (p tb q1 : Nat) (oa : Option Addr) (st sb s2 : Bool) (g kn kc : Nat) (kd : Int) (ba : Option Addr) (bn bc : Nat) (R : World → World → Value → Prop) (Q : World → Prop) (c0 : w.cell? ⟨p, 0, none⟩ = some (.int .i64 kd)) (c3 : w.cell? ⟨p, 3, none⟩ = some (.slice (some ⟨g, 0, none⟩) kn kc)) (d1 : w.cell? ⟨g, 1, none⟩ = some (nPtr q1)) (f3 : w.cell? ⟨q1, 3, none⟩ = some (.slice ba bn bc)) (hkn : 2 ≤ kn) (hkd : kd = 5 ∨ kd = 37)
    (hst : ∀ X, Below w.heap.size w X → Calls Tryz.prog 118 #[nPtr p] X fun e w' => e = .returned (.bool sb) ∧ w' = X)
    (hfn : ∀ X, Below w.heap.size w X → Calls Tryz.prog 128 #[sPtr tb, nPtr p, plV2 (.pointer oa) (st || sb)] X fun e w' => (∃ v', e = .returned (plV2 v' s2) ∧ R X w' v') ∧ Below X.heap.size X w')
    (hta : ∀ X Y v', Below w.heap.size w X → R X Y v' → Below X.heap.size X Y → Calls Tryz.prog 127 #[sPtr tb, .slice ba bn bc, plV2 v' s2] Y fun e w' => e = .returned (.tuple #[]) ∧ Q w') :
    Calls Tryz.prog 68 #[sPtr tb, nPtr p, plV2 (.pointer oa) st] w fun e w' => e = .returned (.tuple #[]) ∧ Q w' := by
  have hpl := cell_lt c0
  have hgl := cell_lt d1
  have hql := cell_lt f3
  have hn0 : ¬ kn = 0 := by omega
  have hn1 : ¬ (kn : Int) ≤ 1 := by omega
  have HC3 := hide c3
  have HD1 := hide d1
  have HF3 := hide f3
  have HST := hide hst
  have HFN := hide hfn
  have HTA := hide hta
  clear hst hta hfn c3 d1 f3 hkn
  rcases hkd with rfl | rfl
  · cases st with
    | true =>
      rw [Bool.true_or] at HFN
      have hbA : Below w.heap.size w (w.alloc (.cells #[.pointer oa, .bool true] 112)) := (Below.refl _ _).alloc (Nat.le_refl _) _
      obtain ⟨w2, hw2⟩ : ∃ w2, w2 = w.alloc (.cells #[.pointer oa, .bool true] 112) := ⟨_, rfl⟩
      have HB2 : Hid (Below w.heap.size w w2) := by show Below _ _ _; rw [hw2]; exact (Below.refl _ _).alloc (Nat.le_refl _) _
      have HP2 : Hid (w2.heap[w.heap.size]? = some (.cells #[.pointer oa, .bool true] 112 (0, 0))) := by show _ = _; rw [hw2]; exact heap_new _ _
      have HW2 := hide hw2
      clear hw2
      go_enter Tryz.func68, Tryz.ntmps68
      go_wp2_with fail
      rw [← unhide HW2]
      have HX0 : Hid (w2.cell? ⟨w.heap.size, 0, none⟩ = some (.pointer oa)) := by show _ = _; rw [cell_of (unhide HP2)]; rfl
      have HX1 : Hid (w2.cell? ⟨w.heap.size, 1, none⟩ = some (.bool true)) := by show _ = _; rw [cell_of (unhide HP2)]; rfl
      have HK3 := hide (keepC (unhide HB2) (unhide HC3))
      have HE1 := hide (keepC (unhide HB2) (unhide HD1))
      have HG3 := hide (keepC (unhide HB2) (unhide HF3))
      obtain ⟨wd, hwd⟩ : ∃ wd, wd = w2.drew := ⟨_, rfl⟩
      have hS0 : Below w2.heap.size w2 wd := by rw [hwd]; exact (Below.refl _ _).drew
      refine wp_region_U 14 (fun X => Below w2.heap.size w2 X) (by kernel_rfl) ?_
      rw [← hwd]
      clear hwd
      refine uh 0 (sPtr tb) hS0 ?_
      refine uh 1 (nPtr p) hS0 ?_
      refine uh 2 (nPtr p) hS0 ?_
      refine uh 3 (.pointer (some ⟨p, 3, none⟩)) hS0 ?_
      refine uc 4 (.slice (some ⟨g, 0, none⟩) kn kc) rfl (Or.inl ⟨by kernel_rfl, fun X hX => by have h0 := keepC hX (unhide HK3); go_simp⟩) hS0 ?_
      refine uh 5 (.pointer (some ⟨g, 1, none⟩)) hS0 ?_
      refine uc 6 (nPtr q1) rfl (Or.inl ⟨by kernel_rfl, fun X hX => by have h0 := keepC hX (unhide HE1); go_simp⟩) hS0 ?_
      refine uh 7 (nPtr q1) hS0 ?_
      refine uh 8 (.pointer (some ⟨q1, 3, none⟩)) hS0 ?_
      refine uc 9 (.slice ba bn bc) rfl (Or.inl ⟨by kernel_rfl, fun X hX => by have h0 := keepC hX (unhide HG3); go_simp⟩) hS0 ?_
      refine uh 10 (sPtr tb) hS0 ?_
      refine uh 11 (nPtr p) hS0 ?_
      refine uc 12 (plV2 (.pointer oa) true) rfl (Or.inl ⟨by kernel_rfl, fun X hX => by have h0 := keepC hX (unhide HX0); have h1 := keepC hX (unhide HX1); go_simp⟩) hS0 ?_
      refine uq1 13 fun K hK => ?_
      go_simp
      refine Calls.mono (unhide HFN _ ((unhide HB2).trans (hS0.mono (unhide HB2).size))) ?_
      rintro e w6 ⟨⟨v6, rfl, hr6⟩, hb6⟩
      have hS6 : Below w2.heap.size w2 w6 := hS0.trans (hb6.mono hS0.size)
      refine hK.out _ _ (fun _ => hS6) ?_
      clear hK K
      refine uq1 14 fun K hK => ?_
      go_simp
      refine Calls.mono (unhide HTA wd w6 v6 ((unhide HB2).trans (hS0.mono (unhide HB2).size)) hr6 hb6) ?_
      rintro e w9 ⟨rfl, hq9⟩
      refine hK.out _ _ (fun e => by cases e) ?_
      clear hK K
      refine udone (by kernel_rfl) ?_ _
      have HQ9 := hide hq9
      clear hq9 hS0 hS6 hr6 hb6
      go_simp
      go_wp2_with fail
      exact bodyPost_ret (v := .tuple #[]) (by simp [results, Tryz.results68, go_sem]) rfl ⟨rfl, unhide HQ9⟩
    | false =>
      rw [Bool.false_or] at HFN
      have hbA : Below w.heap.size w (w.alloc (.cells #[.pointer oa, .bool false] 112)) := (Below.refl _ _).alloc (Nat.le_refl _) _
      obtain ⟨w2, hw2⟩ : ∃ w2, w2 = w.alloc (.cells #[.pointer oa, .bool sb] 112) := ⟨_, rfl⟩
      have HB2 : Hid (Below w.heap.size w w2) := by show Below _ _ _; rw [hw2]; exact (Below.refl _ _).alloc (Nat.le_refl _) _
      have HP2 : Hid (w2.heap[w.heap.size]? = some (.cells #[.pointer oa, .bool sb] 112 (0, 0))) := by show _ = _; rw [hw2]; exact heap_new _ _
      have HW2 := hide hw2
      clear hw2
      go_enter Tryz.func68, Tryz.ntmps68
      go_wp2_with fail
      refine Calls.mono (unhide HST _ hbA) ?_
      rintro e wx ⟨rfl, hwx⟩
      rw [hwx]
      clear hwx wx
      go_wp2_with fail
      rw [← unhide HW2]
      have HX0 : Hid (w2.cell? ⟨w.heap.size, 0, none⟩ = some (.pointer oa)) := by show _ = _; rw [cell_of (unhide HP2)]; rfl
      have HX1 : Hid (w2.cell? ⟨w.heap.size, 1, none⟩ = some (.bool sb)) := by show _ = _; rw [cell_of (unhide HP2)]; rfl
      have HK3 := hide (keepC (unhide HB2) (unhide HC3))
      have HE1 := hide (keepC (unhide HB2) (unhide HD1))
      have HG3 := hide (keepC (unhide HB2) (unhide HF3))
      obtain ⟨wd, hwd⟩ : ∃ wd, wd = w2.drew := ⟨_, rfl⟩
      have hS0 : Below w2.heap.size w2 wd := by rw [hwd]; exact (Below.refl _ _).drew
      refine wp_region_U 14 (fun X => Below w2.heap.size w2 X) (by kernel_rfl) ?_
      rw [← hwd]
      clear hwd
      refine uh 0 (sPtr tb) hS0 ?_
      refine uh 1 (nPtr p) hS0 ?_
      refine uh 2 (nPtr p) hS0 ?_
      refine uh 3 (.pointer (some ⟨p, 3, none⟩)) hS0 ?_
      refine uc 4 (.slice (some ⟨g, 0, none⟩) kn kc) rfl (Or.inl ⟨by kernel_rfl, fun X hX => by have h0 := keepC hX (unhide HK3); go_simp⟩) hS0 ?_
      refine uh 5 (.pointer (some ⟨g, 1, none⟩)) hS0 ?_
      refine uc 6 (nPtr q1) rfl (Or.inl ⟨by kernel_rfl, fun X hX => by have h0 := keepC hX (unhide HE1); go_simp⟩) hS0 ?_
      refine uh 7 (nPtr q1) hS0 ?_
      refine uh 8 (.pointer (some ⟨q1, 3, none⟩)) hS0 ?_
      refine uc 9 (.slice ba bn bc) rfl (Or.inl ⟨by kernel_rfl, fun X hX => by have h0 := keepC hX (unhide HG3); go_simp⟩) hS0 ?_
      refine uh 10 (sPtr tb) hS0 ?_
      refine uh 11 (nPtr p) hS0 ?_
      refine uc 12 (plV2 (.pointer oa) sb) rfl (Or.inl ⟨by kernel_rfl, fun X hX => by have h0 := keepC hX (unhide HX0); have h1 := keepC hX (unhide HX1); go_simp⟩) hS0 ?_
      refine uq1 13 fun K hK => ?_
      go_simp
      refine Calls.mono (unhide HFN _ ((unhide HB2).trans (hS0.mono (unhide HB2).size))) ?_
      rintro e w6 ⟨⟨v6, rfl, hr6⟩, hb6⟩
      have hS6 : Below w2.heap.size w2 w6 := hS0.trans (hb6.mono hS0.size)
      refine hK.out _ _ (fun _ => hS6) ?_
      clear hK K
      refine uq1 14 fun K hK => ?_
      go_simp
      refine Calls.mono (unhide HTA wd w6 v6 ((unhide HB2).trans (hS0.mono (unhide HB2).size)) hr6 hb6) ?_
      rintro e w9 ⟨rfl, hq9⟩
      refine hK.out _ _ (fun e => by cases e) ?_
      clear hK K
      refine udone (by kernel_rfl) ?_ _
      have HQ9 := hide hq9
      clear hq9 hS0 hS6 hr6 hb6
      go_simp
      go_wp2_with fail
      exact bodyPost_ret (v := .tuple #[]) (by simp [results, Tryz.results68, go_sem]) rfl ⟨rfl, unhide HQ9⟩
  · cases st with
    | true =>
      rw [Bool.true_or] at HFN
      have hbA : Below w.heap.size w (w.alloc (.cells #[.pointer oa, .bool true] 112)) := (Below.refl _ _).alloc (Nat.le_refl _) _
      obtain ⟨w2, hw2⟩ : ∃ w2, w2 = w.alloc (.cells #[.pointer oa, .bool true] 112) := ⟨_, rfl⟩
      have HB2 : Hid (Below w.heap.size w w2) := by show Below _ _ _; rw [hw2]; exact (Below.refl _ _).alloc (Nat.le_refl _) _
      have HP2 : Hid (w2.heap[w.heap.size]? = some (.cells #[.pointer oa, .bool true] 112 (0, 0))) := by show _ = _; rw [hw2]; exact heap_new _ _
      have HW2 := hide hw2
      clear hw2
      go_enter Tryz.func68, Tryz.ntmps68
      go_wp2_with fail
      rw [← unhide HW2]
      have HX0 : Hid (w2.cell? ⟨w.heap.size, 0, none⟩ = some (.pointer oa)) := by show _ = _; rw [cell_of (unhide HP2)]; rfl
      have HX1 : Hid (w2.cell? ⟨w.heap.size, 1, none⟩ = some (.bool true)) := by show _ = _; rw [cell_of (unhide HP2)]; rfl
      have HK3 := hide (keepC (unhide HB2) (unhide HC3))
      have HE1 := hide (keepC (unhide HB2) (unhide HD1))
      have HG3 := hide (keepC (unhide HB2) (unhide HF3))
      obtain ⟨wd, hwd⟩ : ∃ wd, wd = w2.drew := ⟨_, rfl⟩
      have hS0 : Below w2.heap.size w2 wd := by rw [hwd]; exact (Below.refl _ _).drew
      refine wp_region_U 14 (fun X => Below w2.heap.size w2 X) (by kernel_rfl) ?_
      rw [← hwd]
      clear hwd
      refine uh 0 (sPtr tb) hS0 ?_
      refine uh 1 (nPtr p) hS0 ?_
      refine uh 2 (nPtr p) hS0 ?_
      refine uh 3 (.pointer (some ⟨p, 3, none⟩)) hS0 ?_
      refine uc 4 (.slice (some ⟨g, 0, none⟩) kn kc) rfl (Or.inl ⟨by kernel_rfl, fun X hX => by have h0 := keepC hX (unhide HK3); go_simp⟩) hS0 ?_
      refine uh 5 (.pointer (some ⟨g, 1, none⟩)) hS0 ?_
      refine uc 6 (nPtr q1) rfl (Or.inl ⟨by kernel_rfl, fun X hX => by have h0 := keepC hX (unhide HE1); go_simp⟩) hS0 ?_
      refine uh 7 (nPtr q1) hS0 ?_
      refine uh 8 (.pointer (some ⟨q1, 3, none⟩)) hS0 ?_
      refine uc 9 (.slice ba bn bc) rfl (Or.inl ⟨by kernel_rfl, fun X hX => by have h0 := keepC hX (unhide HG3); go_simp⟩) hS0 ?_
      refine uh 10 (sPtr tb) hS0 ?_
      refine uh 11 (nPtr p) hS0 ?_
      refine uc 12 (plV2 (.pointer oa) true) rfl (Or.inl ⟨by kernel_rfl, fun X hX => by have h0 := keepC hX (unhide HX0); have h1 := keepC hX (unhide HX1); go_simp⟩) hS0 ?_
      refine uq1 13 fun K hK => ?_
      go_simp
      refine Calls.mono (unhide HFN _ ((unhide HB2).trans (hS0.mono (unhide HB2).size))) ?_
      rintro e w6 ⟨⟨v6, rfl, hr6⟩, hb6⟩
      have hS6 : Below w2.heap.size w2 w6 := hS0.trans (hb6.mono hS0.size)
      refine hK.out _ _ (fun _ => hS6) ?_
      clear hK K
      refine uq1 14 fun K hK => ?_
      go_simp
      refine Calls.mono (unhide HTA wd w6 v6 ((unhide HB2).trans (hS0.mono (unhide HB2).size)) hr6 hb6) ?_
      rintro e w9 ⟨rfl, hq9⟩
      refine hK.out _ _ (fun e => by cases e) ?_
      clear hK K
      refine udone (by kernel_rfl) ?_ _
      have HQ9 := hide hq9
      clear hq9 hS0 hS6 hr6 hb6
      go_simp
      go_wp2_with fail
      exact bodyPost_ret (v := .tuple #[]) (by simp [results, Tryz.results68, go_sem]) rfl ⟨rfl, unhide HQ9⟩
    | false =>
      rw [Bool.false_or] at HFN
      have hbA : Below w.heap.size w (w.alloc (.cells #[.pointer oa, .bool false] 112)) := (Below.refl _ _).alloc (Nat.le_refl _) _
      obtain ⟨w2, hw2⟩ : ∃ w2, w2 = w.alloc (.cells #[.pointer oa, .bool sb] 112) := ⟨_, rfl⟩
      have HB2 : Hid (Below w.heap.size w w2) := by show Below _ _ _; rw [hw2]; exact (Below.refl _ _).alloc (Nat.le_refl _) _
      have HP2 : Hid (w2.heap[w.heap.size]? = some (.cells #[.pointer oa, .bool sb] 112 (0, 0))) := by show _ = _; rw [hw2]; exact heap_new _ _
      have HW2 := hide hw2
      clear hw2
      go_enter Tryz.func68, Tryz.ntmps68
      go_wp2_with fail
      refine Calls.mono (unhide HST _ hbA) ?_
      rintro e wx ⟨rfl, hwx⟩
      rw [hwx]
      clear hwx wx
      go_wp2_with fail
      rw [← unhide HW2]
      have HX0 : Hid (w2.cell? ⟨w.heap.size, 0, none⟩ = some (.pointer oa)) := by show _ = _; rw [cell_of (unhide HP2)]; rfl
      have HX1 : Hid (w2.cell? ⟨w.heap.size, 1, none⟩ = some (.bool sb)) := by show _ = _; rw [cell_of (unhide HP2)]; rfl
      have HK3 := hide (keepC (unhide HB2) (unhide HC3))
      have HE1 := hide (keepC (unhide HB2) (unhide HD1))
      have HG3 := hide (keepC (unhide HB2) (unhide HF3))
      obtain ⟨wd, hwd⟩ : ∃ wd, wd = w2.drew := ⟨_, rfl⟩
      have hS0 : Below w2.heap.size w2 wd := by rw [hwd]; exact (Below.refl _ _).drew
      refine wp_region_U 14 (fun X => Below w2.heap.size w2 X) (by kernel_rfl) ?_
      rw [← hwd]
      clear hwd
      refine uh 0 (sPtr tb) hS0 ?_
      refine uh 1 (nPtr p) hS0 ?_
      refine uh 2 (nPtr p) hS0 ?_
      refine uh 3 (.pointer (some ⟨p, 3, none⟩)) hS0 ?_
      refine uc 4 (.slice (some ⟨g, 0, none⟩) kn kc) rfl (Or.inl ⟨by kernel_rfl, fun X hX => by have h0 := keepC hX (unhide HK3); go_simp⟩) hS0 ?_
      refine uh 5 (.pointer (some ⟨g, 1, none⟩)) hS0 ?_
      refine uc 6 (nPtr q1) rfl (Or.inl ⟨by kernel_rfl, fun X hX => by have h0 := keepC hX (unhide HE1); go_simp⟩) hS0 ?_
      refine uh 7 (nPtr q1) hS0 ?_
      refine uh 8 (.pointer (some ⟨q1, 3, none⟩)) hS0 ?_
      refine uc 9 (.slice ba bn bc) rfl (Or.inl ⟨by kernel_rfl, fun X hX => by have h0 := keepC hX (unhide HG3); go_simp⟩) hS0 ?_
      refine uh 10 (sPtr tb) hS0 ?_
      refine uh 11 (nPtr p) hS0 ?_
      refine uc 12 (plV2 (.pointer oa) sb) rfl (Or.inl ⟨by kernel_rfl, fun X hX => by have h0 := keepC hX (unhide HX0); have h1 := keepC hX (unhide HX1); go_simp⟩) hS0 ?_
      refine uq1 13 fun K hK => ?_
      go_simp
      refine Calls.mono (unhide HFN _ ((unhide HB2).trans (hS0.mono (unhide HB2).size))) ?_
      rintro e w6 ⟨⟨v6, rfl, hr6⟩, hb6⟩
      have hS6 : Below w2.heap.size w2 w6 := hS0.trans (hb6.mono hS0.size)
      refine hK.out _ _ (fun _ => hS6) ?_
      clear hK K
      refine uq1 14 fun K hK => ?_
      go_simp
      refine Calls.mono (unhide HTA wd w6 v6 ((unhide HB2).trans (hS0.mono (unhide HB2).size)) hr6 hb6) ?_
      rintro e w9 ⟨rfl, hq9⟩
      refine hK.out _ _ (fun e => by cases e) ?_
      clear hK K
      refine udone (by kernel_rfl) ?_ _
      have HQ9 := hide hq9
      clear hq9 hS0 hS6 hr6 hb6
      go_simp
      go_wp2_with fail
      exact bodyPost_ret (v := .tuple #[]) (by simp [results, Tryz.results68, go_sem]) rfl ⟨rfl, unhide HQ9⟩
end Go.Proofs.YtoimgcjbcbhclaaGreatDoor
