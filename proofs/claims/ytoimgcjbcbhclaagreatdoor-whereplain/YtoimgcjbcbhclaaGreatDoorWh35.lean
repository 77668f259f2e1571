/-
  tell: programs.
-/
import Derived.Test.YtoimgcjbcbhclaaGreatDoorWh34
import Derived.Test.YtoimgcjbcbhclaaGreatDoorWh30
set_option maxRecDepth 100000
set_option maxHeartbeats 16000000
namespace Go.Proofs.YtoimgcjbcbhclaaGreatDoor
open Go.RowKit

theorem tl1 (w : World) (p tb mb no : Nat) (oa : Option Addr) (st sb : Bool) (ka : Option Addr) (kn kc : Nat) (N : List ByteArray) (Q : World → Prop) (c0 : w.cell? ⟨p, 0, none⟩ = some (.int .i64 1)) (c3 : w.cell? ⟨p, 3, none⟩ = some (.slice ka kn kc))
    (t0 : w.cell? ⟨tb, 0, none⟩ = some (.map (some mb))) (hnum : ∀ X, Below w.heap.size w X → (Instr.lookup 44 (.map (some mb)) (nPtr p) false).run Tryz.prog X = .ok (.int .i64 (no : Int)) X)
    (hls : ∀ X, Below w.heap.size w X → Calls Tryz.prog 126 #[nPtr p] X fun e w' => (∃ u, e = .returned u ∧ Calls Tryz.prog 125 #[u] w' fun e w2 => (∃ u, e = .returned u ∧ SRow w'.heap.size w2 u N) ∧ Below w'.heap.size w' w2) ∧ Below X.heap.size X w')
    (hst : ∀ X, Below w.heap.size w X → Calls Tryz.prog 118 #[nPtr p] X fun e w' => e = .returned (.bool sb) ∧ w' = X)
    (hta : ∀ X b nv, Below w.heap.size w X → w.heap.size ≤ b → X.heap[b]? = some (scObj no nv false (.pointer oa)) → SRow w.heap.size X nv N → Calls Tryz.prog 127 #[sPtr tb, .slice ka kn kc, plV2 (sPtr b) (st || sb)] X fun e w' => e = .returned (.tuple #[]) ∧ Q w') :
    Calls Tryz.prog 68 #[sPtr tb, nPtr p, plV2 (.pointer oa) st] w fun e w' => e = .returned (.tuple #[]) ∧ Q w' := by
  have hpl := cell_lt c0
  have HC3 := hide c3
  have HST := hide hst
  have HTA := hide hta
  have HNUM := hide hnum
  have HT0 := hide t0
  have htl := cell_lt t0
  have HLS := hide hls
  clear hst hta hnum t0 hls
  cases st with
  | true =>
    rw [Bool.true_or] at HTA
    have hbA : Below w.heap.size w (w.alloc (.cells #[.pointer oa, .bool true] 112)) := (Below.refl _ _).alloc (Nat.le_refl _) _
    obtain ⟨w2, hw2⟩ : ∃ w2, w2 = w.alloc (.cells #[.pointer oa, .bool true] 112) := ⟨_, rfl⟩
    have HB2 : Hid (Below w.heap.size w w2) := by show Below _ _ _; rw [hw2]; exact (Below.refl _ _).alloc (Nat.le_refl _) _
    have HP2 : Hid (w2.heap[w.heap.size]? = some (.cells #[.pointer oa, .bool true] 112 (0, 0))) := by show _ = _; rw [hw2]; exact heap_new _ _
    have HW2 := hide hw2
    clear hw2
    go_enter Tryz.func68, Tryz.ntmps68
    go_wp2_with fail
    rw [← unhide HW2]
    have hs2 : w2.heap.size = w.heap.size + 1 := by rw [unhide HW2]; simp
    have HX0 : Hid (w2.cell? ⟨w.heap.size, 0, none⟩ = some (.pointer oa)) := by show _ = _; rw [cell_of (unhide HP2)]; rfl
    have HX1 : Hid (w2.cell? ⟨w.heap.size, 1, none⟩ = some (.bool true)) := by show _ = _; rw [cell_of (unhide HP2)]; rfl
    have HT2 : Hid (w2.cell? ⟨tb, 0, none⟩ = some (.map (some mb))) := keepC (unhide HB2) (unhide HT0)
    obtain ⟨wd, hwd⟩ : ∃ wd, wd = w2.drew := ⟨_, rfl⟩
    have hS0 : Below w2.heap.size w2 wd := by rw [hwd]; exact (Below.refl _ _).drew
    refine wp_region_U 12 (fun X => Below w2.heap.size w2 X) (by kernel_rfl) ?_
    rw [← hwd]
    clear hwd
    refine ug 0 (plV2 (.pointer oa) true) rfl (Or.inl ⟨by kernel_rfl, fun X hX => by have h0 := keepC hX (unhide HX0); have h1 := keepC hX (unhide HX1); go_simp⟩) hS0 ?_
    refine uh 1 (sPtr tb) hS0 ?_
    refine uh 2 (sPtr tb) hS0 ?_
    refine uh 3 (.pointer (some ⟨tb, 0, none⟩)) hS0 ?_
    refine ug 4 (.map (some mb)) rfl (Or.inl ⟨by kernel_rfl, fun X hX => by have h0 := keepC hX (unhide HT2); go_simp⟩) hS0 ?_
    refine uh 5 (nPtr p) hS0 ?_
    refine ug 6 (.int .i64 (no : Int)) rfl (Or.inl ⟨by kernel_rfl, fun X hX => by have h0 := unhide HNUM X ((unhide HB2).trans (hX.mono (unhide HB2).size)); go_simp⟩) hS0 ?_
    refine uh 7 (nPtr p) hS0 ?_
    refine uq1 8 fun K hK => ?_
    go_simp
    refine Calls.mono (unhide HLS _ ((unhide HB2).trans (hS0.mono (unhide HB2).size))) ?_
    rintro e wl ⟨⟨ul, rfl, hcl⟩, hbl⟩
    have hSl : Below w2.heap.size w2 wl := hS0.trans (hbl.mono hS0.size)
    refine hK.out _ _ (fun _ => hSl) ?_
    clear hK K hS0 hbl
    refine uq1 9 fun K hK => ?_
    go_simp
    refine Calls.mono hcl ?_
    rintro e w3 ⟨⟨u3, rfl, hr3'⟩, hb3⟩
    have hS3 : Below w2.heap.size w2 w3 := hSl.trans (hb3.mono hSl.size)
    have hr3 : SRow w2.heap.size w3 u3 N := srow_mono hr3' hSl.size
    obtain ⟨a3, c3', rfl⟩ := srow_form hr3
    refine hK.out _ _ (fun _ => hS3) ?_
    clear hK K hSl hb3 hr3' hcl
    refine uh 10 (.agg #[.int .i64 (no : Int), .slice a3 N.length c3', .bool false, .pointer none]) hS3 ?_
    refine uq1 11 fun K hK => ?_
    go_simp
    refine Calls.mono (in_any oa true no a3 N.length c3' false none w3) ?_
    rintro e w4 ⟨⟨rfl, hk4⟩, hb4⟩
    have hS4 : Below w2.heap.size w2 w4 := hS3.trans (hb4.mono hS3.size)
    have hr4 := SRow.later hr3 hb4
    obtain ⟨b2, hb2e⟩ : ∃ b2, b2 = w3.heap.size + 1 := ⟨_, rfl⟩
    have hb2g : w2.heap.size ≤ b2 := by rw [hb2e]; have := hS3.size; omega
    rw [← hb2e] at hk4 ⊢
    have hp4 : w4.heap[w.heap.size]? = some (.cells #[.pointer oa, .bool true] 112 (0, 0)) := by rw [hS4.block _ (by omega)]; exact unhide HP2
    have q0' : w4.cell? ⟨w.heap.size, 0, none⟩ = some (.pointer oa) := by rw [cell_of hp4]; rfl
    have q1' : w4.cell? ⟨w.heap.size, 1, none⟩ = some (.bool true) := by rw [cell_of hp4]; rfl
    have qf := frozen_of hp4
    have hrl := lt_of_heap hp4
    refine hK.out _ _ (fun _ => hS4) ?_
    clear hK K hb2e
    refine uq1 12 fun K hK => ?_
    go_simp
    refine hK.out _ _ (fun e => by cases e) ?_
    clear hK K
    refine udone (by kernel_rfl) ?_ _
    go_simp
    obtain ⟨wz, hwz⟩ : ∃ wz, wz = (w4.setCell ⟨w.heap.size, 0, none⟩ (sPtr b2)).setCell ⟨w.heap.size, 1, none⟩ (.bool true) := ⟨_, rfl⟩
    rw [← hwz]
    have hset : ∀ k, k ≠ w.heap.size → wz.heap[k]? = w4.heap[k]? := fun k hk => by rw [hwz, ne_set hk, ne_set hk]
    have HPZ : Hid (wz.heap[w.heap.size]? = some (.cells #[sPtr b2, .bool true] 112 (0, 0))) := by show _ = _; rw [hwz, heap_set (heap_set hp4 _)]; rfl
    have HBZ : Hid (Below w.heap.size w wz) := by
      show Below _ _ _
      rw [hwz]
      exact (((unhide HB2).trans (hS4.mono (unhide HB2).size)).setCell (p := ⟨w.heap.size, 0, none⟩) (Nat.le_refl _) _).setCell (p := ⟨w.heap.size, 1, none⟩) (Nat.le_refl _) _
    have HLB : Hid (wz.heap[b2]? = some (scObj no (.slice a3 N.length c3') false (.pointer oa))) := (hset _ (by omega)).trans hk4
    have HLR : Hid (SRow w.heap.size wz (.slice a3 N.length c3') N) := srow_mono (owns_stay (I := fun b => w2.heap.size ≤ b) (fun b hb _ => hset b (by have h1 : w2.heap.size ≤ b := hb; omega)) (fun b hb => (own_lt hr4 b hb).2) hr4) (by omega)
    have HB2L : Hid (w.heap.size ≤ b2) := by show _ ≤ _; omega
    clear hwz hset hk4 hS4 hr4 hp4 q0' q1' qf hrl hb4 HX0 HX1 HT2 HB2 HP2 hs2 hS3 hb2g hr3 HW2
    go_wp2_with fail
    have HX0 : Hid (wz.cell? ⟨w.heap.size, 0, none⟩ = some (sPtr b2)) := by show _ = _; rw [cell_of (unhide HPZ)]; rfl
    have HX1 : Hid (wz.cell? ⟨w.heap.size, 1, none⟩ = some (.bool true)) := by show _ = _; rw [cell_of (unhide HPZ)]; rfl
    have HK3 : Hid (wz.cell? ⟨p, 3, none⟩ = some (.slice ka kn kc)) := keepC (unhide HBZ) (unhide HC3)
    have hS0 : Below wz.heap.size wz wz.drew := (Below.refl _ _).drew
    refine wp_region_U 6 (fun X => Below wz.heap.size wz X) (by kernel_rfl) ?_
    refine uh 0 (sPtr tb) hS0 ?_
    refine uh 1 (nPtr p) hS0 ?_
    refine uh 2 (nPtr p) hS0 ?_
    refine uh 3 (.pointer (some ⟨p, 3, none⟩)) hS0 ?_
    refine ug 4 (.slice ka kn kc) rfl (Or.inl ⟨by kernel_rfl, fun X hX => by have h0 := keepC hX (unhide HK3); go_simp⟩) hS0 ?_
    refine ug 5 (plV2 (sPtr b2) true) rfl (Or.inl ⟨by kernel_rfl, fun X hX => by have h0 := keepC hX (unhide HX0); have h1 := keepC hX (unhide HX1); go_simp⟩) hS0 ?_
    refine uq1 6 fun K hK => ?_
    go_simp
    refine Calls.mono (unhide HTA _ b2 _ ((unhide HBZ).trans ((Below.refl _ _).drew.mono (unhide HBZ).size)) (unhide HB2L) (unhide HLB) (unhide HLR)) ?_
    rintro e w9 ⟨rfl, hq9⟩
    refine hK.out _ _ (fun e => by cases e) ?_
    clear hK K
    refine udone (by kernel_rfl) ?_ _
    have HQ9 := hide hq9
    clear hq9 hS0
    go_simp
    go_end0
    exact ⟨rfl, unhide HQ9⟩
  | false =>
    rw [Bool.false_or] at HTA
    have hbA : Below w.heap.size w (w.alloc (.cells #[.pointer oa, .bool false] 112)) := (Below.refl _ _).alloc (Nat.le_refl _) _
    obtain ⟨w2, hw2⟩ : ∃ w2, w2 = w.alloc (.cells #[.pointer oa, .bool sb] 112) := ⟨_, rfl⟩
    have HB2 : Hid (Below w.heap.size w w2) := by show Below _ _ _; rw [hw2]; exact (Below.refl _ _).alloc (Nat.le_refl _) _
    have HP2 : Hid (w2.heap[w.heap.size]? = some (.cells #[.pointer oa, .bool sb] 112 (0, 0))) := by show _ = _; rw [hw2]; exact heap_new _ _
    have HW2 := hide hw2
    clear hw2
    go_enter Tryz.func68, Tryz.ntmps68
    go_wp2_with fail
    refine Calls.mono (unhide HST _ hbA) ?_
    rintro e wx ⟨rfl, hwx⟩
    rw [hwx]
    clear hwx wx
    go_wp2_with fail
    rw [← unhide HW2]
    have hs2 : w2.heap.size = w.heap.size + 1 := by rw [unhide HW2]; simp
    have HX0 : Hid (w2.cell? ⟨w.heap.size, 0, none⟩ = some (.pointer oa)) := by show _ = _; rw [cell_of (unhide HP2)]; rfl
    have HX1 : Hid (w2.cell? ⟨w.heap.size, 1, none⟩ = some (.bool sb)) := by show _ = _; rw [cell_of (unhide HP2)]; rfl
    have HT2 : Hid (w2.cell? ⟨tb, 0, none⟩ = some (.map (some mb))) := keepC (unhide HB2) (unhide HT0)
    obtain ⟨wd, hwd⟩ : ∃ wd, wd = w2.drew := ⟨_, rfl⟩
    have hS0 : Below w2.heap.size w2 wd := by rw [hwd]; exact (Below.refl _ _).drew
    refine wp_region_U 12 (fun X => Below w2.heap.size w2 X) (by kernel_rfl) ?_
    rw [← hwd]
    clear hwd
    refine ug 0 (plV2 (.pointer oa) sb) rfl (Or.inl ⟨by kernel_rfl, fun X hX => by have h0 := keepC hX (unhide HX0); have h1 := keepC hX (unhide HX1); go_simp⟩) hS0 ?_
    refine uh 1 (sPtr tb) hS0 ?_
    refine uh 2 (sPtr tb) hS0 ?_
    refine uh 3 (.pointer (some ⟨tb, 0, none⟩)) hS0 ?_
    refine ug 4 (.map (some mb)) rfl (Or.inl ⟨by kernel_rfl, fun X hX => by have h0 := keepC hX (unhide HT2); go_simp⟩) hS0 ?_
    refine uh 5 (nPtr p) hS0 ?_
    refine ug 6 (.int .i64 (no : Int)) rfl (Or.inl ⟨by kernel_rfl, fun X hX => by have h0 := unhide HNUM X ((unhide HB2).trans (hX.mono (unhide HB2).size)); go_simp⟩) hS0 ?_
    refine uh 7 (nPtr p) hS0 ?_
    refine uq1 8 fun K hK => ?_
    go_simp
    refine Calls.mono (unhide HLS _ ((unhide HB2).trans (hS0.mono (unhide HB2).size))) ?_
    rintro e wl ⟨⟨ul, rfl, hcl⟩, hbl⟩
    have hSl : Below w2.heap.size w2 wl := hS0.trans (hbl.mono hS0.size)
    refine hK.out _ _ (fun _ => hSl) ?_
    clear hK K hS0 hbl
    refine uq1 9 fun K hK => ?_
    go_simp
    refine Calls.mono hcl ?_
    rintro e w3 ⟨⟨u3, rfl, hr3'⟩, hb3⟩
    have hS3 : Below w2.heap.size w2 w3 := hSl.trans (hb3.mono hSl.size)
    have hr3 : SRow w2.heap.size w3 u3 N := srow_mono hr3' hSl.size
    obtain ⟨a3, c3', rfl⟩ := srow_form hr3
    refine hK.out _ _ (fun _ => hS3) ?_
    clear hK K hSl hb3 hr3' hcl
    refine uh 10 (.agg #[.int .i64 (no : Int), .slice a3 N.length c3', .bool false, .pointer none]) hS3 ?_
    refine uq1 11 fun K hK => ?_
    go_simp
    refine Calls.mono (in_any oa sb no a3 N.length c3' false none w3) ?_
    rintro e w4 ⟨⟨rfl, hk4⟩, hb4⟩
    have hS4 : Below w2.heap.size w2 w4 := hS3.trans (hb4.mono hS3.size)
    have hr4 := SRow.later hr3 hb4
    obtain ⟨b2, hb2e⟩ : ∃ b2, b2 = w3.heap.size + 1 := ⟨_, rfl⟩
    have hb2g : w2.heap.size ≤ b2 := by rw [hb2e]; have := hS3.size; omega
    rw [← hb2e] at hk4 ⊢
    have hp4 : w4.heap[w.heap.size]? = some (.cells #[.pointer oa, .bool sb] 112 (0, 0)) := by rw [hS4.block _ (by omega)]; exact unhide HP2
    have q0' : w4.cell? ⟨w.heap.size, 0, none⟩ = some (.pointer oa) := by rw [cell_of hp4]; rfl
    have q1' : w4.cell? ⟨w.heap.size, 1, none⟩ = some (.bool sb) := by rw [cell_of hp4]; rfl
    have qf := frozen_of hp4
    have hrl := lt_of_heap hp4
    refine hK.out _ _ (fun _ => hS4) ?_
    clear hK K hb2e
    refine uq1 12 fun K hK => ?_
    go_simp
    refine hK.out _ _ (fun e => by cases e) ?_
    clear hK K
    refine udone (by kernel_rfl) ?_ _
    go_simp
    obtain ⟨wz, hwz⟩ : ∃ wz, wz = (w4.setCell ⟨w.heap.size, 0, none⟩ (sPtr b2)).setCell ⟨w.heap.size, 1, none⟩ (.bool sb) := ⟨_, rfl⟩
    rw [← hwz]
    have hset : ∀ k, k ≠ w.heap.size → wz.heap[k]? = w4.heap[k]? := fun k hk => by rw [hwz, ne_set hk, ne_set hk]
    have HPZ : Hid (wz.heap[w.heap.size]? = some (.cells #[sPtr b2, .bool sb] 112 (0, 0))) := by show _ = _; rw [hwz, heap_set (heap_set hp4 _)]; rfl
    have HBZ : Hid (Below w.heap.size w wz) := by
      show Below _ _ _
      rw [hwz]
      exact (((unhide HB2).trans (hS4.mono (unhide HB2).size)).setCell (p := ⟨w.heap.size, 0, none⟩) (Nat.le_refl _) _).setCell (p := ⟨w.heap.size, 1, none⟩) (Nat.le_refl _) _
    have HLB : Hid (wz.heap[b2]? = some (scObj no (.slice a3 N.length c3') false (.pointer oa))) := (hset _ (by omega)).trans hk4
    have HLR : Hid (SRow w.heap.size wz (.slice a3 N.length c3') N) := srow_mono (owns_stay (I := fun b => w2.heap.size ≤ b) (fun b hb _ => hset b (by have h1 : w2.heap.size ≤ b := hb; omega)) (fun b hb => (own_lt hr4 b hb).2) hr4) (by omega)
    have HB2L : Hid (w.heap.size ≤ b2) := by show _ ≤ _; omega
    clear hwz hset hk4 hS4 hr4 hp4 q0' q1' qf hrl hb4 HX0 HX1 HT2 HB2 HP2 hs2 hS3 hb2g hr3 HW2
    go_wp2_with fail
    have HX0 : Hid (wz.cell? ⟨w.heap.size, 0, none⟩ = some (sPtr b2)) := by show _ = _; rw [cell_of (unhide HPZ)]; rfl
    have HX1 : Hid (wz.cell? ⟨w.heap.size, 1, none⟩ = some (.bool sb)) := by show _ = _; rw [cell_of (unhide HPZ)]; rfl
    have HK3 : Hid (wz.cell? ⟨p, 3, none⟩ = some (.slice ka kn kc)) := keepC (unhide HBZ) (unhide HC3)
    have hS0 : Below wz.heap.size wz wz.drew := (Below.refl _ _).drew
    refine wp_region_U 6 (fun X => Below wz.heap.size wz X) (by kernel_rfl) ?_
    refine uh 0 (sPtr tb) hS0 ?_
    refine uh 1 (nPtr p) hS0 ?_
    refine uh 2 (nPtr p) hS0 ?_
    refine uh 3 (.pointer (some ⟨p, 3, none⟩)) hS0 ?_
    refine ug 4 (.slice ka kn kc) rfl (Or.inl ⟨by kernel_rfl, fun X hX => by have h0 := keepC hX (unhide HK3); go_simp⟩) hS0 ?_
    refine ug 5 (plV2 (sPtr b2) sb) rfl (Or.inl ⟨by kernel_rfl, fun X hX => by have h0 := keepC hX (unhide HX0); have h1 := keepC hX (unhide HX1); go_simp⟩) hS0 ?_
    refine uq1 6 fun K hK => ?_
    go_simp
    refine Calls.mono (unhide HTA _ b2 _ ((unhide HBZ).trans ((Below.refl _ _).drew.mono (unhide HBZ).size)) (unhide HB2L) (unhide HLB) (unhide HLR)) ?_
    rintro e w9 ⟨rfl, hq9⟩
    refine hK.out _ _ (fun e => by cases e) ?_
    clear hK K
    refine udone (by kernel_rfl) ?_ _
    have HQ9 := hide hq9
    clear hq9 hS0
    go_simp
    go_end0
    exact ⟨rfl, unhide HQ9⟩

theorem tl13 (w : World) (p tb mb no : Nat) (oa : Option Addr) (st sb : Bool) (ka : Option Addr) (kn kc : Nat) (tx : ByteArray) (Q : World → Prop) (c0 : w.cell? ⟨p, 0, none⟩ = some (.int .i64 13)) (c3 : w.cell? ⟨p, 3, none⟩ = some (.slice ka kn kc))
    (t0 : w.cell? ⟨tb, 0, none⟩ = some (.map (some mb))) (hnum : ∀ X, Below w.heap.size w X → (Instr.lookup 44 (.map (some mb)) (nPtr p) false).run Tryz.prog X = .ok (.int .i64 (no : Int)) X) (c1 : w.cell? ⟨p, 1, none⟩ = some (.string tx))
    (hst : ∀ X, Below w.heap.size w X → Calls Tryz.prog 118 #[nPtr p] X fun e w' => e = .returned (.bool sb) ∧ w' = X)
    (hta : ∀ X b nv, Below w.heap.size w X → w.heap.size ≤ b → X.heap[b]? = some (scObj no nv false (.pointer oa)) → SRow w.heap.size X nv [tx] → Calls Tryz.prog 127 #[sPtr tb, .slice ka kn kc, plV2 (sPtr b) (st || sb)] X fun e w' => e = .returned (.tuple #[]) ∧ Q w') :
    Calls Tryz.prog 68 #[sPtr tb, nPtr p, plV2 (.pointer oa) st] w fun e w' => e = .returned (.tuple #[]) ∧ Q w' := by
  have hpl := cell_lt c0
  have HC3 := hide c3
  have HST := hide hst
  have HTA := hide hta
  have HNUM := hide hnum
  have HT0 := hide t0
  have htl := cell_lt t0
  have HC1 := hide c1
  clear hst hta hnum t0 c1
  cases st with
  | true =>
    rw [Bool.true_or] at HTA
    have hbA : Below w.heap.size w (w.alloc (.cells #[.pointer oa, .bool true] 112)) := (Below.refl _ _).alloc (Nat.le_refl _) _
    obtain ⟨w2, hw2⟩ : ∃ w2, w2 = w.alloc (.cells #[.pointer oa, .bool true] 112) := ⟨_, rfl⟩
    have HB2 : Hid (Below w.heap.size w w2) := by show Below _ _ _; rw [hw2]; exact (Below.refl _ _).alloc (Nat.le_refl _) _
    have HP2 : Hid (w2.heap[w.heap.size]? = some (.cells #[.pointer oa, .bool true] 112 (0, 0))) := by show _ = _; rw [hw2]; exact heap_new _ _
    have HW2 := hide hw2
    clear hw2
    go_enter Tryz.func68, Tryz.ntmps68
    go_wp2_with fail
    rw [← unhide HW2]
    have hs2 : w2.heap.size = w.heap.size + 1 := by rw [unhide HW2]; simp
    have HX0 : Hid (w2.cell? ⟨w.heap.size, 0, none⟩ = some (.pointer oa)) := by show _ = _; rw [cell_of (unhide HP2)]; rfl
    have HX1 : Hid (w2.cell? ⟨w.heap.size, 1, none⟩ = some (.bool true)) := by show _ = _; rw [cell_of (unhide HP2)]; rfl
    have HT2 : Hid (w2.cell? ⟨tb, 0, none⟩ = some (.map (some mb))) := keepC (unhide HB2) (unhide HT0)
    have HC2 : Hid (w2.cell? ⟨p, 1, none⟩ = some (.string tx)) := keepC (unhide HB2) (unhide HC1)
    obtain ⟨wd, hwd⟩ : ∃ wd, wd = w2.drew := ⟨_, rfl⟩
    have hS0 : Below w2.heap.size w2 wd := by rw [hwd]; exact (Below.refl _ _).drew
    refine wp_region_U 14 (fun X => Below w2.heap.size w2 X) (by kernel_rfl) ?_
    rw [← hwd]
    clear hwd
    refine ug 0 (plV2 (.pointer oa) true) rfl (Or.inl ⟨by kernel_rfl, fun X hX => by have h0 := keepC hX (unhide HX0); have h1 := keepC hX (unhide HX1); go_simp⟩) hS0 ?_
    refine uh 1 (sPtr tb) hS0 ?_
    refine uh 2 (sPtr tb) hS0 ?_
    refine uh 3 (.pointer (some ⟨tb, 0, none⟩)) hS0 ?_
    refine ug 4 (.map (some mb)) rfl (Or.inl ⟨by kernel_rfl, fun X hX => by have h0 := keepC hX (unhide HT2); go_simp⟩) hS0 ?_
    refine uh 5 (nPtr p) hS0 ?_
    refine ug 6 (.int .i64 (no : Int)) rfl (Or.inl ⟨by kernel_rfl, fun X hX => by have h0 := unhide HNUM X ((unhide HB2).trans (hX.mono (unhide HB2).size)); go_simp⟩) hS0 ?_
    refine uh 7 (nPtr p) hS0 ?_
    refine uh 8 (nPtr p) hS0 ?_
    refine uh 9 (.pointer (some ⟨p, 1, none⟩)) hS0 ?_
    refine ug 10 (.string tx) rfl (Or.inl ⟨by kernel_rfl, fun X hX => by have h0 := keepC hX (unhide HC2); go_simp⟩) hS0 ?_
    refine uq1 11 fun K hK => ?_
    go_simp
    have hS3' : Below w2.heap.size w2 (wd.alloc (.cells #[.string tx] 9)) := hS0.alloc hS0.size _
    have hr3' : SRow w2.heap.size (wd.alloc (.cells #[.string tx] 9)) (.slice (some ⟨wd.heap.size, 0, none⟩) 1 1) [tx] := ⟨rfl, Or.inr ⟨wd.heap.size, 1, #[.string tx], rfl, hS0.size, heap_new _ _, Nat.le_refl _, by decide, rfl, rfl⟩⟩
    refine hK.out _ _ (fun _ => hS3') ?_
    clear hK K
    obtain ⟨w3, hw3⟩ : ∃ w3, w3 = wd.alloc (.cells #[.string tx] 9) := ⟨_, rfl⟩
    obtain ⟨a3, ha3⟩ : ∃ a3 : Option Addr, a3 = some ⟨wd.heap.size, 0, none⟩ := ⟨_, rfl⟩
    have hS3 : Below w2.heap.size w2 w3 := by rw [hw3]; exact hS3'
    have hr3 : SRow w2.heap.size w3 (.slice a3 [tx].length 1) [tx] := by rw [hw3, ha3]; exact hr3'
    rw [← hw3, ← ha3]
    clear hw3 ha3 hS3' hr3' hS0
    refine uh 12 (.agg #[.int .i64 (no : Int), .slice a3 [tx].length 1, .bool false, .pointer none]) hS3 ?_
    refine uq1 13 fun K hK => ?_
    go_simp
    refine Calls.mono (in_any oa true no a3 [tx].length 1 false none w3) ?_
    rintro e w4 ⟨⟨rfl, hk4⟩, hb4⟩
    have hS4 : Below w2.heap.size w2 w4 := hS3.trans (hb4.mono hS3.size)
    have hr4 := SRow.later hr3 hb4
    obtain ⟨b2, hb2e⟩ : ∃ b2, b2 = w3.heap.size + 1 := ⟨_, rfl⟩
    have hb2g : w2.heap.size ≤ b2 := by rw [hb2e]; have := hS3.size; omega
    rw [← hb2e] at hk4 ⊢
    have hp4 : w4.heap[w.heap.size]? = some (.cells #[.pointer oa, .bool true] 112 (0, 0)) := by rw [hS4.block _ (by omega)]; exact unhide HP2
    have q0' : w4.cell? ⟨w.heap.size, 0, none⟩ = some (.pointer oa) := by rw [cell_of hp4]; rfl
    have q1' : w4.cell? ⟨w.heap.size, 1, none⟩ = some (.bool true) := by rw [cell_of hp4]; rfl
    have qf := frozen_of hp4
    have hrl := lt_of_heap hp4
    refine hK.out _ _ (fun _ => hS4) ?_
    clear hK K hb2e
    refine uq1 14 fun K hK => ?_
    go_simp
    refine hK.out _ _ (fun e => by cases e) ?_
    clear hK K
    refine udone (by kernel_rfl) ?_ _
    go_simp
    obtain ⟨wz, hwz⟩ : ∃ wz, wz = (w4.setCell ⟨w.heap.size, 0, none⟩ (sPtr b2)).setCell ⟨w.heap.size, 1, none⟩ (.bool true) := ⟨_, rfl⟩
    rw [← hwz]
    have hset : ∀ k, k ≠ w.heap.size → wz.heap[k]? = w4.heap[k]? := fun k hk => by rw [hwz, ne_set hk, ne_set hk]
    have HPZ : Hid (wz.heap[w.heap.size]? = some (.cells #[sPtr b2, .bool true] 112 (0, 0))) := by show _ = _; rw [hwz, heap_set (heap_set hp4 _)]; rfl
    have HBZ : Hid (Below w.heap.size w wz) := by
      show Below _ _ _
      rw [hwz]
      exact (((unhide HB2).trans (hS4.mono (unhide HB2).size)).setCell (p := ⟨w.heap.size, 0, none⟩) (Nat.le_refl _) _).setCell (p := ⟨w.heap.size, 1, none⟩) (Nat.le_refl _) _
    have HLB : Hid (wz.heap[b2]? = some (scObj no (.slice a3 [tx].length 1) false (.pointer oa))) := (hset _ (by omega)).trans hk4
    have HLR : Hid (SRow w.heap.size wz (.slice a3 [tx].length 1) [tx]) := srow_mono (owns_stay (I := fun b => w2.heap.size ≤ b) (fun b hb _ => hset b (by have h1 : w2.heap.size ≤ b := hb; omega)) (fun b hb => (own_lt hr4 b hb).2) hr4) (by omega)
    have HB2L : Hid (w.heap.size ≤ b2) := by show _ ≤ _; omega
    clear hwz hset hk4 hS4 hr4 hp4 q0' q1' qf hrl hb4 HX0 HX1 HT2 HB2 HP2 hs2 hS3 hb2g hr3 HW2
    go_wp2_with fail
    have HX0 : Hid (wz.cell? ⟨w.heap.size, 0, none⟩ = some (sPtr b2)) := by show _ = _; rw [cell_of (unhide HPZ)]; rfl
    have HX1 : Hid (wz.cell? ⟨w.heap.size, 1, none⟩ = some (.bool true)) := by show _ = _; rw [cell_of (unhide HPZ)]; rfl
    have HK3 : Hid (wz.cell? ⟨p, 3, none⟩ = some (.slice ka kn kc)) := keepC (unhide HBZ) (unhide HC3)
    have hS0 : Below wz.heap.size wz wz.drew := (Below.refl _ _).drew
    refine wp_region_U 6 (fun X => Below wz.heap.size wz X) (by kernel_rfl) ?_
    refine uh 0 (sPtr tb) hS0 ?_
    refine uh 1 (nPtr p) hS0 ?_
    refine uh 2 (nPtr p) hS0 ?_
    refine uh 3 (.pointer (some ⟨p, 3, none⟩)) hS0 ?_
    refine ug 4 (.slice ka kn kc) rfl (Or.inl ⟨by kernel_rfl, fun X hX => by have h0 := keepC hX (unhide HK3); go_simp⟩) hS0 ?_
    refine ug 5 (plV2 (sPtr b2) true) rfl (Or.inl ⟨by kernel_rfl, fun X hX => by have h0 := keepC hX (unhide HX0); have h1 := keepC hX (unhide HX1); go_simp⟩) hS0 ?_
    refine uq1 6 fun K hK => ?_
    go_simp
    refine Calls.mono (unhide HTA _ b2 _ ((unhide HBZ).trans ((Below.refl _ _).drew.mono (unhide HBZ).size)) (unhide HB2L) (unhide HLB) (unhide HLR)) ?_
    rintro e w9 ⟨rfl, hq9⟩
    refine hK.out _ _ (fun e => by cases e) ?_
    clear hK K
    refine udone (by kernel_rfl) ?_ _
    have HQ9 := hide hq9
    clear hq9 hS0
    go_simp
    go_end0
    exact ⟨rfl, unhide HQ9⟩
  | false =>
    rw [Bool.false_or] at HTA
    have hbA : Below w.heap.size w (w.alloc (.cells #[.pointer oa, .bool false] 112)) := (Below.refl _ _).alloc (Nat.le_refl _) _
    obtain ⟨w2, hw2⟩ : ∃ w2, w2 = w.alloc (.cells #[.pointer oa, .bool sb] 112) := ⟨_, rfl⟩
    have HB2 : Hid (Below w.heap.size w w2) := by show Below _ _ _; rw [hw2]; exact (Below.refl _ _).alloc (Nat.le_refl _) _
    have HP2 : Hid (w2.heap[w.heap.size]? = some (.cells #[.pointer oa, .bool sb] 112 (0, 0))) := by show _ = _; rw [hw2]; exact heap_new _ _
    have HW2 := hide hw2
    clear hw2
    go_enter Tryz.func68, Tryz.ntmps68
    go_wp2_with fail
    refine Calls.mono (unhide HST _ hbA) ?_
    rintro e wx ⟨rfl, hwx⟩
    rw [hwx]
    clear hwx wx
    go_wp2_with fail
    rw [← unhide HW2]
    have hs2 : w2.heap.size = w.heap.size + 1 := by rw [unhide HW2]; simp
    have HX0 : Hid (w2.cell? ⟨w.heap.size, 0, none⟩ = some (.pointer oa)) := by show _ = _; rw [cell_of (unhide HP2)]; rfl
    have HX1 : Hid (w2.cell? ⟨w.heap.size, 1, none⟩ = some (.bool sb)) := by show _ = _; rw [cell_of (unhide HP2)]; rfl
    have HT2 : Hid (w2.cell? ⟨tb, 0, none⟩ = some (.map (some mb))) := keepC (unhide HB2) (unhide HT0)
    have HC2 : Hid (w2.cell? ⟨p, 1, none⟩ = some (.string tx)) := keepC (unhide HB2) (unhide HC1)
    obtain ⟨wd, hwd⟩ : ∃ wd, wd = w2.drew := ⟨_, rfl⟩
    have hS0 : Below w2.heap.size w2 wd := by rw [hwd]; exact (Below.refl _ _).drew
    refine wp_region_U 14 (fun X => Below w2.heap.size w2 X) (by kernel_rfl) ?_
    rw [← hwd]
    clear hwd
    refine ug 0 (plV2 (.pointer oa) sb) rfl (Or.inl ⟨by kernel_rfl, fun X hX => by have h0 := keepC hX (unhide HX0); have h1 := keepC hX (unhide HX1); go_simp⟩) hS0 ?_
    refine uh 1 (sPtr tb) hS0 ?_
    refine uh 2 (sPtr tb) hS0 ?_
    refine uh 3 (.pointer (some ⟨tb, 0, none⟩)) hS0 ?_
    refine ug 4 (.map (some mb)) rfl (Or.inl ⟨by kernel_rfl, fun X hX => by have h0 := keepC hX (unhide HT2); go_simp⟩) hS0 ?_
    refine uh 5 (nPtr p) hS0 ?_
    refine ug 6 (.int .i64 (no : Int)) rfl (Or.inl ⟨by kernel_rfl, fun X hX => by have h0 := unhide HNUM X ((unhide HB2).trans (hX.mono (unhide HB2).size)); go_simp⟩) hS0 ?_
    refine uh 7 (nPtr p) hS0 ?_
    refine uh 8 (nPtr p) hS0 ?_
    refine uh 9 (.pointer (some ⟨p, 1, none⟩)) hS0 ?_
    refine ug 10 (.string tx) rfl (Or.inl ⟨by kernel_rfl, fun X hX => by have h0 := keepC hX (unhide HC2); go_simp⟩) hS0 ?_
    refine uq1 11 fun K hK => ?_
    go_simp
    have hS3' : Below w2.heap.size w2 (wd.alloc (.cells #[.string tx] 9)) := hS0.alloc hS0.size _
    have hr3' : SRow w2.heap.size (wd.alloc (.cells #[.string tx] 9)) (.slice (some ⟨wd.heap.size, 0, none⟩) 1 1) [tx] := ⟨rfl, Or.inr ⟨wd.heap.size, 1, #[.string tx], rfl, hS0.size, heap_new _ _, Nat.le_refl _, by decide, rfl, rfl⟩⟩
    refine hK.out _ _ (fun _ => hS3') ?_
    clear hK K
    obtain ⟨w3, hw3⟩ : ∃ w3, w3 = wd.alloc (.cells #[.string tx] 9) := ⟨_, rfl⟩
    obtain ⟨a3, ha3⟩ : ∃ a3 : Option Addr, a3 = some ⟨wd.heap.size, 0, none⟩ := ⟨_, rfl⟩
    have hS3 : Below w2.heap.size w2 w3 := by rw [hw3]; exact hS3'
    have hr3 : SRow w2.heap.size w3 (.slice a3 [tx].length 1) [tx] := by rw [hw3, ha3]; exact hr3'
    rw [← hw3, ← ha3]
    clear hw3 ha3 hS3' hr3' hS0
    refine uh 12 (.agg #[.int .i64 (no : Int), .slice a3 [tx].length 1, .bool false, .pointer none]) hS3 ?_
    refine uq1 13 fun K hK => ?_
    go_simp
    refine Calls.mono (in_any oa sb no a3 [tx].length 1 false none w3) ?_
    rintro e w4 ⟨⟨rfl, hk4⟩, hb4⟩
    have hS4 : Below w2.heap.size w2 w4 := hS3.trans (hb4.mono hS3.size)
    have hr4 := SRow.later hr3 hb4
    obtain ⟨b2, hb2e⟩ : ∃ b2, b2 = w3.heap.size + 1 := ⟨_, rfl⟩
    have hb2g : w2.heap.size ≤ b2 := by rw [hb2e]; have := hS3.size; omega
    rw [← hb2e] at hk4 ⊢
    have hp4 : w4.heap[w.heap.size]? = some (.cells #[.pointer oa, .bool sb] 112 (0, 0)) := by rw [hS4.block _ (by omega)]; exact unhide HP2
    have q0' : w4.cell? ⟨w.heap.size, 0, none⟩ = some (.pointer oa) := by rw [cell_of hp4]; rfl
    have q1' : w4.cell? ⟨w.heap.size, 1, none⟩ = some (.bool sb) := by rw [cell_of hp4]; rfl
    have qf := frozen_of hp4
    have hrl := lt_of_heap hp4
    refine hK.out _ _ (fun _ => hS4) ?_
    clear hK K hb2e
    refine uq1 14 fun K hK => ?_
    go_simp
    refine hK.out _ _ (fun e => by cases e) ?_
    clear hK K
    refine udone (by kernel_rfl) ?_ _
    go_simp
    obtain ⟨wz, hwz⟩ : ∃ wz, wz = (w4.setCell ⟨w.heap.size, 0, none⟩ (sPtr b2)).setCell ⟨w.heap.size, 1, none⟩ (.bool sb) := ⟨_, rfl⟩
    rw [← hwz]
    have hset : ∀ k, k ≠ w.heap.size → wz.heap[k]? = w4.heap[k]? := fun k hk => by rw [hwz, ne_set hk, ne_set hk]
    have HPZ : Hid (wz.heap[w.heap.size]? = some (.cells #[sPtr b2, .bool sb] 112 (0, 0))) := by show _ = _; rw [hwz, heap_set (heap_set hp4 _)]; rfl
    have HBZ : Hid (Below w.heap.size w wz) := by
      show Below _ _ _
      rw [hwz]
      exact (((unhide HB2).trans (hS4.mono (unhide HB2).size)).setCell (p := ⟨w.heap.size, 0, none⟩) (Nat.le_refl _) _).setCell (p := ⟨w.heap.size, 1, none⟩) (Nat.le_refl _) _
    have HLB : Hid (wz.heap[b2]? = some (scObj no (.slice a3 [tx].length 1) false (.pointer oa))) := (hset _ (by omega)).trans hk4
    have HLR : Hid (SRow w.heap.size wz (.slice a3 [tx].length 1) [tx]) := srow_mono (owns_stay (I := fun b => w2.heap.size ≤ b) (fun b hb _ => hset b (by have h1 : w2.heap.size ≤ b := hb; omega)) (fun b hb => (own_lt hr4 b hb).2) hr4) (by omega)
    have HB2L : Hid (w.heap.size ≤ b2) := by show _ ≤ _; omega
    clear hwz hset hk4 hS4 hr4 hp4 q0' q1' qf hrl hb4 HX0 HX1 HT2 HB2 HP2 hs2 hS3 hb2g hr3 HW2
    go_wp2_with fail
    have HX0 : Hid (wz.cell? ⟨w.heap.size, 0, none⟩ = some (sPtr b2)) := by show _ = _; rw [cell_of (unhide HPZ)]; rfl
    have HX1 : Hid (wz.cell? ⟨w.heap.size, 1, none⟩ = some (.bool sb)) := by show _ = _; rw [cell_of (unhide HPZ)]; rfl
    have HK3 : Hid (wz.cell? ⟨p, 3, none⟩ = some (.slice ka kn kc)) := keepC (unhide HBZ) (unhide HC3)
    have hS0 : Below wz.heap.size wz wz.drew := (Below.refl _ _).drew
    refine wp_region_U 6 (fun X => Below wz.heap.size wz X) (by kernel_rfl) ?_
    refine uh 0 (sPtr tb) hS0 ?_
    refine uh 1 (nPtr p) hS0 ?_
    refine uh 2 (nPtr p) hS0 ?_
    refine uh 3 (.pointer (some ⟨p, 3, none⟩)) hS0 ?_
    refine ug 4 (.slice ka kn kc) rfl (Or.inl ⟨by kernel_rfl, fun X hX => by have h0 := keepC hX (unhide HK3); go_simp⟩) hS0 ?_
    refine ug 5 (plV2 (sPtr b2) sb) rfl (Or.inl ⟨by kernel_rfl, fun X hX => by have h0 := keepC hX (unhide HX0); have h1 := keepC hX (unhide HX1); go_simp⟩) hS0 ?_
    refine uq1 6 fun K hK => ?_
    go_simp
    refine Calls.mono (unhide HTA _ b2 _ ((unhide HBZ).trans ((Below.refl _ _).drew.mono (unhide HBZ).size)) (unhide HB2L) (unhide HLB) (unhide HLR)) ?_
    rintro e w9 ⟨rfl, hq9⟩
    refine hK.out _ _ (fun e => by cases e) ?_
    clear hK K
    refine udone (by kernel_rfl) ?_ _
    have HQ9 := hide hq9
    clear hq9 hS0
    go_simp
    go_end0
    exact ⟨rfl, unhide HQ9⟩

section
variable {P : Program} {md : Region.Mode} {ops : Array Oper} {Q : Exit → Act → World → Prop} {S : World → Prop} {b : Nat}
/-- One operation waits for another, perhaps through others. -/
def depB (md : Region.Mode) (ops : Array Oper) : Nat → Nat → Nat → Bool
  | 0, _, _ => false
  | n + 1, b, i => match ops[b]? with
    | none => false
    | some ob => ob.after.any fun e => Region.binds md e && (e.on == i || depB md ops n e.on i)
/-- What is listed has all listed that it waits for. -/
def Closed (md : Region.Mode) (ops : Array Oper) (listed : Array Bool) : Prop := ∀ (j : Nat) (oj : Oper), ops[j]? = some oj → listed.getD j false = true → ∀ e ∈ oj.after, Region.binds md e = true → listed.getD e.on false = true
theorem closed_dep {listed : Array Bool} {i : Nat} (hc : Closed md ops listed) : ∀ (n j : Nat) (oj : Oper), ops[j]? = some oj → (∀ e ∈ oj.after, Region.binds md e = true → listed.getD e.on false = true) → depB md ops n j i = true → listed.getD i false = true
  | 0, _, _, _, _, h => by cases h
  | n + 1, j, oj, ho, hall, h => by
    rw [depB, ho] at h
    obtain ⟨e, he, h2⟩ := Array.any_eq_true'.1 h
    rw [Bool.and_eq_true, Bool.or_eq_true] at h2
    have h3 := hall e he h2.1
    rcases h2.2 with h4 | h4
    · rw [← eq_of_beq h4]; exact h3
    · cases hoe : ops[e.on]? with
      | none =>
        cases n with
        | zero => cases h4
        | succ n => rw [depB, hoe] at h4; cases h4
      | some oe => exact closed_dep hc n e.on oe hoe (hc e.on oe hoe h3) h4
theorem getD_set_mono {listed : Array Bool} {j k : Nat} (h : listed.getD k false = true) : (listed.setIfInBounds j true).getD k false = true := by
  by_cases hjk : j = k
  · subst hjk
    have hl : j < listed.size := by
      rcases Nat.lt_or_ge j listed.size with hl | hl
      · exact hl
      · rw [Array.getD_eq_getD_getElem?, Array.getElem?_eq_none hl] at h; cases h
    simp [hl]
  · rw [getD_set_ne false hjk]; exact h
theorem closed_set {listed : Array Bool} {j : Nat} {oj : Oper} (hc : Closed md ops listed) (ho : ops[j]? = some oj) (hall : ∀ e ∈ oj.after, Region.binds md e = true → listed.getD e.on false = true) : Closed md ops (listed.setIfInBounds j true) := by
  intro m om hm hl e he hb
  refine getD_set_mono ?_
  by_cases hjm : j = m
  · subst hjm
    rw [ho] at hm
    cases hm
    exact hall e he hb
  · rw [getD_set_ne false hjm] at hl
    exact hc m om hm hl e he hb
def closedB (md : Region.Mode) (ops : Array Oper) (listed : Array Bool) : Bool := (List.range ops.size).all fun j => !(listed.getD j false) || (match ops[j]? with | some o => o.after.all fun e => !(Region.binds md e) || listed.getD e.on false | none => true)
theorem closed_of {listed : Array Bool} (h : closedB md ops listed = true) : Closed md ops listed := by
  intro j oj ho hl e he hb
  have hj : j < ops.size := (Array.getElem?_eq_some_iff.1 ho).1
  have h1 := List.all_eq_true.1 h j (List.mem_range.2 hj)
  rw [hl, ho] at h1
  simp only [Bool.not_true, Bool.false_or] at h1
  have h2 := Array.all_eq_true'.1 h1 e he
  rw [hb] at h2
  simpa using h2
theorem U_firstC {i k : Nat} {oi : Oper} {v : Value} (hi : ops[i]? = some oi) (hsel : ∀ (j : Nat) (o : Oper) cs c, ops[j]? = some o → o.op ≠ .select cs c)
    (hQ : ∀ c a w, Q (.panic c) (a.put oi.dst v) w → Q (.panic c) a w) (hib : i ≠ b) (hw : depB md ops k b i = true) :
    ∀ (n : Nat) (listed : Array Bool) (a : Act) (w : World), listed.getD b false = false → Closed md ops listed →
      (∀ j oj, ops[j]? = some oj → j ≠ i → listed.getD j true = false → (∀ e ∈ oj.after, Region.binds md e = true → e.on ≠ i) → oi.apart ops oj = true) →
      i ∈ Region.ready md ops listed → YieldsIf P ops S oi v a → S w →
      wpAnyU P md ops Q S b n (listed.setIfInBounds i true) (a.put oi.dst v) w → wpAnyU P md ops Q S b (n + 1) listed a w := by
  have waits : ∀ {listed : Array Bool} {j : Nat} {oj : Oper}, i ∈ Region.ready md ops listed → (∀ e ∈ oj.after, Region.binds md e = true → listed.getD e.on false = true) → ∀ e ∈ oj.after, Region.binds md e = true → e.on ≠ i := by
    intro listed j oj hr hall e he hb heq
    have h1 := hall e he hb
    have h0 := (mem_ready.1 hr).1
    rw [heq] at h1
    cases hx : listed[i]? with
    | none => simp [hx] at h1
    | some x => simp [hx] at h0 h1; rw [h0] at h1; cases h1
  intro n
  induction n with
  | zero =>
    intro listed a w hnb _ _ hr hy hS H
    refine ⟨fun h => (by rw [h] at hr; cases hr), fun j hj => ?_⟩
    by_cases hji : j = i
    · subst hji; exact hy.wpOp hi hS ⟨fun _ => hS, H⟩
    · have hm := ready_mono hj hji
      rw [H.1] at hm
      cases hm
  | succ n ih =>
    intro listed a w hnb hcl hfree hr hy hS H
    refine ⟨fun h => (by rw [h] at hr; cases hr), fun j hj => ?_⟩
    by_cases hji : j = i
    · subst hji; exact hy.wpOp hi hS ⟨fun _ => hS, H⟩
    · obtain ⟨hjun, oj, hoj, hall⟩ := mem_ready.1 hj
      have hnot := waits (j := j) (oj := oj) hr hall
      have hjb : j ≠ b := fun e => by
        subst e
        have h9 := closed_dep hcl k j oj hoj hall hw
        have h0 := (mem_ready.1 hr).1
        cases hx : listed[i]? with
        | none => simp [hx] at h9
        | some x => simp [hx] at h0 h9; rw [h0] at h9; cases h9
      have h2 := wpOp_putIf hoj (hfree j oj hoj hji hjun hnot) (fun cs c => hsel i oi cs c hi) (fun cs c => hsel j oj cs c hoj) hQ hy (H.2 j (ready_mono hj hji))
      refine wpOp_mono (fun a' w' h3 => ?_) h2
      have hS' : S w' := h3.2.1 (by rw [getD_set_ne false hjb, getD_set_ne false hib]; exact hnb)
      refine ⟨fun _ => hS', ih (listed.setIfInBounds j true) a' w' (by rw [getD_set_ne false hjb]; exact hnb) (closed_set hcl hoj hall) (fun m om hm hmi hun hno => hfree m om hm hmi ?_ hno) (ready_mono hr (Ne.symm hji)) h3.1 hS' ?_⟩
      · by_cases hjm : j = m
        · subst hjm; exact hjun
        · rw [getD_set_ne true hjm] at hun; exact hun
      · rw [Array.setIfInBounds_comm _ _ hji]
        exact h3.2.2
theorem uc {oi : Oper} {n : Nat} {listed : Array Bool} {a : Act} {w : World} (i : Nat) (v : Value) (hi : ops[i]? = some oi) (hy : YieldsIf P ops S oi v a) (hS : S w)
    (h : wpAnyU P md ops Q S b n (listed.setIfInBounds i true) (a.put oi.dst v) w) (hQ : ∀ c a w, Q (.panic c) (a.put oi.dst v) w → Q (.panic c) a w := by exact fun _ _ _ h => h)
    (hs : Region.noSelect ops = true := by kernel_rfl) (hf : Region.free md ops listed i = true := by kernel_rfl) (hr : (Region.ready md ops listed).contains i = true := by kernel_rfl)
    (hib : i ≠ b := by decide) (hw : depB md ops ops.size b i = true := by kernel_rfl) (hcl : closedB md ops listed = true := by kernel_rfl) (hnb : listed.getD b false = false := by kernel_rfl) : wpAnyU P md ops Q S b (n + 1) listed a w :=
  U_firstC hi (Region.noSelect_spec hs) hQ hib hw n listed a w hnb (closed_of hcl) (Region.free_spec hi hf) (by simpa using hr) hy hS h
end
end Go.Proofs.YtoimgcjbcbhclaaGreatDoor
