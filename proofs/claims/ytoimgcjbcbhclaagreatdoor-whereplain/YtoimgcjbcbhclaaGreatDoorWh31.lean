/-
  Where a function's statements stand: way by way.
-/
import Derived.Test.YtoimgcjbcbhclaaGreatDoorWh29
import Derived.Test.YtoimgcjbcbhclaaGreatDoorWh30
set_option maxRecDepth 100000
set_option maxHeartbeats 16000000
namespace Go.Proofs.YtoimgcjbcbhclaaGreatDoor
open Go.RowKit

theorem gets_set {w : World} {b o : Nat} {cs : Array Value} {t : TypeId} (h : w.heap[b]? = some (.cells cs t (0, 0))) (v : Value) : (w.setCell ⟨b, o, none⟩ v).heap[b]? = some (.cells (cs.setIfInBounds o v) t (0, 0)) := heap_set h v
theorem ne_set {w : World} {b k o : Nat} (h : k ≠ b) (v : Value) : (w.setCell ⟨b, o, none⟩ v).heap[k]? = w.heap[k]? := Below.heap_setCell w ⟨b, o, none⟩ v k h
/-- What the way of a function's node needs to know. -/
structure FnK (w : World) (p tb mb no : Nat) (kd : Int) (tx : ByteArray) (q0 q1 : Nat) (sb ev : Bool) (P N : List ByteArray) : Prop where
  c0 : w.cell? ⟨p, 0, none⟩ = some (.int .i64 kd)
  c1 : w.cell? ⟨p, 1, none⟩ = some (.string tx)
  kids : ∃ g n cap, 2 ≤ n ∧ w.cell? ⟨p, 3, none⟩ = some (.slice (some ⟨g, 0, none⟩) n cap) ∧ w.cell? ⟨g, 0, none⟩ = some (nPtr q0) ∧ w.cell? ⟨g, 1, none⟩ = some (nPtr q1)
  word : w.cell? ⟨tb, 0, none⟩ = some (.map (some mb))
  num : ∀ X, Below w.heap.size w X → (Instr.lookup 44 (.map (some mb)) (nPtr p) false).run Tryz.prog X = .ok (.int .i64 (no : Int)) X
  st : ∀ X, Below w.heap.size w X → Calls Tryz.prog 118 #[nPtr q1] X fun e w' => e = .returned (.bool sb) ∧ w' = X
  tx : ∃ ua uc, w.cell? ⟨q0, 3, none⟩ = some (.slice ua P.length uc) ∧ ∀ X, Below w.heap.size w X → Calls Tryz.prog 125 #[.slice ua P.length uc] X fun e w' => (∃ u, e = .returned u ∧ SRow X.heap.size w' u P) ∧ Below X.heap.size X w'
  nm : ∀ X, Below w.heap.size w X → Calls Tryz.prog 113 #[nPtr q1, .bool true] X fun e w' => (∃ u, e = .returned u ∧ SRow X.heap.size w' u N) ∧ Below X.heap.size X w'
  ev : ∀ X, Below w.heap.size w X → Calls Tryz.prog 28 #[nPtr q1] X fun e w' => e = .returned (.bool ev) ∧ Below X.heap.size X w'
  lp : P.length ≤ 20000
  ln : N.length ≤ 70000
/-- A Lambda's own scope, or none. -/
def Lam (w w' : World) (oa : Option Addr) (no : Nat) (kd : Int) (tx : ByteArray) (b : Nat) (v : Value) : Prop :=
  ((kd == 37) = false ∧ v = .pointer oa) ∨ ((kd == 37) = true ∧ ∃ b2 nv, v = sPtr b2 ∧ w.heap.size ≤ b2 ∧ b2 < b ∧ w'.heap[b2]? = some (scObj no nv false (.pointer oa)) ∧ SRow w.heap.size w' nv [tx])
def FnPost (w : World) (oa : Option Addr) (no : Nat) (kd : Int) (tx : ByteArray) (st2 op : Bool) (l : List ByteArray) (e : Ending) (w' : World) : Prop :=
  (∃ b nv v, e = .returned (plV2 (sPtr b) st2) ∧ w.heap.size ≤ b ∧ w'.heap[b]? = some (scObj no nv op v) ∧ SRow w.heap.size w' nv l ∧ Lam w w' oa no kd tx b v) ∧ Below w.heap.size w w'

theorem fn5t (w : World) (p tb mb no q0 q1 : Nat) (tx : ByteArray) (sb ev : Bool) (P N : List ByteArray) (oa : Option Addr) (h : FnK w p tb mb no 5 tx q0 q1 sb ev P N) :
    Calls Tryz.prog 128 #[sPtr tb, nPtr p, plV2 (.pointer oa) true] w (FnPost w oa no 5 tx true false ((P ++ [tArguments]) ++ N)) := by
  obtain ⟨i0, hi0, hz0, hz1, hz2⟩ := info_parts info9
  obtain ⟨M, hM⟩ : ∃ M, M = P ++ [tArguments] := ⟨_, rfl⟩
  rw [← hM]
  obtain ⟨F, hF⟩ : ∃ F, F = M ++ N := ⟨_, rfl⟩
  rw [← hF]
  have hMl : M.length = P.length + 1 := by rw [hM]; simp
  have HM := hide hM
  have HF := hide hF
  have HML := hide hMl
  clear hM hF hMl
  obtain ⟨c0, c1, ⟨g, n, cap, hn2, c3, d0, d1⟩, t0, hnum, hst, ⟨ua, uc, e3, htx⟩, hnm, hev, hlp, hln⟩ := h
  have hpl := cell_lt c0
  have hgl := cell_lt d0
  have htl := cell_lt t0
  have hql := cell_lt e3
  have hn0 : ¬ n = 0 := by omega
  have hn1 : ¬ (n : Int) ≤ 1 := by omega
  clear hn2
  have HNUM := hide hnum
  have HST := hide hst
  have HTX := hide htx
  have HNM := hide hnm
  have HEV := hide hev
  obtain ⟨wA, hwA⟩ : ∃ wA, wA = (w.alloc (.cells #[.pointer oa, .bool true] 112)).alloc (.cells #[.pointer none, .bool false] 112) := ⟨_, rfl⟩
  have hbA : Below w.heap.size w wA := by rw [hwA]; exact ((Below.refl _ _).alloc (Nat.le_refl _) _).alloc (by simp) _
  have hsA : wA.heap.size = w.heap.size + 2 := by rw [hwA]; simp
  have hpA : wA.heap[w.heap.size]? = some (.cells #[.pointer oa, .bool true] 112 (0, 0)) := by
    rw [hwA, Below.heap_alloc _ _ _ (by simp)]; exact heap_new _ _
  have hrA : wA.heap[w.heap.size + 1]? = some (.cells #[.pointer none, .bool false] 112 (0, 0)) := by
    have h9 := heap_new (w.alloc (.cells #[.pointer oa, .bool true] 112)) (.cells #[.pointer none, .bool false] 112)
    rw [show (w.alloc (.cells #[.pointer oa, .bool true] 112)).heap.size = w.heap.size + 1 by simp] at h9
    rw [hwA]; exact h9
  obtain ⟨w1, hw1⟩ : ∃ w1, w1 = wA.drew := ⟨_, rfl⟩
  have hb1 : Below w.heap.size w w1 := by rw [hw1]; exact hbA.drew
  have hs1 : w1.heap.size = w.heap.size + 2 := by rw [hw1]; exact hsA
  have hp1 : w1.heap[w.heap.size]? = some (.cells #[.pointer oa, .bool true] 112 (0, 0)) := by rw [hw1]; exact hpA
  have hr1 : w1.heap[w.heap.size + 1]? = some (.cells #[.pointer none, .bool false] 112 (0, 0)) := by rw [hw1]; exact hrA
  have a3 := keepC hbA.drew c3
  have b0 := keepC hbA.drew d0
  have b1 := keepC hbA.drew d1
  have HW1 := hide hw1
  have HWA := hide hwA
  have k0 := keepC hb1 c0
  have k1 := keepC hb1 c1
  have k3 := keepC hb1 e3
  have s0 : w1.cell? ⟨w.heap.size, 0, none⟩ = some (.pointer oa) := by rw [cell_of hp1]; rfl
  have s1 : w1.cell? ⟨w.heap.size, 1, none⟩ = some (.bool true) := by rw [cell_of hp1]; rfl
  have sf := frozen_of hp1
  have hpn : p ≠ w.heap.size := by omega
  have hqn : q0 ≠ w.heap.size := by omega
  have hpl1 : p < w1.heap.size := by omega
  have hql1 : q0 < w1.heap.size := by omega
  have hwl1 : w.heap.size < w1.heap.size := by omega
  have HB1 := hide hb1
  have HS1 := hide hs1
  have HP1 := hide hp1
  have HR1 := hide hr1
  have HC1 := hide c1
  have HT0 := hide t0
  have HC0 := hide c0
  have HE3 := hide e3
  clear hnum hst htx hnm hev hbA hsA hpA hrA hb1 hs1 hp1 hr1 c0 c3 d0 d1 e3 hwA hw1 c1 t0
  go_enter Tryz.func128, Tryz.ntmps128
  go_wp2_with fail
  rw [← unhide HWA]
  refine wp_region_held (S := fun X => X = wA.drew) (by kernel_rfl) ?_
  change wpAnyH _ _ _ _ _ _ _ _ (World.drew _)
  refine wh 0 (nPtr p) rfl ?_
  refine wh 1 (nPtr p) rfl ?_
  refine wh 2 (.pointer (some ⟨p, 3, none⟩)) rfl ?_
  refine wh 3 (.slice (some ⟨g, 0, none⟩) n cap) rfl ?_ (hy := Or.inl ⟨by kernel_rfl, fun X hX => by cases hX; go_simp⟩)
  refine wh 4 (.pointer (some ⟨g, 0, none⟩)) rfl ?_
  refine wh 5 (nPtr q0) rfl ?_ (hy := Or.inl ⟨by kernel_rfl, fun X hX => by cases hX; go_simp⟩)
  refine wh 6 (nPtr p) rfl ?_
  refine wh 7 (nPtr p) rfl ?_
  refine wh 8 (.pointer (some ⟨p, 3, none⟩)) rfl ?_
  refine wh 9 (.slice (some ⟨g, 0, none⟩) n cap) rfl ?_ (hy := Or.inl ⟨by kernel_rfl, fun X hX => by cases hX; go_simp⟩)
  refine wh 10 (.pointer (some ⟨g, 1, none⟩)) rfl ?_
  refine wh 11 (nPtr q1) rfl ?_ (hy := Or.inl ⟨by kernel_rfl, fun X hX => by cases hX; go_simp⟩)
  refine wh 12 (nPtr q0) rfl ?_
  refine wh 13 (nPtr q1) rfl ?_
  refine wpAnyH_done (by kernel_rfl) ?_ _
  go_simp
  rw [← unhide HW1]
  clear a3 b0 b1
  go_wp2_with fail
  obtain ⟨w2, hw2⟩ : ∃ w2, w2 = w1.setCell ⟨w.heap.size, 1, none⟩ (.bool true) := ⟨_, rfl⟩
  rw [← hw2]
  have hb2 : Below w.heap.size w w2 := by rw [hw2]; exact (unhide HB1).setCell (p := ⟨w.heap.size, 1, none⟩) (Nat.le_refl _) _
  have hs2 : w2.heap.size = w.heap.size + 2 := by rw [hw2]; simpa using unhide HS1
  have hp2 : w2.heap[w.heap.size]? = some (.cells #[.pointer oa, .bool true] 112 (0, 0)) := by rw [hw2, heap_set (unhide HP1)]; rfl
  have hr2 : w2.heap[w.heap.size + 1]? = some (.cells #[.pointer none, .bool false] 112 (0, 0)) := by rw [hw2, ne_set (by omega)]; exact unhide HR1
  have HB2 := hide hb2
  have HS2 : Hid (w.heap.size + 2 ≤ w2.heap.size) := by show _ ≤ _; omega
  have HP2 := hide hp2
  have HR2 := hide hr2
  clear hw2 hb2 hs2 hp2 hr2 k0 k1 k3 s0 s1 sf hpl1 hql1 hwl1 HB1 HS1 HP1 HR1 HW1 HWA
  have HX0 : Hid (w2.cell? ⟨w.heap.size, 0, none⟩ = some (.pointer oa)) := by show _ = _; rw [cell_of (unhide HP2)]; rfl
  have HX1 : Hid (w2.cell? ⟨w.heap.size, 1, none⟩ = some (.bool true)) := by show _ = _; rw [cell_of (unhide HP2)]; rfl
  have HT2 : Hid (w2.cell? ⟨tb, 0, none⟩ = some (.map (some mb))) := keepC (unhide HB2) (unhide HT0)
  have hs2 := unhide HS2
  refine Calls.mono (unhide HTX _ (unhide HB2)) ?_
  rintro e w3 ⟨⟨u3, rfl, hr3⟩, hb3⟩
  obtain ⟨a3, c3, rfl⟩ := srow_form hr3
  have HR3 := hide hr3
  have HB3 := hide hb3
  have hz3 := hb3.size
  clear hr3 hb3
  go_wp2_with (at_builtin; refine wpList_append_lies _ rfl _ _ 38 rfl w2.heap.size 9 i0 (.string ByteArray.empty) 1 16 Tryz.underlying38 hi0 hz0 hz1 hz2 rfl (by decide) _ _ _ rfl ((unhide HR3).alloc _) ⟨w3.heap.size, 0, none⟩ 1 1 [.string tArguments] rfl rfl (hoCellsS w3 tArguments _ rfl) (hoOneS tArguments) (by decide) (by unfold maxLen; omega) (by omega) (by simp; omega) (w3.heap.size + 1) (by simp) ?_)
  intro g4 cap4 w4 hown4 hgr4 _ _
  have HR4 : Hid (SRow w2.heap.size w4 (.slice (some ⟨g4, 0, none⟩) (P.length + 1) cap4) M) := by
    show World.ownsRow _ _ _ _ _ _ _
    rw [unhide HML, unhide HM, List.map_append]
    exact hown4
  have HB4 : Hid (Below w2.heap.size w2 w4) := (unhide HB3).trans (((Below.refl w2.heap.size w3).alloc hz3 _).grown hgr4 (by simp; omega) (fun b hb => (own_lt (unhide HR3) b hb).2))
  clear hown4 hgr4 HR3 HB3 hz3
  go_wp2_with fail
  have hS0 : Below w2.heap.size w2 w4.drew := (unhide HB4).drew
  have hr4 : SRow w2.heap.size w4.drew (.slice (some ⟨g4, 0, none⟩) (P.length + 1) cap4) M := unhide HR4
  obtain ⟨w5, hw5⟩ : ∃ w5, w5 = w4.drew := ⟨_, rfl⟩
  refine wp_region_U 20 (fun X => Below w2.heap.size w2 X) (by kernel_rfl) ?_
  rw [← hw5] at hS0 hr4 ⊢
  clear hw5 HB4 HR4
  refine ug 0 (plV2 (.pointer oa) true) rfl (Or.inl ⟨by kernel_rfl, fun X hX => by have h0 := keepC hX (unhide HX0); have h1 := keepC hX (unhide HX1); go_simp⟩) hS0 ?_
  refine uh 1 (sPtr tb) hS0 ?_
  refine uh 2 (sPtr tb) hS0 ?_
  refine uh 3 (.pointer (some ⟨tb, 0, none⟩)) hS0 ?_
  refine ug 4 (.map (some mb)) rfl (Or.inl ⟨by kernel_rfl, fun X hX => by have h0 := keepC hX (unhide HT2); go_simp⟩) hS0 ?_
  refine uh 5 (nPtr p) hS0 ?_
  refine ug 6 (.int .i64 (no : Int)) rfl (Or.inl ⟨by kernel_rfl, fun X hX => by have h0 := unhide HNUM X ((unhide HB2).trans (hX.mono (unhide HB2).size)); go_simp⟩) hS0 ?_
  refine uh 7 (.slice (some ⟨g4, 0, none⟩) (P.length + 1) cap4) hS0 ?_
  refine uh 8 (nPtr q1) hS0 ?_
  refine uh 11 (.pointer (some ⟨w.heap.size, 1, none⟩)) hS0 ?_
  refine ug 12 (.bool true) rfl (Or.inl ⟨by kernel_rfl, fun X hX => by have h1 := keepC hX (unhide HX1); go_simp⟩) hS0 ?_
  refine uh 13 (.bool false) hS0 ?_
  refine uq1 9 fun K hK => ?_
  go_simp
  refine Calls.mono (unhide HNM _ ((unhide HB2).trans (hS0.mono (unhide HB2).size))) ?_
  rintro e w6 ⟨⟨u6, rfl, hr6⟩, hb6⟩
  obtain ⟨a6, c6, rfl⟩ := srow_form hr6
  have hS6 : Below w2.heap.size w2 w6 := hS0.trans (hb6.mono hS0.size)
  have hr4' := SRow.later hr4 hb6
  refine hK.out _ _ (fun _ => hS6) ?_
  clear hK K
  refine uq1 10 fun K hK => ?_
  refine step_app_row rfl _ _ 38 rfl w2.heap.size _ 9 i0 (.string ByteArray.empty) 16 Tryz.underlying38 hi0 hz0 hz1 hz2 rfl _ _ _ rfl hr4' _ _ _ rfl hr6 (srow_ones N) (by have := unhide HML; unfold maxLen; omega) (by have := unhide HML; omega) hS6.size ?_
  intro v7 w7 hown7 hgr7
  have hr7 : SRow w2.heap.size w7 v7 F := by
    show World.ownsRow _ _ _ _ _ _ _
    rw [unhide HF, List.length_append, List.map_append]
    exact hown7
  have hS7 : Below w2.heap.size w2 w7 := hS6.grown hgr7 hS6.size (fun k hk => (own_lt hr4' k hk).2)
  obtain ⟨a7, c7, rfl⟩ := srow_form hr7
  refine hK.out _ _ (fun _ => hS7) ?_
  clear hK K hown7 hgr7 hr6 hb6 hr4 hr4'
  refine uh 14 (.bool false) hS7 ?_
  refine uq1 15 fun K hK => ?_
  go_simp
  refine hK.out _ _ (fun _ => hS7) ?_
  clear hK K
  refine uq1 16 fun K hK => ?_
  go_simp
  refine hK.out _ _ (fun _ => hS7) ?_
  clear hK K
  obtain ⟨w8, hw8⟩ : ∃ w8, w8 = w7 := ⟨_, rfl⟩
  have hS8 : Below w2.heap.size w2 w8 := by rw [hw8]; exact hS7
  have hr8 : SRow w2.heap.size w8 (.slice a7 F.length c7) F := by rw [hw8]; exact hr7
  rw [← hw8]
  clear hw8 hS7 hr7
  refine uh 17 (.bool false) hS8 ?_
  refine uh 18 (.agg #[.int .i64 (no : Int), .slice a7 F.length c7, .bool false, .pointer none]) hS8 ?_
  refine uq1 19 fun K hK => ?_
  go_simp
  refine Calls.mono (in_any _ true no a7 F.length c7 false none w8) ?_
  rintro e w9 ⟨⟨rfl, hk9⟩, hb9⟩
  have hS9 : Below w2.heap.size w2 w9 := hS8.trans (hb9.mono hS8.size)
  have hr9 := SRow.later hr8 hb9
  have hr2 : w9.heap[w.heap.size + 1]? = some (.cells #[.pointer none, .bool false] 112 (0, 0)) := by rw [hS9.block _ (by omega)]; exact unhide HR2
  have q0' : w9.cell? ⟨w.heap.size + 1, 0, none⟩ = some (.pointer none) := by rw [cell_of hr2]; rfl
  have q1' : w9.cell? ⟨w.heap.size + 1, 1, none⟩ = some (.bool false) := by rw [cell_of hr2]; rfl
  have qf := frozen_of hr2
  have hrl := lt_of_heap hr2
  have HZ := hide hS8.size
  refine hK.out _ _ (fun _ => hS9) ?_
  clear hK K hS8 hr8
  refine uq1 20 fun K hK => ?_
  go_simp
  refine hK.out _ _ (fun e => by cases e) ?_
  clear hK K
  refine udone (by kernel_rfl) ?_ _
  go_simp
  obtain ⟨wz, hwz⟩ : ∃ wz, wz = (w9.setCell ⟨w.heap.size + 1, 0, none⟩ (sPtr (w8.heap.size + 1))).setCell ⟨w.heap.size + 1, 1, none⟩ (.bool true) := ⟨_, rfl⟩
  rw [← hwz]
  have hset : ∀ k, k ≠ w.heap.size + 1 → wz.heap[k]? = w9.heap[k]? := fun k hk => by rw [hwz, ne_set hk, ne_set hk]
  have hzb : wz.heap[w.heap.size + 1]? = some (.cells #[sPtr (w8.heap.size + 1), .bool true] 112 (0, 0)) := by rw [hwz, heap_set (heap_set hr2 _)]; rfl
  have z0 : wz.cell? ⟨w.heap.size + 1, 0, none⟩ = some (sPtr (w8.heap.size + 1)) := by rw [cell_of hzb]; rfl
  have z1 : wz.cell? ⟨w.heap.size + 1, 1, none⟩ = some (.bool true) := by rw [cell_of hzb]; rfl
  have hz8 := unhide HZ
  have HK9 := hide ((hset (w8.heap.size + 1) (by omega)).trans hk9)
  have HR9 : Hid (SRow w.heap.size wz (.slice a7 F.length c7) F) := srow_mono (owns_stay (I := fun b => w2.heap.size ≤ b) (fun b hb _ => hset b (by have h1 : w2.heap.size ≤ b := hb; omega)) (fun b hb => (own_lt hr9 b hb).2) hr9) (by omega)
  have HSZ : Hid (∀ k, k < w2.heap.size → k ≠ w.heap.size + 1 → wz.heap[k]? = w2.heap[k]?) := fun k h1 h2 => (hset k h2).trans (hS9.block k h1)
  have HBZ : Hid (Below w.heap.size w wz) := by
    show Below _ _ _
    rw [hwz]
    exact (((unhide HB2).trans (hS9.mono (unhide HB2).size)).setCell (p := ⟨w.heap.size + 1, 0, none⟩) (by simp) _).setCell (p := ⟨w.heap.size + 1, 1, none⟩) (by simp) _
  clear hwz hset hzb hk9 hS9 hr9 hr2 q0' q1' qf hrl hb9
  go_wp2_with fail
  refine bodyPost_ret (v := plV2 (sPtr (w8.heap.size + 1)) true) (by simp [results, Tryz.results128, go_sem, z0, z1]) rfl ⟨⟨w8.heap.size + 1, _, _, rfl, by omega, unhide HK9, unhide HR9, ?_⟩, unhide HBZ⟩
  exact Or.inl ⟨by decide, rfl⟩

theorem fn5ft (w : World) (p tb mb no q0 q1 : Nat) (tx : ByteArray) (ev : Bool) (P N : List ByteArray) (oa : Option Addr) (h : FnK w p tb mb no 5 tx q0 q1 true ev P N) :
    Calls Tryz.prog 128 #[sPtr tb, nPtr p, plV2 (.pointer oa) false] w (FnPost w oa no 5 tx true false ((P ++ [tArguments]) ++ N)) := by
  obtain ⟨i0, hi0, hz0, hz1, hz2⟩ := info_parts info9
  obtain ⟨M, hM⟩ : ∃ M, M = P ++ [tArguments] := ⟨_, rfl⟩
  rw [← hM]
  obtain ⟨F, hF⟩ : ∃ F, F = M ++ N := ⟨_, rfl⟩
  rw [← hF]
  have hMl : M.length = P.length + 1 := by rw [hM]; simp
  have HM := hide hM
  have HF := hide hF
  have HML := hide hMl
  clear hM hF hMl
  obtain ⟨c0, c1, ⟨g, n, cap, hn2, c3, d0, d1⟩, t0, hnum, hst, ⟨ua, uc, e3, htx⟩, hnm, hev, hlp, hln⟩ := h
  have hpl := cell_lt c0
  have hgl := cell_lt d0
  have htl := cell_lt t0
  have hql := cell_lt e3
  have hn0 : ¬ n = 0 := by omega
  have hn1 : ¬ (n : Int) ≤ 1 := by omega
  clear hn2
  have HNUM := hide hnum
  have HST := hide hst
  have HTX := hide htx
  have HNM := hide hnm
  have HEV := hide hev
  obtain ⟨wA, hwA⟩ : ∃ wA, wA = (w.alloc (.cells #[.pointer oa, .bool false] 112)).alloc (.cells #[.pointer none, .bool false] 112) := ⟨_, rfl⟩
  have hbA : Below w.heap.size w wA := by rw [hwA]; exact ((Below.refl _ _).alloc (Nat.le_refl _) _).alloc (by simp) _
  have hsA : wA.heap.size = w.heap.size + 2 := by rw [hwA]; simp
  have hpA : wA.heap[w.heap.size]? = some (.cells #[.pointer oa, .bool false] 112 (0, 0)) := by
    rw [hwA, Below.heap_alloc _ _ _ (by simp)]; exact heap_new _ _
  have hrA : wA.heap[w.heap.size + 1]? = some (.cells #[.pointer none, .bool false] 112 (0, 0)) := by
    have h9 := heap_new (w.alloc (.cells #[.pointer oa, .bool false] 112)) (.cells #[.pointer none, .bool false] 112)
    rw [show (w.alloc (.cells #[.pointer oa, .bool false] 112)).heap.size = w.heap.size + 1 by simp] at h9
    rw [hwA]; exact h9
  obtain ⟨w1, hw1⟩ : ∃ w1, w1 = wA.drew := ⟨_, rfl⟩
  have hb1 : Below w.heap.size w w1 := by rw [hw1]; exact hbA.drew
  have hs1 : w1.heap.size = w.heap.size + 2 := by rw [hw1]; exact hsA
  have hp1 : w1.heap[w.heap.size]? = some (.cells #[.pointer oa, .bool false] 112 (0, 0)) := by rw [hw1]; exact hpA
  have hr1 : w1.heap[w.heap.size + 1]? = some (.cells #[.pointer none, .bool false] 112 (0, 0)) := by rw [hw1]; exact hrA
  have a3 := keepC hbA.drew c3
  have b0 := keepC hbA.drew d0
  have b1 := keepC hbA.drew d1
  have HW1 := hide hw1
  have HWA := hide hwA
  have k0 := keepC hb1 c0
  have k1 := keepC hb1 c1
  have k3 := keepC hb1 e3
  have s0 : w1.cell? ⟨w.heap.size, 0, none⟩ = some (.pointer oa) := by rw [cell_of hp1]; rfl
  have s1 : w1.cell? ⟨w.heap.size, 1, none⟩ = some (.bool false) := by rw [cell_of hp1]; rfl
  have sf := frozen_of hp1
  have hpn : p ≠ w.heap.size := by omega
  have hqn : q0 ≠ w.heap.size := by omega
  have hpl1 : p < w1.heap.size := by omega
  have hql1 : q0 < w1.heap.size := by omega
  have hwl1 : w.heap.size < w1.heap.size := by omega
  have HB1 := hide hb1
  have HS1 := hide hs1
  have HP1 := hide hp1
  have HR1 := hide hr1
  have HC1 := hide c1
  have HT0 := hide t0
  have HC0 := hide c0
  have HE3 := hide e3
  clear hnum hst htx hnm hev hbA hsA hpA hrA hb1 hs1 hp1 hr1 c0 c3 d0 d1 e3 hwA hw1 c1 t0
  go_enter Tryz.func128, Tryz.ntmps128
  go_wp2_with fail
  rw [← unhide HWA]
  refine wp_region_held (S := fun X => X = wA.drew) (by kernel_rfl) ?_
  change wpAnyH _ _ _ _ _ _ _ _ (World.drew _)
  refine wh 0 (nPtr p) rfl ?_
  refine wh 1 (nPtr p) rfl ?_
  refine wh 2 (.pointer (some ⟨p, 3, none⟩)) rfl ?_
  refine wh 3 (.slice (some ⟨g, 0, none⟩) n cap) rfl ?_ (hy := Or.inl ⟨by kernel_rfl, fun X hX => by cases hX; go_simp⟩)
  refine wh 4 (.pointer (some ⟨g, 0, none⟩)) rfl ?_
  refine wh 5 (nPtr q0) rfl ?_ (hy := Or.inl ⟨by kernel_rfl, fun X hX => by cases hX; go_simp⟩)
  refine wh 6 (nPtr p) rfl ?_
  refine wh 7 (nPtr p) rfl ?_
  refine wh 8 (.pointer (some ⟨p, 3, none⟩)) rfl ?_
  refine wh 9 (.slice (some ⟨g, 0, none⟩) n cap) rfl ?_ (hy := Or.inl ⟨by kernel_rfl, fun X hX => by cases hX; go_simp⟩)
  refine wh 10 (.pointer (some ⟨g, 1, none⟩)) rfl ?_
  refine wh 11 (nPtr q1) rfl ?_ (hy := Or.inl ⟨by kernel_rfl, fun X hX => by cases hX; go_simp⟩)
  refine wh 12 (nPtr q0) rfl ?_
  refine wh 13 (nPtr q1) rfl ?_
  refine wpAnyH_done (by kernel_rfl) ?_ _
  go_simp
  rw [← unhide HW1]
  clear a3 b0 b1
  go_wp2_with fail
  refine Calls.mono (unhide HST _ (unhide HB1)) ?_
  rintro e wx ⟨rfl, hwx⟩
  rw [hwx]
  clear hwx wx
  go_wp2_with fail
  obtain ⟨w2, hw2⟩ : ∃ w2, w2 = w1.setCell ⟨w.heap.size, 1, none⟩ (.bool true) := ⟨_, rfl⟩
  rw [← hw2]
  have hb2 : Below w.heap.size w w2 := by rw [hw2]; exact (unhide HB1).setCell (p := ⟨w.heap.size, 1, none⟩) (Nat.le_refl _) _
  have hs2 : w2.heap.size = w.heap.size + 2 := by rw [hw2]; simpa using unhide HS1
  have hp2 : w2.heap[w.heap.size]? = some (.cells #[.pointer oa, .bool true] 112 (0, 0)) := by rw [hw2, heap_set (unhide HP1)]; rfl
  have hr2 : w2.heap[w.heap.size + 1]? = some (.cells #[.pointer none, .bool false] 112 (0, 0)) := by rw [hw2, ne_set (by omega)]; exact unhide HR1
  have HB2 := hide hb2
  have HS2 : Hid (w.heap.size + 2 ≤ w2.heap.size) := by show _ ≤ _; omega
  have HP2 := hide hp2
  have HR2 := hide hr2
  clear hw2 hb2 hs2 hp2 hr2 k0 k1 k3 s0 s1 sf hpl1 hql1 hwl1 HB1 HS1 HP1 HR1 HW1 HWA
  have HX0 : Hid (w2.cell? ⟨w.heap.size, 0, none⟩ = some (.pointer oa)) := by show _ = _; rw [cell_of (unhide HP2)]; rfl
  have HX1 : Hid (w2.cell? ⟨w.heap.size, 1, none⟩ = some (.bool true)) := by show _ = _; rw [cell_of (unhide HP2)]; rfl
  have HT2 : Hid (w2.cell? ⟨tb, 0, none⟩ = some (.map (some mb))) := keepC (unhide HB2) (unhide HT0)
  have hs2 := unhide HS2
  refine Calls.mono (unhide HTX _ (unhide HB2)) ?_
  rintro e w3 ⟨⟨u3, rfl, hr3⟩, hb3⟩
  obtain ⟨a3, c3, rfl⟩ := srow_form hr3
  have HR3 := hide hr3
  have HB3 := hide hb3
  have hz3 := hb3.size
  clear hr3 hb3
  go_wp2_with (at_builtin; refine wpList_append_lies _ rfl _ _ 38 rfl w2.heap.size 9 i0 (.string ByteArray.empty) 1 16 Tryz.underlying38 hi0 hz0 hz1 hz2 rfl (by decide) _ _ _ rfl ((unhide HR3).alloc _) ⟨w3.heap.size, 0, none⟩ 1 1 [.string tArguments] rfl rfl (hoCellsS w3 tArguments _ rfl) (hoOneS tArguments) (by decide) (by unfold maxLen; omega) (by omega) (by simp; omega) (w3.heap.size + 1) (by simp) ?_)
  intro g4 cap4 w4 hown4 hgr4 _ _
  have HR4 : Hid (SRow w2.heap.size w4 (.slice (some ⟨g4, 0, none⟩) (P.length + 1) cap4) M) := by
    show World.ownsRow _ _ _ _ _ _ _
    rw [unhide HML, unhide HM, List.map_append]
    exact hown4
  have HB4 : Hid (Below w2.heap.size w2 w4) := (unhide HB3).trans (((Below.refl w2.heap.size w3).alloc hz3 _).grown hgr4 (by simp; omega) (fun b hb => (own_lt (unhide HR3) b hb).2))
  clear hown4 hgr4 HR3 HB3 hz3
  go_wp2_with fail
  have hS0 : Below w2.heap.size w2 w4.drew := (unhide HB4).drew
  have hr4 : SRow w2.heap.size w4.drew (.slice (some ⟨g4, 0, none⟩) (P.length + 1) cap4) M := unhide HR4
  obtain ⟨w5, hw5⟩ : ∃ w5, w5 = w4.drew := ⟨_, rfl⟩
  refine wp_region_U 20 (fun X => Below w2.heap.size w2 X) (by kernel_rfl) ?_
  rw [← hw5] at hS0 hr4 ⊢
  clear hw5 HB4 HR4
  refine ug 0 (plV2 (.pointer oa) true) rfl (Or.inl ⟨by kernel_rfl, fun X hX => by have h0 := keepC hX (unhide HX0); have h1 := keepC hX (unhide HX1); go_simp⟩) hS0 ?_
  refine uh 1 (sPtr tb) hS0 ?_
  refine uh 2 (sPtr tb) hS0 ?_
  refine uh 3 (.pointer (some ⟨tb, 0, none⟩)) hS0 ?_
  refine ug 4 (.map (some mb)) rfl (Or.inl ⟨by kernel_rfl, fun X hX => by have h0 := keepC hX (unhide HT2); go_simp⟩) hS0 ?_
  refine uh 5 (nPtr p) hS0 ?_
  refine ug 6 (.int .i64 (no : Int)) rfl (Or.inl ⟨by kernel_rfl, fun X hX => by have h0 := unhide HNUM X ((unhide HB2).trans (hX.mono (unhide HB2).size)); go_simp⟩) hS0 ?_
  refine uh 7 (.slice (some ⟨g4, 0, none⟩) (P.length + 1) cap4) hS0 ?_
  refine uh 8 (nPtr q1) hS0 ?_
  refine uh 11 (.pointer (some ⟨w.heap.size, 1, none⟩)) hS0 ?_
  refine ug 12 (.bool true) rfl (Or.inl ⟨by kernel_rfl, fun X hX => by have h1 := keepC hX (unhide HX1); go_simp⟩) hS0 ?_
  refine uh 13 (.bool false) hS0 ?_
  refine uq1 9 fun K hK => ?_
  go_simp
  refine Calls.mono (unhide HNM _ ((unhide HB2).trans (hS0.mono (unhide HB2).size))) ?_
  rintro e w6 ⟨⟨u6, rfl, hr6⟩, hb6⟩
  obtain ⟨a6, c6, rfl⟩ := srow_form hr6
  have hS6 : Below w2.heap.size w2 w6 := hS0.trans (hb6.mono hS0.size)
  have hr4' := SRow.later hr4 hb6
  refine hK.out _ _ (fun _ => hS6) ?_
  clear hK K
  refine uq1 10 fun K hK => ?_
  refine step_app_row rfl _ _ 38 rfl w2.heap.size _ 9 i0 (.string ByteArray.empty) 16 Tryz.underlying38 hi0 hz0 hz1 hz2 rfl _ _ _ rfl hr4' _ _ _ rfl hr6 (srow_ones N) (by have := unhide HML; unfold maxLen; omega) (by have := unhide HML; omega) hS6.size ?_
  intro v7 w7 hown7 hgr7
  have hr7 : SRow w2.heap.size w7 v7 F := by
    show World.ownsRow _ _ _ _ _ _ _
    rw [unhide HF, List.length_append, List.map_append]
    exact hown7
  have hS7 : Below w2.heap.size w2 w7 := hS6.grown hgr7 hS6.size (fun k hk => (own_lt hr4' k hk).2)
  obtain ⟨a7, c7, rfl⟩ := srow_form hr7
  refine hK.out _ _ (fun _ => hS7) ?_
  clear hK K hown7 hgr7 hr6 hb6 hr4 hr4'
  refine uh 14 (.bool false) hS7 ?_
  refine uq1 15 fun K hK => ?_
  go_simp
  refine hK.out _ _ (fun _ => hS7) ?_
  clear hK K
  refine uq1 16 fun K hK => ?_
  go_simp
  refine hK.out _ _ (fun _ => hS7) ?_
  clear hK K
  obtain ⟨w8, hw8⟩ : ∃ w8, w8 = w7 := ⟨_, rfl⟩
  have hS8 : Below w2.heap.size w2 w8 := by rw [hw8]; exact hS7
  have hr8 : SRow w2.heap.size w8 (.slice a7 F.length c7) F := by rw [hw8]; exact hr7
  rw [← hw8]
  clear hw8 hS7 hr7
  refine uh 17 (.bool false) hS8 ?_
  refine uh 18 (.agg #[.int .i64 (no : Int), .slice a7 F.length c7, .bool false, .pointer none]) hS8 ?_
  refine uq1 19 fun K hK => ?_
  go_simp
  refine Calls.mono (in_any _ true no a7 F.length c7 false none w8) ?_
  rintro e w9 ⟨⟨rfl, hk9⟩, hb9⟩
  have hS9 : Below w2.heap.size w2 w9 := hS8.trans (hb9.mono hS8.size)
  have hr9 := SRow.later hr8 hb9
  have hr2 : w9.heap[w.heap.size + 1]? = some (.cells #[.pointer none, .bool false] 112 (0, 0)) := by rw [hS9.block _ (by omega)]; exact unhide HR2
  have q0' : w9.cell? ⟨w.heap.size + 1, 0, none⟩ = some (.pointer none) := by rw [cell_of hr2]; rfl
  have q1' : w9.cell? ⟨w.heap.size + 1, 1, none⟩ = some (.bool false) := by rw [cell_of hr2]; rfl
  have qf := frozen_of hr2
  have hrl := lt_of_heap hr2
  have HZ := hide hS8.size
  refine hK.out _ _ (fun _ => hS9) ?_
  clear hK K hS8 hr8
  refine uq1 20 fun K hK => ?_
  go_simp
  refine hK.out _ _ (fun e => by cases e) ?_
  clear hK K
  refine udone (by kernel_rfl) ?_ _
  go_simp
  obtain ⟨wz, hwz⟩ : ∃ wz, wz = (w9.setCell ⟨w.heap.size + 1, 0, none⟩ (sPtr (w8.heap.size + 1))).setCell ⟨w.heap.size + 1, 1, none⟩ (.bool true) := ⟨_, rfl⟩
  rw [← hwz]
  have hset : ∀ k, k ≠ w.heap.size + 1 → wz.heap[k]? = w9.heap[k]? := fun k hk => by rw [hwz, ne_set hk, ne_set hk]
  have hzb : wz.heap[w.heap.size + 1]? = some (.cells #[sPtr (w8.heap.size + 1), .bool true] 112 (0, 0)) := by rw [hwz, heap_set (heap_set hr2 _)]; rfl
  have z0 : wz.cell? ⟨w.heap.size + 1, 0, none⟩ = some (sPtr (w8.heap.size + 1)) := by rw [cell_of hzb]; rfl
  have z1 : wz.cell? ⟨w.heap.size + 1, 1, none⟩ = some (.bool true) := by rw [cell_of hzb]; rfl
  have hz8 := unhide HZ
  have HK9 := hide ((hset (w8.heap.size + 1) (by omega)).trans hk9)
  have HR9 : Hid (SRow w.heap.size wz (.slice a7 F.length c7) F) := srow_mono (owns_stay (I := fun b => w2.heap.size ≤ b) (fun b hb _ => hset b (by have h1 : w2.heap.size ≤ b := hb; omega)) (fun b hb => (own_lt hr9 b hb).2) hr9) (by omega)
  have HSZ : Hid (∀ k, k < w2.heap.size → k ≠ w.heap.size + 1 → wz.heap[k]? = w2.heap[k]?) := fun k h1 h2 => (hset k h2).trans (hS9.block k h1)
  have HBZ : Hid (Below w.heap.size w wz) := by
    show Below _ _ _
    rw [hwz]
    exact (((unhide HB2).trans (hS9.mono (unhide HB2).size)).setCell (p := ⟨w.heap.size + 1, 0, none⟩) (by simp) _).setCell (p := ⟨w.heap.size + 1, 1, none⟩) (by simp) _
  clear hwz hset hzb hk9 hS9 hr9 hr2 q0' q1' qf hrl hb9
  go_wp2_with fail
  refine bodyPost_ret (v := plV2 (sPtr (w8.heap.size + 1)) true) (by simp [results, Tryz.results128, go_sem, z0, z1]) rfl ⟨⟨w8.heap.size + 1, _, _, rfl, by omega, unhide HK9, unhide HR9, ?_⟩, unhide HBZ⟩
  exact Or.inl ⟨by decide, rfl⟩
end Go.Proofs.YtoimgcjbcbhclaaGreatDoor
