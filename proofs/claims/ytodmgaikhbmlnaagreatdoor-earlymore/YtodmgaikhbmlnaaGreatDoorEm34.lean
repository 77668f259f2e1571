/-
  wrong: what is wrong with a node itself.
-/
import Derived.Test.YtodmgaikhbmlnaaGreatDoorEm32
import Derived.Test.YtodmgaikhbmlnaaGreatDoorEm33
set_option maxRecDepth 100000
set_option maxHeartbeats 16000000
namespace Go.Proofs.YtodmgaikhbmlnaaGreatDoor
open Go.RowKit

def wrT (t : Tr) (s i b : Bool) : Option Int :=
  if t.kd = 1 then scE t true
  else if t.kd = 6 then scE t b
  else if t.kd = 5 ∨ t.kd = 37 then fnE t s
  else if t.kd = 2 ∨ t.kd = 3 ∨ t.kd = 4 then nmE s t.tx
  else if t.kd = 13 then catchE t s
  else if t.kd = 7 ∨ t.kd = 8 ∨ t.kd = 9 then brE t s
  else if t.kd = 10 then (if i then none else some 6)
  else if t.kd = 24 then (if (kidT t 0).kd = 23 then nmE s (kidT t 0).tx else none)
  else if t.kd = 34 then (if s && (kidT t 0).kd == 23 then some 1 else none)
  else none

section
variable (t : Tr) (p : Nat) (s i b : Bool) (w : World) (h : NTr w t p) (hc : t.count ≤ 20000)
include h hc
theorem wrg1 (hkd : t.kd = 1) : Calls Tryz.prog 143 #[nPtr p, plV s i b] w fun e w' => e = .returned (erV (scE t true)) ∧ Below w.heap.size w w' := by
  have htc : t.count = 1 + Tr.counts t.kids := by cases t with | mk kd tx nn ks => exact count_mk _ _ _ _
  have hkl : t.kids.length ≤ 20000 := by have := counts_len t.kids; omega
  obtain ⟨wA, hwA⟩ : ∃ wA, wA = w.alloc (.cells #[.bool s, .bool i, .bool b] 112) := ⟨_, rfl⟩
  have hbA : Below w.heap.size w wA := by rw [hwA]; exact (Below.refl _ _).alloc (Nat.le_refl _) _
  have hpA : PlAt w.heap.size s i b wA := by rw [hwA]; exact PlAt.new _ _ _ _
  have hnA := h.later hbA
  obtain ⟨hpl, c0, c1, u, c3, hr⟩ := h.cells
  rw [hkd] at c0
  have HBA := hide hbA
  have HPL := hide hpA
  have HC := hide (wrongScope_any t p true wA hnA hc)
  have h0 := hpA.c0
  have h1 := hpA.c1
  have h2 := hpA.c2
  generalize scE t true = er at HC
  clear h hc htc hkl hnA hbA hpA hr hkd HPL
  rw [hwA] at h0 h1 h2 HC HBA
  clear hwA
  go_enter Tryz.func143, Tryz.ntmps143
  go_wp2_with fail
  refine Calls.mono HC.out ?_
  rintro e w2 ⟨rfl, hb2⟩
  have HB2 := hide ((unhide HBA).trans (hb2.mono (unhide HBA).size))
  clear HC hb2
  cases er <;>
  · unfold erV
    go_wp2_with fail
    go_ret
    exact ⟨rfl, unhide HB2⟩

theorem wrg6 (hkd : t.kd = 6) : Calls Tryz.prog 143 #[nPtr p, plV s i b] w fun e w' => e = .returned (erV (scE t b)) ∧ Below w.heap.size w w' := by
  have htc : t.count = 1 + Tr.counts t.kids := by cases t with | mk kd tx nn ks => exact count_mk _ _ _ _
  have hkl : t.kids.length ≤ 20000 := by have := counts_len t.kids; omega
  obtain ⟨wA, hwA⟩ : ∃ wA, wA = w.alloc (.cells #[.bool s, .bool i, .bool b] 112) := ⟨_, rfl⟩
  have hbA : Below w.heap.size w wA := by rw [hwA]; exact (Below.refl _ _).alloc (Nat.le_refl _) _
  have hpA : PlAt w.heap.size s i b wA := by rw [hwA]; exact PlAt.new _ _ _ _
  have hnA := h.later hbA
  obtain ⟨hpl, c0, c1, u, c3, hr⟩ := h.cells
  rw [hkd] at c0
  have HBA := hide hbA
  have HPL := hide hpA
  have HC := hide (wrongScope_any t p b wA hnA hc)
  have h0 := hpA.c0
  have h1 := hpA.c1
  have h2 := hpA.c2
  generalize scE t b = er at HC
  clear h hc htc hkl hnA hbA hpA hr hkd HPL
  rw [hwA] at h0 h1 h2 HC HBA
  clear hwA
  go_enter Tryz.func143, Tryz.ntmps143
  go_wp2_with fail
  refine Calls.mono HC.out ?_
  rintro e w2 ⟨rfl, hb2⟩
  have HB2 := hide ((unhide HBA).trans (hb2.mono (unhide HBA).size))
  clear HC hb2
  cases er <;>
  · unfold erV
    go_wp2_with fail
    go_ret
    exact ⟨rfl, unhide HB2⟩

theorem wrg5 (hkd : t.kd = 5) (hk : 2 ≤ t.kids.length) : Calls Tryz.prog 143 #[nPtr p, plV s i b] w fun e w' => e = .returned (erV (fnE t s)) ∧ Below w.heap.size w w' := by
  have htc : t.count = 1 + Tr.counts t.kids := by cases t with | mk kd tx nn ks => exact count_mk _ _ _ _
  have hkl : t.kids.length ≤ 20000 := by have := counts_len t.kids; omega
  obtain ⟨wA, hwA⟩ : ∃ wA, wA = w.alloc (.cells #[.bool s, .bool i, .bool b] 112) := ⟨_, rfl⟩
  have hbA : Below w.heap.size w wA := by rw [hwA]; exact (Below.refl _ _).alloc (Nat.le_refl _) _
  have hpA : PlAt w.heap.size s i b wA := by rw [hwA]; exact PlAt.new _ _ _ _
  have hnA := h.later hbA
  obtain ⟨hpl, c0, c1, u, c3, hr⟩ := h.cells
  rw [hkd] at c0
  have HBA := hide hbA
  have HPL := hide hpA
  have HC := hide (wrongFunction_any t p s i b wA hnA hk hc)
  have h0 := hpA.c0
  have h1 := hpA.c1
  have h2 := hpA.c2
  generalize fnE t s = er at HC
  clear h hc htc hkl hnA hbA hpA hr hkd HPL
  rw [hwA] at h0 h1 h2 HC HBA
  clear hwA
  go_enter Tryz.func143, Tryz.ntmps143
  go_wp2_with fail
  refine Calls.mono HC.out ?_
  rintro e w2 ⟨rfl, hb2⟩
  have HB2 := hide ((unhide HBA).trans (hb2.mono (unhide HBA).size))
  clear HC hb2
  cases er <;>
  · unfold erV
    go_wp2_with fail
    go_ret
    exact ⟨rfl, unhide HB2⟩

theorem wrg37 (hkd : t.kd = 37) (hk : 2 ≤ t.kids.length) : Calls Tryz.prog 143 #[nPtr p, plV s i b] w fun e w' => e = .returned (erV (fnE t s)) ∧ Below w.heap.size w w' := by
  have htc : t.count = 1 + Tr.counts t.kids := by cases t with | mk kd tx nn ks => exact count_mk _ _ _ _
  have hkl : t.kids.length ≤ 20000 := by have := counts_len t.kids; omega
  obtain ⟨wA, hwA⟩ : ∃ wA, wA = w.alloc (.cells #[.bool s, .bool i, .bool b] 112) := ⟨_, rfl⟩
  have hbA : Below w.heap.size w wA := by rw [hwA]; exact (Below.refl _ _).alloc (Nat.le_refl _) _
  have hpA : PlAt w.heap.size s i b wA := by rw [hwA]; exact PlAt.new _ _ _ _
  have hnA := h.later hbA
  obtain ⟨hpl, c0, c1, u, c3, hr⟩ := h.cells
  rw [hkd] at c0
  have HBA := hide hbA
  have HPL := hide hpA
  have HC := hide (wrongFunction_any t p s i b wA hnA hk hc)
  have h0 := hpA.c0
  have h1 := hpA.c1
  have h2 := hpA.c2
  generalize fnE t s = er at HC
  clear h hc htc hkl hnA hbA hpA hr hkd HPL
  rw [hwA] at h0 h1 h2 HC HBA
  clear hwA
  go_enter Tryz.func143, Tryz.ntmps143
  go_wp2_with fail
  refine Calls.mono HC.out ?_
  rintro e w2 ⟨rfl, hb2⟩
  have HB2 := hide ((unhide HBA).trans (hb2.mono (unhide HBA).size))
  clear HC hb2
  cases er <;>
  · unfold erV
    go_wp2_with fail
    go_ret
    exact ⟨rfl, unhide HB2⟩

theorem wrg13 (hkd : t.kd = 13) (hk : 1 ≤ t.kids.length) : Calls Tryz.prog 143 #[nPtr p, plV s i b] w fun e w' => e = .returned (erV (catchE t s)) ∧ Below w.heap.size w w' := by
  have htc : t.count = 1 + Tr.counts t.kids := by cases t with | mk kd tx nn ks => exact count_mk _ _ _ _
  have hkl : t.kids.length ≤ 20000 := by have := counts_len t.kids; omega
  obtain ⟨wA, hwA⟩ : ∃ wA, wA = w.alloc (.cells #[.bool s, .bool i, .bool b] 112) := ⟨_, rfl⟩
  have hbA : Below w.heap.size w wA := by rw [hwA]; exact (Below.refl _ _).alloc (Nat.le_refl _) _
  have hpA : PlAt w.heap.size s i b wA := by rw [hwA]; exact PlAt.new _ _ _ _
  have hnA := h.later hbA
  obtain ⟨hpl, c0, c1, u, c3, hr⟩ := h.cells
  rw [hkd] at c0
  have HBA := hide hbA
  have HPL := hide hpA
  have HC := hide (wrongCatch_any t p s i b wA hnA hk hc)
  have h0 := hpA.c0
  have h1 := hpA.c1
  have h2 := hpA.c2
  generalize catchE t s = er at HC
  clear h hc htc hkl hnA hbA hpA hr hkd HPL
  rw [hwA] at h0 h1 h2 HC HBA
  clear hwA
  go_enter Tryz.func143, Tryz.ntmps143
  go_wp2_with fail
  refine Calls.mono HC.out ?_
  rintro e w2 ⟨rfl, hb2⟩
  have HB2 := hide ((unhide HBA).trans (hb2.mono (unhide HBA).size))
  clear HC hb2
  cases er <;>
  · unfold erV
    go_wp2_with fail
    go_ret
    exact ⟨rfl, unhide HB2⟩

theorem wrg7 (hkd : t.kd = 7) : Calls Tryz.prog 143 #[nPtr p, plV s i b] w fun e w' => e = .returned (erV (brE t s)) ∧ Below w.heap.size w w' := by
  have htc : t.count = 1 + Tr.counts t.kids := by cases t with | mk kd tx nn ks => exact count_mk _ _ _ _
  have hkl : t.kids.length ≤ 20000 := by have := counts_len t.kids; omega
  obtain ⟨wA, hwA⟩ : ∃ wA, wA = w.alloc (.cells #[.bool s, .bool i, .bool b] 112) := ⟨_, rfl⟩
  have hbA : Below w.heap.size w wA := by rw [hwA]; exact (Below.refl _ _).alloc (Nat.le_refl _) _
  have hpA : PlAt w.heap.size s i b wA := by rw [hwA]; exact PlAt.new _ _ _ _
  have hnA := h.later hbA
  obtain ⟨hpl, c0, c1, u, c3, hr⟩ := h.cells
  rw [hkd] at c0
  have HBA := hide hbA
  have HPL := hide hpA
  have HC := hide (wrongBranch_any t p s i b wA hnA (by omega))
  have h0 := hpA.c0
  have h1 := hpA.c1
  have h2 := hpA.c2
  generalize brE t s = er at HC
  clear h hc htc hkl hnA hbA hpA hr hkd HPL
  rw [hwA] at h0 h1 h2 HC HBA
  clear hwA
  go_enter Tryz.func143, Tryz.ntmps143
  go_wp2_with fail
  refine Calls.mono HC.out ?_
  rintro e w2 ⟨rfl, hb2⟩
  have HB2 := hide ((unhide HBA).trans (hb2.mono (unhide HBA).size))
  clear HC hb2
  cases er <;>
  · unfold erV
    go_wp2_with fail
    go_ret
    exact ⟨rfl, unhide HB2⟩

theorem wrg8 (hkd : t.kd = 8) : Calls Tryz.prog 143 #[nPtr p, plV s i b] w fun e w' => e = .returned (erV (brE t s)) ∧ Below w.heap.size w w' := by
  have htc : t.count = 1 + Tr.counts t.kids := by cases t with | mk kd tx nn ks => exact count_mk _ _ _ _
  have hkl : t.kids.length ≤ 20000 := by have := counts_len t.kids; omega
  obtain ⟨wA, hwA⟩ : ∃ wA, wA = w.alloc (.cells #[.bool s, .bool i, .bool b] 112) := ⟨_, rfl⟩
  have hbA : Below w.heap.size w wA := by rw [hwA]; exact (Below.refl _ _).alloc (Nat.le_refl _) _
  have hpA : PlAt w.heap.size s i b wA := by rw [hwA]; exact PlAt.new _ _ _ _
  have hnA := h.later hbA
  obtain ⟨hpl, c0, c1, u, c3, hr⟩ := h.cells
  rw [hkd] at c0
  have HBA := hide hbA
  have HPL := hide hpA
  have HC := hide (wrongBranch_any t p s i b wA hnA (by omega))
  have h0 := hpA.c0
  have h1 := hpA.c1
  have h2 := hpA.c2
  generalize brE t s = er at HC
  clear h hc htc hkl hnA hbA hpA hr hkd HPL
  rw [hwA] at h0 h1 h2 HC HBA
  clear hwA
  go_enter Tryz.func143, Tryz.ntmps143
  go_wp2_with fail
  refine Calls.mono HC.out ?_
  rintro e w2 ⟨rfl, hb2⟩
  have HB2 := hide ((unhide HBA).trans (hb2.mono (unhide HBA).size))
  clear HC hb2
  cases er <;>
  · unfold erV
    go_wp2_with fail
    go_ret
    exact ⟨rfl, unhide HB2⟩

theorem wrg9 (hkd : t.kd = 9) : Calls Tryz.prog 143 #[nPtr p, plV s i b] w fun e w' => e = .returned (erV (brE t s)) ∧ Below w.heap.size w w' := by
  have htc : t.count = 1 + Tr.counts t.kids := by cases t with | mk kd tx nn ks => exact count_mk _ _ _ _
  have hkl : t.kids.length ≤ 20000 := by have := counts_len t.kids; omega
  obtain ⟨wA, hwA⟩ : ∃ wA, wA = w.alloc (.cells #[.bool s, .bool i, .bool b] 112) := ⟨_, rfl⟩
  have hbA : Below w.heap.size w wA := by rw [hwA]; exact (Below.refl _ _).alloc (Nat.le_refl _) _
  have hpA : PlAt w.heap.size s i b wA := by rw [hwA]; exact PlAt.new _ _ _ _
  have hnA := h.later hbA
  obtain ⟨hpl, c0, c1, u, c3, hr⟩ := h.cells
  rw [hkd] at c0
  have HBA := hide hbA
  have HPL := hide hpA
  have HC := hide (wrongBranch_any t p s i b wA hnA (by omega))
  have h0 := hpA.c0
  have h1 := hpA.c1
  have h2 := hpA.c2
  generalize brE t s = er at HC
  clear h hc htc hkl hnA hbA hpA hr hkd HPL
  rw [hwA] at h0 h1 h2 HC HBA
  clear hwA
  go_enter Tryz.func143, Tryz.ntmps143
  go_wp2_with fail
  refine Calls.mono HC.out ?_
  rintro e w2 ⟨rfl, hb2⟩
  have HB2 := hide ((unhide HBA).trans (hb2.mono (unhide HBA).size))
  clear HC hb2
  cases er <;>
  · unfold erV
    go_wp2_with fail
    go_ret
    exact ⟨rfl, unhide HB2⟩

theorem wrg2 (hkd : t.kd = 2) : Calls Tryz.prog 143 #[nPtr p, plV s i b] w fun e w' => e = .returned (erV (nmE s t.tx)) ∧ Below w.heap.size w w' := by
  have htc : t.count = 1 + Tr.counts t.kids := by cases t with | mk kd tx nn ks => exact count_mk _ _ _ _
  have hkl : t.kids.length ≤ 20000 := by have := counts_len t.kids; omega
  obtain ⟨wA, hwA⟩ : ∃ wA, wA = w.alloc (.cells #[.bool s, .bool i, .bool b] 112) := ⟨_, rfl⟩
  have hbA : Below w.heap.size w wA := by rw [hwA]; exact (Below.refl _ _).alloc (Nat.le_refl _) _
  have hpA : PlAt w.heap.size s i b wA := by rw [hwA]; exact PlAt.new _ _ _ _
  have hnA := h.later hbA
  obtain ⟨hpl, c0, c1, u, c3, hr⟩ := h.cells
  rw [hkd] at c0
  have HBA := hide hbA
  have HPL := hide hpA
  have HNM := hide (fun W => wrongName_any s i b t.tx W)
  have HC1 := hide (keepC hbA c1)
  have hpl2 := cell_lt (unhide HC1)
  generalize t.tx = tx at HNM HC1 c1
  generalize nmE s tx = er at HNM
  clear h hc htc hkl hnA hbA hpA hr hkd c3 c1
  go_enter Tryz.func143, Tryz.ntmps143
  go_wp2_with fail
  rw [← hwA]
  have hS0 : Below wA.heap.size wA wA.drew := (Below.refl _ _).drew
  refine wp_region_held (S := fun X => Below wA.heap.size wA X) (by kernel_rfl) ?_
  change wpAnyH _ _ _ _ _ _ _ _ (World.drew _)
  refine wh 0 (nPtr p) hS0 ?_
  refine wh 1 (nPtr p) hS0 ?_
  refine wh 2 (.pointer (some ⟨p, 1, none⟩)) hS0 ?_
  refine wh 3 (.string tx) hS0 ?_ (hy := Or.inl ⟨by kernel_rfl, fun X hX => by have hh := keepC hX (unhide HC1); go_simp⟩)
  refine wh 4 (plV s i b) hS0 ?_ (hy := Or.inl ⟨by kernel_rfl, fun X hX => by
      have hh := PlAt.later (unhide HPL) hX
      have h0 := hh.c0
      have h1 := hh.c1
      have h2 := hh.c2
      clear hh
      go_simp⟩)
  refine wq1 5 fun K hK => ?_
  go_simp
  refine Calls.mono ((unhide HNM) _) ?_
  rintro e w2 ⟨rfl, hb2⟩
  try rw [← hwA] at hb2
  have hS2 : Below wA.heap.size wA w2 := hS0.trans (hb2.mono (Nat.le_refl _))
  refine hK.out _ _ hS2 (fun _ => ?_)
  clear hK K
  refine wh 6 (erV er) hS2 ?_
  refine wpAnyH_done (by kernel_rfl) ?_ _
  go_simp
  have HS2 := hide hS2
  clear hb2 hS2 hS0
  cases er <;>
  · unfold erV
    go_wp2_with fail
    go_ret
    exact ⟨rfl, (unhide HBA).trans ((unhide HS2).mono (unhide HBA).size)⟩

theorem wrg3 (hkd : t.kd = 3) : Calls Tryz.prog 143 #[nPtr p, plV s i b] w fun e w' => e = .returned (erV (nmE s t.tx)) ∧ Below w.heap.size w w' := by
  have htc : t.count = 1 + Tr.counts t.kids := by cases t with | mk kd tx nn ks => exact count_mk _ _ _ _
  have hkl : t.kids.length ≤ 20000 := by have := counts_len t.kids; omega
  obtain ⟨wA, hwA⟩ : ∃ wA, wA = w.alloc (.cells #[.bool s, .bool i, .bool b] 112) := ⟨_, rfl⟩
  have hbA : Below w.heap.size w wA := by rw [hwA]; exact (Below.refl _ _).alloc (Nat.le_refl _) _
  have hpA : PlAt w.heap.size s i b wA := by rw [hwA]; exact PlAt.new _ _ _ _
  have hnA := h.later hbA
  obtain ⟨hpl, c0, c1, u, c3, hr⟩ := h.cells
  rw [hkd] at c0
  have HBA := hide hbA
  have HPL := hide hpA
  have HNM := hide (fun W => wrongName_any s i b t.tx W)
  have HC1 := hide (keepC hbA c1)
  have hpl2 := cell_lt (unhide HC1)
  generalize t.tx = tx at HNM HC1 c1
  generalize nmE s tx = er at HNM
  clear h hc htc hkl hnA hbA hpA hr hkd c3 c1
  go_enter Tryz.func143, Tryz.ntmps143
  go_wp2_with fail
  rw [← hwA]
  have hS0 : Below wA.heap.size wA wA.drew := (Below.refl _ _).drew
  refine wp_region_held (S := fun X => Below wA.heap.size wA X) (by kernel_rfl) ?_
  change wpAnyH _ _ _ _ _ _ _ _ (World.drew _)
  refine wh 0 (nPtr p) hS0 ?_
  refine wh 1 (nPtr p) hS0 ?_
  refine wh 2 (.pointer (some ⟨p, 1, none⟩)) hS0 ?_
  refine wh 3 (.string tx) hS0 ?_ (hy := Or.inl ⟨by kernel_rfl, fun X hX => by have hh := keepC hX (unhide HC1); go_simp⟩)
  refine wh 4 (plV s i b) hS0 ?_ (hy := Or.inl ⟨by kernel_rfl, fun X hX => by
      have hh := PlAt.later (unhide HPL) hX
      have h0 := hh.c0
      have h1 := hh.c1
      have h2 := hh.c2
      clear hh
      go_simp⟩)
  refine wq1 5 fun K hK => ?_
  go_simp
  refine Calls.mono ((unhide HNM) _) ?_
  rintro e w2 ⟨rfl, hb2⟩
  try rw [← hwA] at hb2
  have hS2 : Below wA.heap.size wA w2 := hS0.trans (hb2.mono (Nat.le_refl _))
  refine hK.out _ _ hS2 (fun _ => ?_)
  clear hK K
  refine wh 6 (erV er) hS2 ?_
  refine wpAnyH_done (by kernel_rfl) ?_ _
  go_simp
  have HS2 := hide hS2
  clear hb2 hS2 hS0
  cases er <;>
  · unfold erV
    go_wp2_with fail
    go_ret
    exact ⟨rfl, (unhide HBA).trans ((unhide HS2).mono (unhide HBA).size)⟩

theorem wrg4 (hkd : t.kd = 4) : Calls Tryz.prog 143 #[nPtr p, plV s i b] w fun e w' => e = .returned (erV (nmE s t.tx)) ∧ Below w.heap.size w w' := by
  have htc : t.count = 1 + Tr.counts t.kids := by cases t with | mk kd tx nn ks => exact count_mk _ _ _ _
  have hkl : t.kids.length ≤ 20000 := by have := counts_len t.kids; omega
  obtain ⟨wA, hwA⟩ : ∃ wA, wA = w.alloc (.cells #[.bool s, .bool i, .bool b] 112) := ⟨_, rfl⟩
  have hbA : Below w.heap.size w wA := by rw [hwA]; exact (Below.refl _ _).alloc (Nat.le_refl _) _
  have hpA : PlAt w.heap.size s i b wA := by rw [hwA]; exact PlAt.new _ _ _ _
  have hnA := h.later hbA
  obtain ⟨hpl, c0, c1, u, c3, hr⟩ := h.cells
  rw [hkd] at c0
  have HBA := hide hbA
  have HPL := hide hpA
  have HNM := hide (fun W => wrongName_any s i b t.tx W)
  have HC1 := hide (keepC hbA c1)
  have hpl2 := cell_lt (unhide HC1)
  generalize t.tx = tx at HNM HC1 c1
  generalize nmE s tx = er at HNM
  clear h hc htc hkl hnA hbA hpA hr hkd c3 c1
  go_enter Tryz.func143, Tryz.ntmps143
  go_wp2_with fail
  rw [← hwA]
  have hS0 : Below wA.heap.size wA wA.drew := (Below.refl _ _).drew
  refine wp_region_held (S := fun X => Below wA.heap.size wA X) (by kernel_rfl) ?_
  change wpAnyH _ _ _ _ _ _ _ _ (World.drew _)
  refine wh 0 (nPtr p) hS0 ?_
  refine wh 1 (nPtr p) hS0 ?_
  refine wh 2 (.pointer (some ⟨p, 1, none⟩)) hS0 ?_
  refine wh 3 (.string tx) hS0 ?_ (hy := Or.inl ⟨by kernel_rfl, fun X hX => by have hh := keepC hX (unhide HC1); go_simp⟩)
  refine wh 4 (plV s i b) hS0 ?_ (hy := Or.inl ⟨by kernel_rfl, fun X hX => by
      have hh := PlAt.later (unhide HPL) hX
      have h0 := hh.c0
      have h1 := hh.c1
      have h2 := hh.c2
      clear hh
      go_simp⟩)
  refine wq1 5 fun K hK => ?_
  go_simp
  refine Calls.mono ((unhide HNM) _) ?_
  rintro e w2 ⟨rfl, hb2⟩
  try rw [← hwA] at hb2
  have hS2 : Below wA.heap.size wA w2 := hS0.trans (hb2.mono (Nat.le_refl _))
  refine hK.out _ _ hS2 (fun _ => ?_)
  clear hK K
  refine wh 6 (erV er) hS2 ?_
  refine wpAnyH_done (by kernel_rfl) ?_ _
  go_simp
  have HS2 := hide hS2
  clear hb2 hS2 hS0
  cases er <;>
  · unfold erV
    go_wp2_with fail
    go_ret
    exact ⟨rfl, (unhide HBA).trans ((unhide HS2).mono (unhide HBA).size)⟩

theorem wrg10 (hkd : t.kd = 10) : Calls Tryz.prog 143 #[nPtr p, plV s i b] w fun e w' => e = .returned (erV (if i then none else some 6)) ∧ Below w.heap.size w w' := by
  have htc : t.count = 1 + Tr.counts t.kids := by cases t with | mk kd tx nn ks => exact count_mk _ _ _ _
  have hkl : t.kids.length ≤ 20000 := by have := counts_len t.kids; omega
  obtain ⟨wA, hwA⟩ : ∃ wA, wA = w.alloc (.cells #[.bool s, .bool i, .bool b] 112) := ⟨_, rfl⟩
  have hbA : Below w.heap.size w wA := by rw [hwA]; exact (Below.refl _ _).alloc (Nat.le_refl _) _
  have hpA : PlAt w.heap.size s i b wA := by rw [hwA]; exact PlAt.new _ _ _ _
  have hnA := h.later hbA
  obtain ⟨hpl, c0, c1, u, c3, hr⟩ := h.cells
  rw [hkd] at c0
  have HBA := hide hbA
  have HPL := hide hpA
  have h1 := hpA.c1
  rw [hwA] at h1 HBA
  clear h hc htc hkl hnA hbA hpA hr hkd c3 c1 hwA HPL
  cases i <;>
  · go_enter Tryz.func143, Tryz.ntmps143
    go_wp2_with fail
    go_ret
    exact ⟨rfl, unhide HBA⟩

theorem wrg24 (hkd : t.kd = 24) (hk : 1 ≤ t.kids.length) : Calls Tryz.prog 143 #[nPtr p, plV s i b] w fun e w' => e = .returned (erV (if (kidT t 0).kd = 23 then nmE s (kidT t 0).tx else none)) ∧ Below w.heap.size w w' := by
  have htc : t.count = 1 + Tr.counts t.kids := by cases t with | mk kd tx nn ks => exact count_mk _ _ _ _
  have hkl : t.kids.length ≤ 20000 := by have := counts_len t.kids; omega
  obtain ⟨wA, hwA⟩ : ∃ wA, wA = w.alloc (.cells #[.bool s, .bool i, .bool b] 112) := ⟨_, rfl⟩
  have hbA : Below w.heap.size w wA := by rw [hwA]; exact (Below.refl _ _).alloc (Nat.le_refl _) _
  have hpA : PlAt w.heap.size s i b wA := by rw [hwA]; exact PlAt.new _ _ _ _
  have hnA := h.later hbA
  obtain ⟨hpl, c0, c1, u, c3, hr⟩ := h.cells
  rw [hkd] at c0
  have HBA := hide hbA
  have HPL := hide hpA
  obtain ⟨g, cap, q, rfl, hg, hcq, hnq⟩ := hr.cell 0 (by omega)
  rw [← kidT_eq t 0 (by omega)] at hnq
  obtain ⟨hql, k0, k1, _⟩ := hnq.cells
  have HNM := hide (fun W => wrongName_any s i b (kidT t 0).tx W)
  have HC1 := hide (keepC hbA k1)
  have hpl2 := cell_lt (unhide HC1)
  generalize (kidT t 0).tx = tx at HNM HC1 k1
  generalize (kidT t 0).kd = kk at k0
  generalize t.kids.length = L at c3 hk hkl
  generalize nmE s tx = er at HNM
  clear h hc htc hnA hbA hpA hr hkd c1 hnq k1
  by_cases h23 : kk = 23
  · subst h23
    simp only [if_true]
    go_enter Tryz.func143, Tryz.ntmps143
    go_wp2_with fail
    rw [← hwA]
    have hS0 : Below wA.heap.size wA wA.drew := (Below.refl _ _).drew
    refine wp_region_held (S := fun X => Below wA.heap.size wA X) (by kernel_rfl) ?_
    change wpAnyH _ _ _ _ _ _ _ _ (World.drew _)
    refine wh 0 (nPtr q) hS0 ?_
    refine wh 1 (nPtr q) hS0 ?_
    refine wh 2 (.pointer (some ⟨q, 1, none⟩)) hS0 ?_
    refine wh 3 (.string tx) hS0 ?_ (hy := Or.inl ⟨by kernel_rfl, fun X hX => by have hh := keepC hX (unhide HC1); go_simp⟩)
    refine wh 4 (plV s i b) hS0 ?_ (hy := Or.inl ⟨by kernel_rfl, fun X hX => by
        have hh := PlAt.later (unhide HPL) hX
        have h0 := hh.c0
        have h1 := hh.c1
        have h2 := hh.c2
        clear hh
        go_simp⟩)
    refine wq1 5 fun K hK => ?_
    go_simp
    refine Calls.mono ((unhide HNM) _) ?_
    rintro e w2 ⟨rfl, hb2⟩
    try rw [← hwA] at hb2
    have hS2 : Below wA.heap.size wA w2 := hS0.trans (hb2.mono (Nat.le_refl _))
    refine hK.out _ _ hS2 (fun _ => ?_)
    clear hK K
    refine wh 6 (erV er) hS2 ?_
    refine wpAnyH_done (by kernel_rfl) ?_ _
    go_simp
    have HS2 := hide hS2
    clear hb2 hS2 hS0
    cases er <;>
    · unfold erV
      go_wp2_with fail
      go_ret
      exact ⟨rfl, (unhide HBA).trans ((unhide HS2).mono (unhide HBA).size)⟩
  · have hk23 : (kk == 23) = false := by simpa using h23
    simp only [if_neg h23]
    rw [hwA] at HBA
    clear h23 hwA HC1 HPL HNM
    go_enter Tryz.func143, Tryz.ntmps143
    go_wp2_with fail
    go_ret
    exact ⟨rfl, unhide HBA⟩

theorem wrg34 (hkd : t.kd = 34) (hk : 1 ≤ t.kids.length) : Calls Tryz.prog 143 #[nPtr p, plV s i b] w fun e w' => e = .returned (erV (if s && (kidT t 0).kd == 23 then some 1 else none)) ∧ Below w.heap.size w w' := by
  have htc : t.count = 1 + Tr.counts t.kids := by cases t with | mk kd tx nn ks => exact count_mk _ _ _ _
  have hkl : t.kids.length ≤ 20000 := by have := counts_len t.kids; omega
  obtain ⟨wA, hwA⟩ : ∃ wA, wA = w.alloc (.cells #[.bool s, .bool i, .bool b] 112) := ⟨_, rfl⟩
  have hbA : Below w.heap.size w wA := by rw [hwA]; exact (Below.refl _ _).alloc (Nat.le_refl _) _
  have hpA : PlAt w.heap.size s i b wA := by rw [hwA]; exact PlAt.new _ _ _ _
  have hnA := h.later hbA
  obtain ⟨hpl, c0, c1, u, c3, hr⟩ := h.cells
  rw [hkd] at c0
  have HBA := hide hbA
  have HPL := hide hpA
  obtain ⟨g, cap, q, rfl, hg, hcq, hnq⟩ := hr.cell 0 (by omega)
  rw [← kidT_eq t 0 (by omega)] at hnq
  obtain ⟨hql, k0, k1, _⟩ := hnq.cells
  generalize (kidT t 0).tx = tx at k1
  generalize (kidT t 0).kd = kk at k0
  generalize t.kids.length = L at c3 hk hkl
  have h0 := hpA.c0
  rw [hwA] at h0 HBA
  clear h hc htc hnA hbA hpA hr hkd c1 hnq k1 HPL hwA
  cases s with
  | false =>
    go_enter Tryz.func143, Tryz.ntmps143
    go_wp2_with fail
    go_ret
    exact ⟨rfl, unhide HBA⟩
  | true =>
    cases h23 : (kk == 23) <;>
    · go_enter Tryz.func143, Tryz.ntmps143
      go_wp2_with fail
      go_ret
      exact ⟨rfl, unhide HBA⟩

omit hc in
theorem wrE (hno : t.kd ≠ 1 ∧ t.kd ≠ 6 ∧ t.kd ≠ 5 ∧ t.kd ≠ 37 ∧ t.kd ≠ 2 ∧ t.kd ≠ 3 ∧ t.kd ≠ 4 ∧ t.kd ≠ 13 ∧ t.kd ≠ 7 ∧ t.kd ≠ 8 ∧ t.kd ≠ 9 ∧ t.kd ≠ 10 ∧ t.kd ≠ 24 ∧ t.kd ≠ 34) : Calls Tryz.prog 143 #[nPtr p, plV s i b] w fun e w' => e = .returned (erV none) ∧ Below w.heap.size w w' := by
  obtain ⟨hpl, c0, _, _⟩ := h.cells
  have HBA := hide ((Below.refl w.heap.size w).alloc (Nat.le_refl _) (.cells #[.bool s, .bool i, .bool b] 112))
  clear h
  generalize t.kd = kd at c0 hno
  obtain ⟨n1, n6, n5, n37, n2, n3, n4, n13, n7, n8, n9, n10, n24, n34⟩ := hno
  have m1 : (kd == 1) = false := by simpa using n1
  have m6 : (kd == 6) = false := by simpa using n6
  have m5 : (kd == 5) = false := by simpa using n5
  have m37 : (kd == 37) = false := by simpa using n37
  have m2 : (kd == 2) = false := by simpa using n2
  have m3 : (kd == 3) = false := by simpa using n3
  have m4 : (kd == 4) = false := by simpa using n4
  have m13 : (kd == 13) = false := by simpa using n13
  have m7 : (kd == 7) = false := by simpa using n7
  have m8 : (kd == 8) = false := by simpa using n8
  have m9 : (kd == 9) = false := by simpa using n9
  have m10 : (kd == 10) = false := by simpa using n10
  have m24 : (kd == 24) = false := by simpa using n24
  have m34 : (kd == 34) = false := by simpa using n34
  clear n1 n6 n5 n37 n2 n3 n4 n13 n7 n8 n9 n10 n24 n34
  go_enter Tryz.func143, Tryz.ntmps143
  go_wp2_with fail
  go_ret
  exact ⟨rfl, unhide HBA⟩

theorem wrong_any (hill : need t.kd ≤ t.kids.length) : Calls Tryz.prog 143 #[nPtr p, plV s i b] w fun e w' => e = .returned (erV (wrT t s i b)) ∧ Below w.heap.size w w' := by
  unfold wrT
  by_cases k1 : t.kd = 1
  · rw [if_pos k1]; exact wrg1 t p s i b w h hc k1
  rw [if_neg k1]
  by_cases k6 : t.kd = 6
  · rw [if_pos k6]; exact wrg6 t p s i b w h hc k6
  rw [if_neg k6]
  by_cases k5 : t.kd = 5 ∨ t.kd = 37
  · rw [if_pos k5]
    have hn : need t.kd = 2 := by unfold need; rw [if_pos k5]
    rcases k5 with k | k
    · exact wrg5 t p s i b w h hc k (by omega)
    · exact wrg37 t p s i b w h hc k (by omega)
  rw [if_neg k5]
  by_cases k2 : t.kd = 2 ∨ t.kd = 3 ∨ t.kd = 4
  · rw [if_pos k2]
    rcases k2 with k | k | k
    · exact wrg2 t p s i b w h hc k
    · exact wrg3 t p s i b w h hc k
    · exact wrg4 t p s i b w h hc k
  rw [if_neg k2]
  have hn : ∀ c : Int, (c = 13 ∨ c = 24 ∨ c = 34) → t.kd = c → 1 ≤ t.kids.length := fun c hc' e => by
    have : need t.kd = 1 := by
      rw [e]
      rcases hc' with rfl | rfl | rfl <;> decide
    omega
  by_cases k13 : t.kd = 13
  · rw [if_pos k13]; exact wrg13 t p s i b w h hc k13 (hn _ (by simp) k13)
  rw [if_neg k13]
  by_cases k7 : t.kd = 7 ∨ t.kd = 8 ∨ t.kd = 9
  · rw [if_pos k7]
    rcases k7 with k | k | k
    · exact wrg7 t p s i b w h hc k
    · exact wrg8 t p s i b w h hc k
    · exact wrg9 t p s i b w h hc k
  rw [if_neg k7]
  by_cases k10 : t.kd = 10
  · rw [if_pos k10]; exact wrg10 t p s i b w h hc k10
  rw [if_neg k10]
  by_cases k24 : t.kd = 24
  · rw [if_pos k24]; exact wrg24 t p s i b w h hc k24 (hn _ (by simp) k24)
  rw [if_neg k24]
  by_cases k34 : t.kd = 34
  · rw [if_pos k34]; exact wrg34 t p s i b w h hc k34 (hn _ (by simp) k34)
  rw [if_neg k34]
  exact wrE t p s i b w h ⟨k1, k6, fun e => k5 (Or.inl e), fun e => k5 (Or.inr e), fun e => k2 (Or.inl e), fun e => k2 (Or.inr (Or.inl e)), fun e => k2 (Or.inr (Or.inr e)), k13, fun e => k7 (Or.inl e), fun e => k7 (Or.inr (Or.inl e)), fun e => k7 (Or.inr (Or.inr e)), k10, k24, k34⟩
end
end Go.Proofs.YtodmgaikhbmlnaaGreatDoor
