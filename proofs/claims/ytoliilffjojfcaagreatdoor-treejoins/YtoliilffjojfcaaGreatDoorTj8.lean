/-
  What is thrown is caught, in one place.
-/
import Derived.Test.YtoliilffjojfcaaGreatDoorTj7
import Derived.Recover
import Derived.Defers
namespace Go.Proofs.YtoliilffjojfcaaGreatDoor
open Go.RowKit
set_option maxRecDepth 100000 in
set_option maxHeartbeats 400000 in
theorem catch_idle (p q : Addr) (w : World) :
    CallsD Tryz.prog 87 #[.pointer (some p), .pointer (some q)] .returning w fun e u' w' => e = .returned (.tuple #[]) ∧ u' = .returning ∧ w' = w := by
  refine callsD_of_wpS Tryz.func87 rfl fun c₀ cs hu => ?_
  apply wpS_seq
  apply wpS_region
  simp [wpOpsS, go_sem, recoverD, hu, Tryz.ntmps87, Exit.thenS]
  apply wpS_seq
  apply wpS_seq
  apply wpS_region
  simp [wpOpsS, go_sem, Exit.thenS]
  refine wpS_cond (t := true) (by simp [Act.eval, Array.replicate]) ?_
  simp only [if_true]
  refine wpS_of_wp ?_
  refine wp_ret ?_
  cases c₀
  simp_all [bodyPostS, results, Tryz.results87, Exit.thenS]

set_option maxRecDepth 100000 in
set_option maxHeartbeats 400000 in
theorem catch_fault (p q : Nat) (er : Int) (pl : Nat) (w : World) (a b : Value) (hp : w.cell? ⟨p, 0, none⟩ = some a) (hpf : ∀ o, w.frozen? ⟨p, o, none⟩ = false) (hq : w.cell? ⟨q, 0, none⟩ = some b) (hqf : ∀ o, w.frozen? ⟨q, o, none⟩ = false) (hqp : ¬ q = p) (hpl : p < w.heap.size) (hql : q < w.heap.size) :
    CallsD Tryz.prog 87 #[.pointer (some ⟨p, 0, none⟩), .pointer (some ⟨q, 0, none⟩)] (.panicking (faultV er pl)) w fun e u' w' =>
      e = .returned (.tuple #[]) ∧ u' = .panicking [{ v := .iface 117 (.agg #[.int .i64 er, .int .i64 (pl : Int)]), recovered := true }] ∧ w' = ((((w.setCell ⟨p, 0, none⟩ (.pointer none)).setCell ⟨q, 0, none⟩ (.iface 119 (.pointer (some ⟨w.heap.size + 1, 0, none⟩)))).alloc (.cells #[.int .i64 er, .int .i64 (pl : Int)] 117)).alloc (.cells #[.int .i64 er, .int .i64 (pl : Int)] 120)).drew := by
  refine callsD_of_wpS Tryz.func87 rfl fun c₀ cs hu => ?_
  unfold faultV at hu
  have ta : ∀ W : World, (Instr.typeAssert (.iface 117 (.agg #[.int .i64 er, .int .i64 (pl : Int)])) 20 117 true).run Tryz.prog W = .ok (.tuple #[.agg #[.int .i64 er, .int .i64 (pl : Int)], .bool true]) W := fun W => by kernel_rfl
  rw [Tryz.ntmps87]
  rw [show (#[.pointer (some ⟨p, 0, none⟩), .pointer (some ⟨q, 0, none⟩)] : Array Value) ++ Array.replicate (23 - (#[.pointer (some ⟨p, 0, none⟩), .pointer (some ⟨q, 0, none⟩)] : Array Value).size) undef = #[.pointer (some ⟨p, 0, none⟩), .pointer (some ⟨q, 0, none⟩), undef, undef, undef, undef, undef, undef, undef, undef, undef, undef, undef, undef, undef, undef, undef, undef, undef, undef, undef, undef, undef] from by kernel_rfl]
  apply wpS_seq
  apply wpS_region
  simp [wpOpsS, go_sem, recoverD, hu, Exit.thenS]
  apply wpS_seq
  apply wpS_seq
  apply wpS_region
  simp [wpOpsS, go_sem, Exit.thenS]
  refine wpS_cond (t := false) (by simp [Act.eval]) ?_
  simp only [Bool.false_eq_true, if_false]
  refine wpS_of_wp (wp_skip ?_)
  simp only [Exit.thenS]
  apply wpS_seq
  apply wpS_region
  simp [wpOpsS, go_sem, Exit.thenS, ta]
  apply wpS_seq
  refine wpS_of_wp ?_
  go_wp2_with fail
  simp only [Exit.thenS]
  refine wpS_of_wp ?_
  go_region
  simp [bodyPostS, results, Tryz.results87]

/-- What a reader of tokens hands back. -/
def RdPost (r : PR Tr) (w : World) (e : Ending) (w' : World) : Prop :=
  match r with
  | .ok t _ => ∃ p, e = .returned (.tuple #[nPtr p, .nilIface]) ∧ NAt (From w.heap.size) w' t p ∧ Below w.heap.size w w'
  | .bad er pl => ∃ b, e = .returned (.tuple #[.pointer none, .iface 119 (.pointer (some ⟨b, 0, none⟩))]) ∧ w'.heap[b]? = some (.cells #[.int .i64 er, .int .i64 (pl : Int)] 120 (0, 0)) ∧ w.heap.size ≤ b ∧ Below w.heap.size w w'
  | .out => True

abbrev RW (w : World) : World := (w.alloc (.cells #[.pointer none] 22)).alloc (.cells #[.nilIface] 29)

set_option maxRecDepth 100000 in
set_option maxHeartbeats 1000000 in
theorem read_ok (w : World) (l : List Tk) (tb cap : Nat) (t : Tr) (j : Nat)
    (HN : Calls Tryz.prog 88 #[.slice (some ⟨tb, 0, none⟩) l.length cap] (RW w) fun e w' => ∃ c : Ctx, e = .returned (rPtr c) ∧ c.l = l ∧ (RW w).heap.size ≤ c.R ∧ Rdr c w' 0 0 ∧ Below (RW w).heap.size (RW w) w')
    (HP : ∀ (c : Ctx) (W : World), c.l = l → Rdr c W 0 0 → Calls Tryz.prog 89 #[rPtr c] W (PPost c W 0 (NV W.heap.size) (.ok t j))) :
    Calls Tryz.prog 46 #[.slice (some ⟨tb, 0, none⟩) l.length cap] w (RdPost (.ok t j) w) := by
  have hmf := mf_run
  have HN := hide HN
  have HP := hide HP
  go_enter_defers Tryz.func46, Tryz.ntmps46
  go_wp2_with fail
  refine Calls.mono (unhide HN) ?_
  rintro e w2 ⟨c, rfl, hcl, hcR, hrd, hb2⟩
  have HC := hide ((unhide HP) c w2 hcl hrd)
  have HB2 := hide hb2
  have HCR := hide hcR
  clear hcl hcR hrd hb2
  go_wp2_with fail
  refine Calls.mono HC.out ?_
  intro e w3 hp
  obtain ⟨⟨v, rfl, p, rfl, hn⟩, hrd, ha⟩ := hp
  have hszR : (RW w).heap.size = w.heap.size + 2 := by simp
  have hsz2 := (unhide HB2).size
  have hR := unhide HCR
  have c0 : w3.heap[w.heap.size]? = some (.cells #[.pointer none] 22 (0, 0)) := by
    rw [ha.block _ (by omega) (by omega), (unhide HB2).block _ (by omega), Below.heap_alloc _ _ _ (by simp)]
    exact heap_new _ _
  have c1 : w3.heap[w.heap.size + 1]? = some (.cells #[.nilIface] 29 (0, 0)) := by
    rw [ha.block _ (by omega) (by omega), (unhide HB2).block _ (by omega)]
    have := heap_new (w.alloc (.cells #[.pointer none] 22)) (.cells #[.nilIface] 29)
    simpa using this
  have d0 : w3.cell? ⟨w.heap.size, 0, none⟩ = some (.pointer none) := by rw [cell_of c0]; rfl
  have d0f := frozen_of c0
  have d1 : w3.cell? ⟨w.heap.size + 1, 0, none⟩ = some .nilIface := by rw [cell_of c1]; rfl
  have d1f := frozen_of c1
  have HBW : Hid (Below w.heap.size w w3) := by
    have h1 : Below w.heap.size w (RW w) := ((Below.refl _ _).alloc (Nat.le_refl _) _).alloc (by simp) _
    have h2 : Below w.heap.size w w2 := h1.trans ((unhide HB2).mono (by omega))
    exact h2.trans ((ha.mono (B' := w.heap.size) (by omega)).below (by omega))
  have HNN := hide hn
  have H2 : Hid (w.heap.size + 2 ≤ w2.heap.size) := by show _ ≤ _; omega
  clear hn hrd ha c0 c1 HC HN HP hszR hsz2 hR
  go_wp2_with fail
  refine leaves_cons (f := 87) (args := #[.pointer (some ⟨w.heap.size, 0, none⟩), .pointer (some ⟨w.heap.size + 1, 0, none⟩)]) (by simp) (by simp [go_sem]) ?_
  refine (catch_idle ⟨w.heap.size, 0, none⟩ ⟨w.heap.size + 1, 0, none⟩ _).mono ?_
  rintro e u' w'' ⟨rfl, rfl, rfl⟩
  show Leaves _ _ _ _ [] .returning _
  refine ⟨.tuple #[nPtr p, .nilIface], by simp [results, Tryz.results46, go_sem, d0, d1], p, rfl, ?_, ?_⟩
  · refine NAt.mono (J := From w.heap.size) (fun b hb _ => ?_) _ _ (NAt.later (I := fun b => w2.heap.size ≤ b) (fun b hb _ => ?_) _ _ (unhide HNN))
    · have h2 := unhide H2
      have h3 : w2.heap.size ≤ b := hb
      show w.heap.size ≤ b
      omega
    · have h2 := unhide H2
      have h3 : w2.heap.size ≤ b := hb
      rw [Below.heap_setCell _ ⟨w.heap.size + 1, 0, none⟩ _ b (by show b ≠ w.heap.size + 1; omega), Below.heap_setCell _ ⟨w.heap.size, 0, none⟩ _ b (by show b ≠ w.heap.size; omega)]
  · exact ((unhide HBW).setCell (p := ⟨w.heap.size, 0, none⟩) (Nat.le_refl _) _).setCell (p := ⟨w.heap.size + 1, 0, none⟩) (Nat.le_succ _) _

set_option maxRecDepth 100000 in
set_option maxHeartbeats 1000000 in
theorem read_bad (w : World) (l : List Tk) (tb cap : Nat) (er : Int) (pl : Nat)
    (HN : Calls Tryz.prog 88 #[.slice (some ⟨tb, 0, none⟩) l.length cap] (RW w) fun e w' => ∃ c : Ctx, e = .returned (rPtr c) ∧ c.l = l ∧ (RW w).heap.size ≤ c.R ∧ Rdr c w' 0 0 ∧ Below (RW w).heap.size (RW w) w')
    (HP : ∀ (c : Ctx) (W : World), c.l = l → Rdr c W 0 0 → Calls Tryz.prog 89 #[rPtr c] W (PPost c W 0 (NV W.heap.size) (.bad er pl))) :
    Calls Tryz.prog 46 #[.slice (some ⟨tb, 0, none⟩) l.length cap] w (RdPost (.bad er pl) w) := by
  have hmf := mf_run
  have HN := hide HN
  have HP := hide HP
  go_enter_defers Tryz.func46, Tryz.ntmps46
  go_wp2_with fail
  refine Calls.mono (unhide HN) ?_
  rintro e w2 ⟨c, rfl, hcl, hcR, hrd, hb2⟩
  have HC := hide ((unhide HP) c w2 hcl hrd)
  have HB2 := hide hb2
  have HCR := hide hcR
  clear hcl hcR hrd hb2
  go_wp2_with fail
  refine Calls.mono HC.out ?_
  intro e w3 hp
  obtain ⟨rfl, ha⟩ := hp
  have hszR : (RW w).heap.size = w.heap.size + 2 := by simp
  have hsz2 := (unhide HB2).size
  have hR := unhide HCR
  have c0 : w3.heap[w.heap.size]? = some (.cells #[.pointer none] 22 (0, 0)) := by
    rw [ha.block _ (by omega) (by omega), (unhide HB2).block _ (by omega), Below.heap_alloc _ _ _ (by simp)]
    exact heap_new _ _
  have c1 : w3.heap[w.heap.size + 1]? = some (.cells #[.nilIface] 29 (0, 0)) := by
    rw [ha.block _ (by omega) (by omega), (unhide HB2).block _ (by omega)]
    have := heap_new (w.alloc (.cells #[.pointer none] 22)) (.cells #[.nilIface] 29)
    simpa using this
  have d0 : w3.cell? ⟨w.heap.size, 0, none⟩ = some (.pointer none) := by rw [cell_of c0]; rfl
  have d0f := frozen_of c0
  have d1 : w3.cell? ⟨w.heap.size + 1, 0, none⟩ = some .nilIface := by rw [cell_of c1]; rfl
  have d1f := frozen_of c1
  have HBW : Hid (Below w.heap.size w w3) := by
    have h1 : Below w.heap.size w (RW w) := ((Below.refl _ _).alloc (Nat.le_refl _) _).alloc (by simp) _
    have h2 : Below w.heap.size w w2 := h1.trans ((unhide HB2).mono (by omega))
    exact h2.trans ((ha.mono (B' := w.heap.size) (by omega)).below (by omega))
  have H2 : Hid (w.heap.size + 2 ≤ w2.heap.size) := by show _ ≤ _; omega
  have h3l : w.heap.size + 1 < w3.heap.size := lt_of_heap c1
  have C0 := hide c0
  have C1 := hide c1
  clear ha c0 c1 HC HN HP hszR hsz2 hR H2
  refine leaves_cons (f := 87) (args := #[.pointer (some ⟨w.heap.size, 0, none⟩), .pointer (some ⟨w.heap.size + 1, 0, none⟩)]) (by simp) (by simp [go_sem]) ?_
  refine (catch_fault w.heap.size (w.heap.size + 1) er pl w3 _ _ d0 d0f d1 d1f (by omega) (by omega) h3l).mono ?_
  rintro e u' w'' ⟨rfl, rfl, rfl⟩
  show Leaves _ _ _ _ [] .returning _
  have g0 : ((((w3.setCell ⟨w.heap.size, 0, none⟩ (.pointer none)).setCell ⟨w.heap.size + 1, 0, none⟩ (.iface 119 (.pointer (some ⟨w3.heap.size + 1, 0, none⟩)))).alloc (.cells #[.int .i64 er, .int .i64 (pl : Int)] 117)).alloc (.cells #[.int .i64 er, .int .i64 (pl : Int)] 120)).drew.heap[w.heap.size]? = some (.cells #[.pointer none] 22 (0, 0)) := by
    show ((((w3.setCell ⟨w.heap.size, 0, none⟩ (.pointer none)).setCell ⟨w.heap.size + 1, 0, none⟩ (.iface 119 (.pointer (some ⟨w3.heap.size + 1, 0, none⟩)))).alloc (.cells #[.int .i64 er, .int .i64 (pl : Int)] 117)).alloc (.cells #[.int .i64 er, .int .i64 (pl : Int)] 120)).heap[w.heap.size]? = _
    rw [Below.heap_alloc _ _ _ (by simp; omega), Below.heap_alloc _ _ _ (by simp; omega), Below.heap_setCell _ ⟨w.heap.size + 1, 0, none⟩ _ _ (by show w.heap.size ≠ w.heap.size + 1; omega), heap_set (unhide C0)]
    rfl
  have g1 : ((((w3.setCell ⟨w.heap.size, 0, none⟩ (.pointer none)).setCell ⟨w.heap.size + 1, 0, none⟩ (.iface 119 (.pointer (some ⟨w3.heap.size + 1, 0, none⟩)))).alloc (.cells #[.int .i64 er, .int .i64 (pl : Int)] 117)).alloc (.cells #[.int .i64 er, .int .i64 (pl : Int)] 120)).drew.heap[w.heap.size + 1]? = some (.cells #[.iface 119 (.pointer (some ⟨w3.heap.size + 1, 0, none⟩))] 29 (0, 0)) := by
    show ((((w3.setCell ⟨w.heap.size, 0, none⟩ (.pointer none)).setCell ⟨w.heap.size + 1, 0, none⟩ (.iface 119 (.pointer (some ⟨w3.heap.size + 1, 0, none⟩)))).alloc (.cells #[.int .i64 er, .int .i64 (pl : Int)] 117)).alloc (.cells #[.int .i64 er, .int .i64 (pl : Int)] 120)).heap[w.heap.size + 1]? = _
    have hs : (w3.setCell ⟨w.heap.size, 0, none⟩ (.pointer none)).heap[w.heap.size + 1]? = some (.cells #[.nilIface] 29 (0, 0)) := by
      rw [Below.heap_setCell _ ⟨w.heap.size, 0, none⟩ _ _ (by show w.heap.size + 1 ≠ w.heap.size; omega)]; exact unhide C1
    rw [Below.heap_alloc _ _ _ (by simp; omega), Below.heap_alloc _ _ _ (by simp; omega), heap_set hs]
    rfl
  have e0 : ((((w3.setCell ⟨w.heap.size, 0, none⟩ (.pointer none)).setCell ⟨w.heap.size + 1, 0, none⟩ (.iface 119 (.pointer (some ⟨w3.heap.size + 1, 0, none⟩)))).alloc (.cells #[.int .i64 er, .int .i64 (pl : Int)] 117)).alloc (.cells #[.int .i64 er, .int .i64 (pl : Int)] 120)).drew.cell? ⟨w.heap.size, 0, none⟩ = some (.pointer none) := by rw [cell_of g0]; rfl
  have e1 : ((((w3.setCell ⟨w.heap.size, 0, none⟩ (.pointer none)).setCell ⟨w.heap.size + 1, 0, none⟩ (.iface 119 (.pointer (some ⟨w3.heap.size + 1, 0, none⟩)))).alloc (.cells #[.int .i64 er, .int .i64 (pl : Int)] 117)).alloc (.cells #[.int .i64 er, .int .i64 (pl : Int)] 120)).drew.cell? ⟨w.heap.size + 1, 0, none⟩ = some (.iface 119 (.pointer (some ⟨w3.heap.size + 1, 0, none⟩))) := by rw [cell_of g1]; rfl
  obtain ⟨WZ, hWZ⟩ : ∃ WZ, WZ = ((((w3.setCell ⟨w.heap.size, 0, none⟩ (.pointer none)).setCell ⟨w.heap.size + 1, 0, none⟩ (.iface 119 (.pointer (some ⟨w3.heap.size + 1, 0, none⟩)))).alloc (.cells #[.int .i64 er, .int .i64 (pl : Int)] 117)).alloc (.cells #[.int .i64 er, .int .i64 (pl : Int)] 120)).drew := ⟨_, rfl⟩
  rw [← hWZ] at e0 e1
  rw [← hWZ]
  refine ⟨.tuple #[.pointer none, .iface 119 (.pointer (some ⟨w3.heap.size + 1, 0, none⟩))], by simp [results, Tryz.results46, go_sem, e0, e1], w3.heap.size + 1, rfl, ?_, by omega, ?_⟩
  all_goals rw [hWZ]
  · have := heap_new (((w3.setCell ⟨w.heap.size, 0, none⟩ (.pointer none)).setCell ⟨w.heap.size + 1, 0, none⟩ (.iface 119 (.pointer (some ⟨w3.heap.size + 1, 0, none⟩)))).alloc (.cells #[.int .i64 er, .int .i64 (pl : Int)] 117)) (.cells #[.int .i64 er, .int .i64 (pl : Int)] 120)
    rw [show ((((w3.setCell ⟨w.heap.size, 0, none⟩ (.pointer none)).setCell ⟨w.heap.size + 1, 0, none⟩ (.iface 119 (.pointer (some ⟨w3.heap.size + 1, 0, none⟩)))).alloc (.cells #[.int .i64 er, .int .i64 (pl : Int)] 117)).heap.size) = w3.heap.size + 1 by simp] at this
    exact this
  · have hs := (unhide HBW).size
    exact ((((((unhide HBW).setCell (p := ⟨w.heap.size, 0, none⟩) (Nat.le_refl _) _).setCell (p := ⟨w.heap.size + 1, 0, none⟩) (Nat.le_succ _) _).alloc (by simpa using hs) _).alloc (by simp; omega) _).drew)
end Go.Proofs.YtoliilffjojfcaaGreatDoor
