/-
  Tell, Place and at: an error taken apart.
-/
import Derived.Test.YtlpbpcdjifadiaaDoorAs
import Derived.Test.YtlpbpcdjifadiaaDoorRead
import Derived.WalkSmall
import Derived.Deep.QuietTactic
import Derived.BigQuiet
namespace Go.Proofs.YtlpbpcdjifadiaaDoor
open Go.RowKit Go.Extern.Stop Go.Stop Go.Extern

abbrev errType (w : World) : Prop := w.cell? ⟨6, 0, none⟩ = some (.iface 105 (.agg #[.pointer (some ⟨11, 30, none⟩)]))

theorem lt_of_errType {w : World} (h : errType w) : 6 < w.heap.size := by
  rcases Nat.lt_or_ge 6 w.heap.size with h' | h'
  · exact h'
  · simp [errType, World.cell?, Array.getElem?_eq_none h'] at h

theorem errType_later {w w' : World} (h : errType w) (hb : Below w.heap.size w w') : errType w' := by
  unfold errType
  rw [hb.cell (p := ⟨6, 0, none⟩) (lt_of_errType h)]; exact h

set_option maxRecDepth 100000 in
set_option maxHeartbeats 1000000 in
theorem Tell_hit (n : Int) (w : World) (hg : errType w) :
    Calls Tryd.prog 36 #[.iface 23 (.int .i64 n)] w fun e w' => e = .returned (.int .i64 n) ∧ Below w.heap.size w w' := by
  have hgl := lt_of_errType hg
  obtain ⟨W1, hW1⟩ : ∃ W1, W1 = w.alloc (.cells #[.int .i64 0] 23) := ⟨_, rfl⟩
  have hT : W1.cell? ⟨w.heap.size, 0, none⟩ = some (.int .i64 0) := by rw [hW1, World.cell?_alloc_at _ _ _ _ rfl]; rfl
  have hF : W1.frozen? ⟨w.heap.size, 0, none⟩ = false := by rw [hW1]; exact World.frozen?_alloc_at _ _ _ _ rfl
  have hz1 : W1.heap.size = w.heap.size + 1 := by rw [hW1]; simp
  have hg1 : errType W1 := by unfold errType; rw [hW1, World.cell?_alloc_past _ _ _ hgl]; exact hg
  have hB1 : Below w.heap.size w W1 := by rw [hW1]; exact (Below.refl _ _).alloc (Nat.le_refl _) _
  have HC : Hid _ := As_hit n w.heap.size W1 hT hF (by omega) hg1
  have HB1 := hide hB1
  rw [hW1] at HC HB1
  clear hB1 hg1 hz1 hF hT hW1 W1 hgl
  go_enter Tryd.func36, Tryd.ntmps36
  go_wp2_with fail
  refine Calls.mono HC.out ?_
  rintro e w2 ⟨rfl, hc2, hb2⟩
  have HB2 := hide hb2
  clear hb2
  go_wp2_with fail
  go_ret
  exact ⟨rfl, (unhide HB1).trans (unhide HB2)⟩

set_option maxRecDepth 100000 in
set_option maxHeartbeats 1000000 in
theorem Tell_at (n : Int) (b : Nat) (w : World) (hg : errType w) (hb : w.cell? ⟨b, 0, none⟩ = some (.int .i64 n)) (hbl : b < w.heap.size) :
    Calls Tryd.prog 36 #[.iface 58 (.pointer (some ⟨b, 0, none⟩))] w fun e w' => e = .returned (.int .i64 n) ∧ Below w.heap.size w w' := by
  have hgl := lt_of_errType hg
  obtain ⟨W1, hW1⟩ : ∃ W1, W1 = w.alloc (.cells #[.int .i64 0] 23) := ⟨_, rfl⟩
  have hT : W1.cell? ⟨w.heap.size, 0, none⟩ = some (.int .i64 0) := by rw [hW1, World.cell?_alloc_at _ _ _ _ rfl]; rfl
  have hF : W1.frozen? ⟨w.heap.size, 0, none⟩ = false := by rw [hW1]; exact World.frozen?_alloc_at _ _ _ _ rfl
  have hz1 : W1.heap.size = w.heap.size + 1 := by rw [hW1]; simp
  have hg1 : errType W1 := by unfold errType; rw [hW1, World.cell?_alloc_past _ _ _ hgl]; exact hg
  have hB1 : Below w.heap.size w W1 := by rw [hW1]; exact (Below.refl _ _).alloc (Nat.le_refl _) _
  have hbb : W1.cell? ⟨b, 0, none⟩ = some (.int .i64 n) := by rw [hW1, World.cell?_alloc_past _ _ _ hbl]; exact hb
  have HC : Hid _ := As_at n b w.heap.size W1 hT hF (by omega) hg1 hbb (by omega)
  have HB1 := hide hB1
  rw [hW1] at HC HB1
  clear hB1 hg1 hz1 hF hT hW1 W1 hbb hgl
  go_enter Tryd.func36, Tryd.ntmps36
  go_wp2_with fail
  refine Calls.mono HC.out ?_
  rintro e w2 ⟨rfl, hc2, hb2⟩
  have HB2 := hide hb2
  clear hb2
  go_wp2_with fail
  go_ret
  exact ⟨rfl, (unhide HB1).trans (unhide HB2)⟩

set_option maxRecDepth 100000 in
set_option maxHeartbeats 1000000 in
theorem Place_hit (n : Int) (w : World) (hg : errType w) :
    Calls Tryd.prog 22 #[.iface 23 (.int .i64 n)] w fun e w' => e = .returned (.tuple #[.int .i64 n, .int .i64 (-1)]) ∧ Below w.heap.size w w' := by
  have n61 : ∀ (v : Value) (xT : TypeId) (w : World), (Instr.typeAssert (.iface 23 v) xT 61 true).run Tryd.prog w = .ok (.tuple #[.nilIface, .bool false]) w := fun v xT w => run_typeAssert_lacksB Tryd.underlying61 (by kernel_rfl) (by kernel_rfl) v xT w
  have a23 : ∀ w : World, (Instr.typeAssert (.iface 23 (.int .i64 n)) 30 58 true).run Tryd.prog w = .ok (.tuple #[.pointer none, .bool false]) w := fun w => by kernel_rfl
  have HG := hide hg
  clear hg
  go_enter Tryd.func22, Tryd.ntmps22
  go_wp2_with fail
  refine (Tell_hit n w (unhide HG)).mono ?_
  rintro e w1 ⟨rfl, hb⟩
  have HB := hide hb
  clear hb
  go_wp2_with fail
  refine wp_loop_rounds 1 ?_
  rw [rounds_succ]
  go_wp2_with fail
  go_ret2
  exact ⟨rfl, unhide HB⟩

set_option maxRecDepth 100000 in
set_option maxHeartbeats 1000000 in
theorem Place_at (n p : Int) (b : Nat) (w : World) (hg : errType w) (hb : w.cell? ⟨b, 0, none⟩ = some (.int .i64 n)) (hb1 : w.cell? ⟨b, 1, none⟩ = some (.int .i64 p)) (hbl : b < w.heap.size) :
    Calls Tryd.prog 22 #[.iface 58 (.pointer (some ⟨b, 0, none⟩))] w fun e w' => e = .returned (.tuple #[.int .i64 n, .int .i64 p]) ∧ Below w.heap.size w w' := by
  have a58 : ∀ w : World, (Instr.typeAssert (.iface 58 (.pointer (some ⟨b, 0, none⟩))) 30 58 true).run Tryd.prog w = .ok (.tuple #[.pointer (some ⟨b, 0, none⟩), .bool true]) w := fun w => by kernel_rfl
  have HG := hide hg
  have HBB := hide hb
  have HBB1 := hide hb1
  clear hg hb hb1
  go_enter Tryd.func22, Tryd.ntmps22
  go_wp2_with fail
  refine (Tell_at n b w (unhide HG) (unhide HBB) hbl).mono ?_
  rintro e w1 ⟨rfl, hb⟩
  have c1 : w1.cell? ⟨b, 1, none⟩ = some (.int .i64 p) := by rw [hb.cell (p := ⟨b, 1, none⟩) hbl]; exact unhide HBB1
  have HB := hide hb
  clear hb
  go_wp2_with fail
  refine wp_loop_rounds 1 ?_
  rw [rounds_succ]
  go_wp2_with fail
  go_quiet (fail)
  go_wp2_with fail
  go_ret2
  exact ⟨rfl, below_drewN (unhide HB) _⟩

set_option maxRecDepth 100000 in
set_option maxHeartbeats 1000000 in
theorem at_hit (n : Int) (w : World) (hg : errType w) :
    Calls Tryd.prog 8 #[.iface 23 (.int .i64 n), .agg #[.int .i64 n, .int .i64 (-1)]] w fun e w' => e = .returned (.bool true) ∧ Below w.heap.size w w' := by
  have HC : Hid _ := Place_hit n (w.alloc (.cells #[.int .i64 n, .int .i64 (-1)] 25)) (errType_later hg ((Below.refl _ _).alloc (Nat.le_refl _) _))
  clear hg
  go_enter Tryd.func8, Tryd.ntmps8
  go_wp2_with fail
  refine Calls.mono HC.out ?_
  rintro e w1 ⟨rfl, hb⟩
  obtain ⟨hc, hf⟩ := bcell hb
  have HB := hide hb
  clear hb
  go_wp2_with fail
  go_ret
  exact ⟨rfl, ((Below.refl _ _).alloc (Nat.le_refl _) _).trans ((unhide HB).mono (by simp))⟩

set_option maxRecDepth 100000 in
set_option maxHeartbeats 1000000 in
theorem at_at (n p : Int) (b : Nat) (w : World) (hg : errType w) (hb : w.heap[b]? = some (.cells #[.int .i64 n, .int .i64 p] 60 (0, 0))) :
    Calls Tryd.prog 8 #[.iface 58 (.pointer (some ⟨b, 0, none⟩)), .agg #[.int .i64 n, .int .i64 p]] w fun e w' => e = .returned (.bool true) ∧ Below w.heap.size w w' := by
  have hbl : b < w.heap.size := (Array.getElem?_eq_some_iff.1 hb).1
  have hb0 : w.cell? ⟨b, 0, none⟩ = some (.int .i64 n) := by simp [World.cell?, hb]
  have hb1 : w.cell? ⟨b, 1, none⟩ = some (.int .i64 p) := by simp [World.cell?, hb]
  have HC : Hid _ := Place_at n p b (w.alloc (.cells #[.int .i64 n, .int .i64 p] 25)) (errType_later hg ((Below.refl _ _).alloc (Nat.le_refl _) _)) (by rw [World.cell?_alloc_past _ _ _ hbl]; exact hb0) (by rw [World.cell?_alloc_past _ _ _ hbl]; exact hb1) (by simp; omega)
  clear hg hb hb0 hb1
  go_enter Tryd.func8, Tryd.ntmps8
  go_wp2_with fail
  refine Calls.mono HC.out ?_
  rintro e w1 ⟨rfl, hb⟩
  obtain ⟨hc, hf⟩ := bcell hb
  have HB := hide hb
  clear hb
  go_wp2_with fail
  go_ret
  exact ⟨rfl, ((Below.refl _ _).alloc (Nat.le_refl _) _).trans ((unhide HB).mono (by simp))⟩

end Go.Proofs.YtlpbpcdjifadiaaDoor
