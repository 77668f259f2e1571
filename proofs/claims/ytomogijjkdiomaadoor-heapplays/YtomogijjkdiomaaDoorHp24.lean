/-
  errors.As at a target of type *Errno: an Errno is its own; an At hands on its Err.
-/
import Derived.Test.YtomogijjkdiomaaDoorHp23
import Derived.WalkKit
import Derived.Stop.Asserts
import Derived.WalkSmall
import Derived.Deep.QuietTactic
import Derived.BigQuiet
namespace Go.Proofs.YtomogijjkdiomaaDoor
open Go.RowKit Go.Extern.Stop Go.Stop Go.Extern

theorem as_end {w : World} {T : Nat} {n : Int} {v0 : Value} (o1 o2 : Obj) (hT : w.cell? ⟨T, 0, none⟩ = some v0) (hTl : T < w.heap.size) :
    (((w.setCell ⟨T, 0, none⟩ (.int .i64 n)).alloc o1).alloc o2).cell? ⟨T, 0, none⟩ = some (.int .i64 n) ∧ Below T w (((w.setCell ⟨T, 0, none⟩ (.int .i64 n)).alloc o1).alloc o2) := by
  have b0 : Below T w (w.setCell ⟨T, 0, none⟩ (.int .i64 n)) := (Below.refl _ _).setCell (p := ⟨T, 0, none⟩) (Nat.le_refl _) _
  have hz := b0.size
  have h0 : (w.setCell ⟨T, 0, none⟩ (.int .i64 n)).cell? ⟨T, 0, none⟩ = some (.int .i64 n) := World.cell?_setCell_same _ _ _ hT
  have h1 : ((w.setCell ⟨T, 0, none⟩ (.int .i64 n)).alloc o1).cell? ⟨T, 0, none⟩ = some (.int .i64 n) := by rw [World.cell?_alloc_past _ _ _ (by omega)]; exact h0
  have hz1 : ((w.setCell ⟨T, 0, none⟩ (.int .i64 n)).alloc o1).heap.size = (w.setCell ⟨T, 0, none⟩ (.int .i64 n)).heap.size + 1 := World.size_alloc _ _
  refine ⟨by rw [World.cell?_alloc_past _ _ _ (by omega)]; exact h1, (b0.alloc (by omega) _).alloc (by omega) _⟩

set_option maxRecDepth 100000 in
set_option maxHeartbeats 1000000 in
theorem as_hit (n : Int) (T a : Nat) (w : World) (hT : w.cell? ⟨T, 0, none⟩ = some (.int .i64 0)) (hF : w.frozen? ⟨T, 0, none⟩ = false) (ha : w.cell? ⟨a, 0, none⟩ = some (.pointer (some ⟨T, 0, none⟩))) (hTl : T < w.heap.size) (hal : a < w.heap.size) :
    Calls Tryd.prog 70 #[.iface 47 (.int .i64 n), .iface 132 (.pointer (some ⟨T, 0, none⟩)), .agg #[.pointer (some ⟨2, 132, none⟩), .pointer (some ⟨a, 0, none⟩), .int .u64 150], .iface 146 (.agg #[.pointer (some ⟨2, 47, none⟩)])] w fun e w' =>
      e = .returned (.bool true) ∧ w'.cell? ⟨T, 0, none⟩ = some (.int .i64 n) ∧ Below T w w' := by
  have h62 := @run_callFunc_extern Tryd.prog 71 _ ReflectliteType.typeOf Tryd.func71 (by kernel_rfl) (by kernel_rfl) (by kernel_rfl) (by kernel_rfl)
  have h105 := @run_callFunc_extern Tryd.prog 100 _ (ReflectliteType.relation "AssignableTo" ReflectliteType.assignableTo) Tryd.func100 (by kernel_rfl) (by kernel_rfl) (by kernel_rfl) (by kernel_rfl)
  have h63 := @run_callFunc_extern Tryd.prog 72 _ (ReflectliteValue.method (ReflectliteValue.valueError "reflectlite.Value.Elem" 0) ReflectliteValue.elem) Tryd.func72 (by kernel_rfl) (by kernel_rfl) (by kernel_rfl) (by kernel_rfl)
  have h64 := @run_callFunc_extern Tryd.prog 73 _ ReflectliteValue.set Tryd.func73 (by kernel_rfl) (by kernel_rfl) (by kernel_rfl) (by kernel_rfl)
  have h55 := @run_callFunc_extern Tryd.prog 67 _ (fun args => ReflectliteValue.unpack (args.getD 0 (.tuple #[]))) Tryd.func67 (by kernel_rfl) (by kernel_rfl) (by kernel_rfl) (by kernel_rfl)
  have tO := R9.typeOf23
  have mA := R9.mAssign
  have a23 := R9.assignable23
  have v23 := R9.valueOf23
  have el := R9.elemV77 ⟨a, 0, none⟩ ⟨T, 0, none⟩ (w.alloc (.cells #[.pointer (some ⟨2, 132, none⟩), .pointer (some ⟨a, 0, none⟩), .int .u64 150] 135)) (by rw [World.cell?_alloc_past _ _ _ hal]; exact ha)
  have st := R9.set23 ⟨T, 0, none⟩ ⟨w.heap.size + 1, 0, none⟩ n (.int .i64 0) ((w.alloc (.cells #[.pointer (some ⟨2, 132, none⟩), .pointer (some ⟨a, 0, none⟩), .int .u64 150] 135)).alloc (.cells #[.int .i64 n] 47))
    (by rw [World.cell?_alloc_at _ _ _ _ (by simp)]; rfl) (by rw [World.cell?_alloc_past _ _ _ (by simp; omega), World.cell?_alloc_past _ _ _ hTl]; exact hT) (by rw [World.frozen?_alloc_old _ _ _ (by simp; omega), World.frozen?_alloc_old _ _ _ (by simp; omega)]; exact hF)
  go_enter Tryd.func70, Tryd.ntmps70
  go_wp2
  refine wp_loop_rounds 1 ?_
  rw [rounds_succ]
  go_wp2
  go_ret
  exact ⟨rfl, as_end _ _ hT hTl⟩
set_option maxRecDepth 100000 in
set_option maxHeartbeats 1000000 in
theorem As_hit (n : Int) (T : Nat) (w : World) (hT : w.cell? ⟨T, 0, none⟩ = some (.int .i64 0)) (hF : w.frozen? ⟨T, 0, none⟩ = false) (hTl : T < w.heap.size) (hg : w.cell? ⟨1, 0, none⟩ = some (.iface 146 (.agg #[.pointer (some ⟨2, 45, none⟩)]))) :
    Calls Tryd.prog 66 #[.iface 47 (.int .i64 n), .iface 132 (.pointer (some ⟨T, 0, none⟩))] w fun e w' => e = .returned (.bool true) ∧ w'.cell? ⟨T, 0, none⟩ = some (.int .i64 n) ∧ Below T w w' := by
  have h55 := @run_callFunc_extern Tryd.prog 67 _ (fun args => ReflectliteValue.unpack (args.getD 0 (.tuple #[]))) Tryd.func67 (by kernel_rfl) (by kernel_rfl) (by kernel_rfl) (by kernel_rfl)
  have h56 := @run_callFunc_extern Tryd.prog 68 _ (ReflectliteValue.methodAny (ReflectliteValue.valueError "reflectlite.Value.Type" 0) (fun t _ _ _ => ReflectliteType.toType t)) Tryd.func68 (by kernel_rfl) (by kernel_rfl) (by kernel_rfl) (by kernel_rfl)
  have h57 := @run_callFunc_extern Tryd.prog 69 _ (ReflectliteValue.method (ReflectliteValue.valueError "reflectlite.Value.IsNil" 0) ReflectliteValue.isNil) Tryd.func69 (by kernel_rfl) (by kernel_rfl) (by kernel_rfl) (by kernel_rfl)
  have h91 := @run_callFunc_extern Tryd.prog 88 _ (ReflectliteType.abiMethod fun t => do pure (.int .u8 (← Rtype.kind t))) Tryd.func88 (by kernel_rfl) (by kernel_rfl) (by kernel_rfl) (by kernel_rfl)
  have h107 := @run_callFunc_extern Tryd.prog 102 _ (ReflectliteType.method ReflectliteType.elem) Tryd.func102 (by kernel_rfl) (by kernel_rfl) (by kernel_rfl) (by kernel_rfl)
  have h108 := @run_callFunc_extern Tryd.prog 103 _ (ReflectliteType.relation "Implements" ReflectliteType.implements_) Tryd.func103 (by kernel_rfl) (by kernel_rfl) (by kernel_rfl) (by kernel_rfl)
  have v77 := R9.valueOf77
  have t77 := R9.type77
  have mK := R9.mKind
  have mE := R9.mElem
  have mI := R9.mImpl
  have k77 := R9.kind77
  have k23 := R9.kind23
  have e77 := R9.elem77
  have i23 := R9.implements23
  have hgl : 1 < w.heap.size := by
    rcases Nat.lt_or_ge 1 w.heap.size with h | h
    · exact h
    · simp [World.cell?, Array.getElem?_eq_none h] at hg
  obtain ⟨W1, hW1⟩ : ∃ W1, W1 = (w.alloc (.cells #[.pointer (some ⟨T, 0, none⟩)] 132)).alloc (.cells #[.pointer (some ⟨2, 132, none⟩), .pointer (some ⟨w.heap.size, 0, none⟩), .int .u64 150] 135) := ⟨_, rfl⟩
  have hg2 : ((w.alloc (.cells #[.pointer (some ⟨T, 0, none⟩)] 132)).alloc (.cells #[.pointer (some ⟨2, 132, none⟩), .pointer (some ⟨w.heap.size, 0, none⟩), .int .u64 150] 135)).cell? ⟨1, 0, none⟩ = some (.iface 146 (.agg #[.pointer (some ⟨2, 45, none⟩)])) := by
    rw [World.cell?_alloc_past _ _ _ (by simp; omega), World.cell?_alloc_past _ _ _ hgl]; exact hg
  have ha : W1.cell? ⟨w.heap.size, 0, none⟩ = some (.pointer (some ⟨T, 0, none⟩)) := by
    rw [hW1, World.cell?_alloc_past _ _ _ (by simp), World.cell?_alloc_at _ _ _ _ rfl]; rfl
  have hT1 : W1.cell? ⟨T, 0, none⟩ = some (.int .i64 0) := by rw [hW1, World.cell?_alloc_past _ _ _ (by simp; omega), World.cell?_alloc_past _ _ _ hTl]; exact hT
  have hF1 : W1.frozen? ⟨T, 0, none⟩ = false := by rw [hW1, World.frozen?_alloc_old _ _ _ (by simp; omega), World.frozen?_alloc_old _ _ _ (by simp; omega)]; exact hF
  have hz1 : W1.heap.size = w.heap.size + 2 := by rw [hW1]; simp
  have hB1 : Below T w W1 := by rw [hW1]; exact ((Below.refl _ _).alloc (Nat.le_of_lt hTl) _).alloc (by simp; omega) _
  have n8 := R9.isNil77 ⟨w.heap.size, 0, none⟩ ⟨T, 0, none⟩ W1 ha
  rw [hW1] at n8
  have HC : Hid _ := as_hit n T w.heap.size W1 hT1 hF1 ha (by omega) (by omega)
  have HB1 := hide hB1
  rw [hW1] at HC HB1
  clear hB1 hz1 hF1 hT1 ha hW1 W1
  go_enter Tryd.func66, Tryd.ntmps66
  go_wp2_with fail
  refine Calls.mono HC.out ?_
  rintro e w2 ⟨rfl, hc2, hb2⟩
  have HC2 := hide hc2
  have HB2 := hide hb2
  clear hc2 hb2
  go_wp2_with fail
  go_ret
  exact ⟨rfl, HC2.out, HB1.out.trans HB2.out⟩

end Go.Proofs.YtomogijjkdiomaaDoor
namespace Go.Proofs.YtomogijjkdiomaaDoor
open Go.RowKit Go.Extern.Stop Go.Stop Go.Extern

abbrev errType (w : World) : Prop := w.cell? ⟨1, 0, none⟩ = some (.iface 146 (.agg #[.pointer (some ⟨2, 45, none⟩)]))

theorem lt_of_errType {w : World} (h : errType w) : 1 < w.heap.size := by
  rcases Nat.lt_or_ge 1 w.heap.size with h' | h'
  · exact h'
  · simp [errType, World.cell?, Array.getElem?_eq_none h'] at h

theorem errType_later {w w' : World} (h : errType w) (hb : Below w.heap.size w w') : errType w' := by
  unfold errType
  rw [hb.cell (p := ⟨1, 0, none⟩) (lt_of_errType h)]; exact h

set_option maxRecDepth 100000 in
set_option maxHeartbeats 1000000 in
theorem Tell_hit (n : Int) (w : World) (hg : errType w) :
    Calls Tryd.prog 63 #[.iface 47 (.int .i64 n)] w fun e w' => e = .returned (.int .i64 n) ∧ Below w.heap.size w w' := by
  have hgl := lt_of_errType hg
  obtain ⟨W1, hW1⟩ : ∃ W1, W1 = w.alloc (.cells #[.int .i64 0] 47) := ⟨_, rfl⟩
  have hT : W1.cell? ⟨w.heap.size, 0, none⟩ = some (.int .i64 0) := by rw [hW1, World.cell?_alloc_at _ _ _ _ rfl]; rfl
  have hF : W1.frozen? ⟨w.heap.size, 0, none⟩ = false := by rw [hW1]; exact World.frozen?_alloc_at _ _ _ _ rfl
  have hz1 : W1.heap.size = w.heap.size + 1 := by rw [hW1]; simp
  have hg1 : errType W1 := by unfold errType; rw [hW1, World.cell?_alloc_past _ _ _ hgl]; exact hg
  have hB1 : Below w.heap.size w W1 := by rw [hW1]; exact (Below.refl _ _).alloc (Nat.le_refl _) _
  have HC : Hid _ := As_hit n w.heap.size W1 hT hF (by omega) hg1
  have HB1 := hide hB1
  rw [hW1] at HC HB1
  clear hB1 hg1 hz1 hF hT hW1 W1 hgl
  go_enter Tryd.func63, Tryd.ntmps63
  go_wp2_with fail
  refine Calls.mono HC.out ?_
  rintro e w2 ⟨rfl, hc2, hb2⟩
  have HB2 := hide hb2
  clear hb2
  go_wp2_with fail
  go_ret
  exact ⟨rfl, HB1.out.trans HB2.out⟩

set_option maxRecDepth 100000 in
set_option maxHeartbeats 1000000 in
theorem Place_hit (n : Int) (w : World) (hg : errType w) :
    Calls Tryd.prog 54 #[.iface 47 (.int .i64 n)] w fun e w' => e = .returned (.tuple #[.int .i64 n, .int .i64 (-1)]) ∧ Below w.heap.size w w' := by
  have n61 : ∀ (v : Value) (xT : TypeId) (w : World), (Instr.typeAssert (.iface 47 v) xT 125 true).run Tryd.prog w = .ok (.tuple #[.nilIface, .bool false]) w := fun v xT w => run_typeAssert_lacksB Tryd.underlying125 (by kernel_rfl) (by kernel_rfl) v xT w
  have a23 : ∀ w : World, (Instr.typeAssert (.iface 47 (.int .i64 n)) 45 122 true).run Tryd.prog w = .ok (.tuple #[.pointer none, .bool false]) w := fun w => by kernel_rfl
  have HG := hide hg
  clear hg
  go_enter Tryd.func54, Tryd.ntmps54
  go_wp2_with fail
  refine (Tell_hit n w HG.out).mono ?_
  rintro e w1 ⟨rfl, hb⟩
  have HB := hide hb
  clear hb
  go_wp2_with fail
  refine wp_loop_rounds 1 ?_
  rw [rounds_succ]
  go_wp2_with fail
  go_ret2
  exact ⟨rfl, HB.out⟩

end Go.Proofs.YtomogijjkdiomaaDoor
namespace Go.Proofs.YtomogijjkdiomaaDoor
open Go.RowKit Go.Extern.Stop Go.Stop Go.Extern

section
variable (w : World)
set_option maxRecDepth 100000
set_option maxHeartbeats 1000000
theorem Tell_nil : Calls Tryd.prog 63 #[.nilIface] w fun e w' => e = .returned (.int .i64 0) ∧ w' = w := by
  go_enter Tryd.func63, Tryd.ntmps63
  go_wp2_with fail
  go_ret
  exact ⟨rfl, rfl⟩
theorem Place_nil : Calls Tryd.prog 54 #[.nilIface] w fun e w' => e = .returned (.tuple #[.int .i64 0, .int .i64 (-1)]) ∧ w' = w := by
  go_enter Tryd.func54, Tryd.ntmps54
  go_wp2_with fail
  refine (Tell_nil w).mono ?_
  rintro e w1 ⟨rfl, rfl⟩
  go_wp2_with fail
  refine wp_loop_rounds 1 ?_
  rw [rounds_succ]
  go_wp2_with fail
  go_ret2
  exact ⟨rfl, rfl⟩
theorem bcells {w w1 : World} {a b : Value} {t : TypeId} (hb : Below (w.heap.size + 1) (w.alloc (.cells #[a, b] t)) w1) :
    w1.cell? ⟨w.heap.size, 0, none⟩ = some a ∧ w1.cell? ⟨w.heap.size, 1, none⟩ = some b ∧ w.heap.size < w1.heap.size := by
  have h : w1.heap[w.heap.size]? = some (.cells #[a, b] t (0, 0)) := (hb.block _ (Nat.lt_succ_self _)).trans (heap_alloc_new w _)
  refine ⟨by simp [World.cell?, h], by simp [World.cell?, h], (Array.getElem?_eq_some_iff.1 h).1⟩
/-- What 'at' asks: the error's own number, and no place. -/
theorem at_say (err : Value) (e n : Int) (hP : Calls Tryd.prog 54 #[err] (w.alloc (.cells #[.int .i64 n, .int .i64 (-1)] 83)) fun x w' => x = .returned (.tuple #[.int .i64 e, .int .i64 (-1)]) ∧ Below (w.heap.size + 1) (w.alloc (.cells #[.int .i64 n, .int .i64 (-1)] 83)) w') :
    Calls Tryd.prog 39 #[err, .agg #[.int .i64 n, .int .i64 (-1)]] w fun x w' => x = .returned (.bool (e == n)) ∧ Below w.heap.size w w' := by
  have HC := hide hP
  clear hP
  cases hq : (e == n)
  all_goals
    go_enter Tryd.func39, Tryd.ntmps39
    go_wp2_with fail
    refine Calls.mono HC.out ?_
    rintro x w1 ⟨rfl, hb⟩
    obtain ⟨c0, c1, cl⟩ := bcells hb
    have HB := hide (((Below.refl w.heap.size w).alloc (Nat.le_refl _) (.cells #[.int .i64 n, .int .i64 (-1)] 83)).trans (hb.mono (Nat.le_succ _)))
    clear hb
    go_wp2_with fail
  · go_ret
    exact ⟨rfl, HB.out⟩
  · go_ret
    exact ⟨rfl, HB.out⟩
theorem bare_mk (n : Int) : Calls Tryd.prog 40 #[.int .i64 n] w fun e w' => e = .returned (.agg #[.int .i64 n, .int .i64 (-1)]) ∧ Below w.heap.size w w' := by
  go_enter Tryd.func40, Tryd.ntmps40
  go_wp2
  exact bodyPost_ret (v := .agg #[.int .i64 n, .int .i64 (-1)]) (by simp [results, Tryd.results40, go_sem]) rfl ⟨rfl, (Below.refl _ _).alloc (Nat.le_refl _) _⟩
theorem bare_say (err : Value) (e n : Int) (hP : ∀ W, Below w.heap.size w W → Calls Tryd.prog 54 #[err] W fun x w' => x = .returned (.tuple #[.int .i64 e, .int .i64 (-1)]) ∧ Below W.heap.size W w') :
    Calls Tryd.prog 7 #[err, .int .i64 n] w fun x w' => x = .returned (.bool (e == n)) ∧ Below w.heap.size w w' := by
  have HP := hide hP
  clear hP
  have HBA := hide (bare_mk w n)
  go_enter Tryd.func7, Tryd.ntmps7
  go_wp2_with fail
  refine Calls.mono HBA.out ?_
  rintro x w1 ⟨rfl, hb⟩
  have HB := hide hb
  have HA := hide (at_say w1 err e n ((HP.out _ (hb.alloc hb.size _)).mono fun x w' ⟨a, b⟩ => ⟨a, by simpa using b⟩))
  clear hb
  go_wp2_with fail
  refine Calls.mono HA.out ?_
  rintro x w2 ⟨rfl, hb⟩
  have HB2 := hide (HB.out.trans (hb.mono HB.out.size))
  clear hb
  go_wp2_with fail
  go_ret
  exact ⟨rfl, HB2.out⟩
/-- An error of the heap's own: none, or a bare number. -/
def errW (e : Int) : Value := if e = 0 then .nilIface else .iface 47 (.int .i64 e)
theorem bare_any (e n : Int) (hg : errType w) : Calls Tryd.prog 7 #[errW e, .int .i64 n] w fun x w' => x = .returned (.bool (e == n)) ∧ Below w.heap.size w w' := by
  refine bare_say w (errW e) e n fun W hW => ?_
  unfold errW
  by_cases h : e = 0
  · rw [if_pos h, h]
    exact (Place_nil W).mono fun x w' ⟨a, b⟩ => ⟨a, by rw [b]; exact Below.refl _ _⟩
  · rw [if_neg h]
    exact Place_hit e W (errType_later hg hW)
end
end Go.Proofs.YtomogijjkdiomaaDoor
