/-
  Joined out of As, Tell.
-/
import Derived.Test.YtoliilffjojfcaaGreatDoorTj14
import Derived.WalkKit
import Derived.Test.YtoliilffjojfcaaGreatDoorTj0
import Derived.WalkSmall
import Derived.Deep.QuietTactic
import Derived.BigQuiet
/-
  As: errors.As at a target of type *Errno: an Errno is its own; an At hands on its Err.
-/
namespace Go.Proofs.YtoliilffjojfcaaGreatDoor
open Go.RowKit Go.Extern.Stop Go.Stop Go.Extern

theorem as_end {w : World} {T : Nat} {n : Int} {v0 : Value} (o1 o2 : Obj) (hT : w.cell? ⟨T, 0, none⟩ = some v0) (hTl : T < w.heap.size) :
    (((w.setCell ⟨T, 0, none⟩ (.int .i64 n)).alloc o1).alloc o2).cell? ⟨T, 0, none⟩ = some (.int .i64 n) ∧ Below T w (((w.setCell ⟨T, 0, none⟩ (.int .i64 n)).alloc o1).alloc o2) := by
  have b0 : Below T w (w.setCell ⟨T, 0, none⟩ (.int .i64 n)) := (Below.refl _ _).setCell (p := ⟨T, 0, none⟩) (Nat.le_refl _) _
  have hz := b0.size
  have h0 : (w.setCell ⟨T, 0, none⟩ (.int .i64 n)).cell? ⟨T, 0, none⟩ = some (.int .i64 n) := World.cell?_setCell_same _ _ _ hT
  have h1 : ((w.setCell ⟨T, 0, none⟩ (.int .i64 n)).alloc o1).cell? ⟨T, 0, none⟩ = some (.int .i64 n) := by rw [World.cell?_alloc_past _ _ _ (by omega)]; exact h0
  have hz1 : ((w.setCell ⟨T, 0, none⟩ (.int .i64 n)).alloc o1).heap.size = (w.setCell ⟨T, 0, none⟩ (.int .i64 n)).heap.size + 1 := World.size_alloc _ _
  refine ⟨by rw [World.cell?_alloc_past _ _ _ (by omega)]; exact h1, (b0.alloc (by omega) _).alloc (by omega) _⟩

set_option maxRecDepth 100000 in
set_option maxHeartbeats 1000000 in
theorem as_hit (n : Int) (T a : Nat) (w : World) (hT : w.cell? ⟨T, 0, none⟩ = some (.int .i64 0)) (hF : w.frozen? ⟨T, 0, none⟩ = false) (ha : w.cell? ⟨a, 0, none⟩ = some (.pointer (some ⟨T, 0, none⟩))) (hTl : T < w.heap.size) (hal : a < w.heap.size) :
    Calls Tryz.prog 110 #[.iface 23 (.int .i64 n), .iface 92 (.pointer (some ⟨T, 0, none⟩)), .agg #[.pointer (some ⟨13, 92, none⟩), .pointer (some ⟨a, 0, none⟩), .int .u64 150], .iface 172 (.agg #[.pointer (some ⟨13, 23, none⟩)])] w fun e w' =>
      e = .returned (.bool true) ∧ w'.cell? ⟨T, 0, none⟩ = some (.int .i64 n) ∧ Below T w w' := by
  have h62 := @run_callFunc_extern Tryz.prog 156 _ ReflectliteType.typeOf Tryz.func156 (by kernel_rfl) (by kernel_rfl) (by kernel_rfl) (by kernel_rfl)
  have h105 := @run_callFunc_extern Tryz.prog 266 _ (ReflectliteType.relation "AssignableTo" ReflectliteType.assignableTo) Tryz.func266 (by kernel_rfl) (by kernel_rfl) (by kernel_rfl) (by kernel_rfl)
  have h63 := @run_callFunc_extern Tryz.prog 157 _ (ReflectliteValue.method (ReflectliteValue.valueError "reflectlite.Value.Elem" 0) ReflectliteValue.elem) Tryz.func157 (by kernel_rfl) (by kernel_rfl) (by kernel_rfl) (by kernel_rfl)
  have h64 := @run_callFunc_extern Tryz.prog 158 _ ReflectliteValue.set Tryz.func158 (by kernel_rfl) (by kernel_rfl) (by kernel_rfl) (by kernel_rfl)
  have h55 := @run_callFunc_extern Tryz.prog 107 _ (fun args => ReflectliteValue.unpack (args.getD 0 (.tuple #[]))) Tryz.func107 (by kernel_rfl) (by kernel_rfl) (by kernel_rfl) (by kernel_rfl)
  have tO := R9.typeOf23
  have mA := R9.mAssign
  have a23 := R9.assignable23
  have v23 := R9.valueOf23
  have el := R9.elemV77 ⟨a, 0, none⟩ ⟨T, 0, none⟩ (w.alloc (.cells #[.pointer (some ⟨13, 92, none⟩), .pointer (some ⟨a, 0, none⟩), .int .u64 150] 136)) (by rw [World.cell?_alloc_past _ _ _ hal]; exact ha)
  have st := R9.set23 ⟨T, 0, none⟩ ⟨w.heap.size + 1, 0, none⟩ n (.int .i64 0) ((w.alloc (.cells #[.pointer (some ⟨13, 92, none⟩), .pointer (some ⟨a, 0, none⟩), .int .u64 150] 136)).alloc (.cells #[.int .i64 n] 23))
    (by rw [World.cell?_alloc_at _ _ _ _ (by simp)]; rfl) (by rw [World.cell?_alloc_past _ _ _ (by simp; omega), World.cell?_alloc_past _ _ _ hTl]; exact hT) (by rw [World.frozen?_alloc_old _ _ _ (by simp; omega), World.frozen?_alloc_old _ _ _ (by simp; omega)]; exact hF)
  go_enter Tryz.func110, Tryz.ntmps110
  go_wp2
  refine wp_loop_rounds 1 ?_
  rw [rounds_succ]
  go_wp2
  go_ret
  exact ⟨rfl, as_end _ _ hT hTl⟩
set_option maxRecDepth 100000 in
set_option maxHeartbeats 1000000 in
theorem as_at (n : Int) (b T a : Nat) (w : World) (hT : w.cell? ⟨T, 0, none⟩ = some (.int .i64 0)) (hF : w.frozen? ⟨T, 0, none⟩ = false) (ha : w.cell? ⟨a, 0, none⟩ = some (.pointer (some ⟨T, 0, none⟩))) (hTl : T < w.heap.size) (hal : a < w.heap.size) (hb : w.cell? ⟨b, 0, none⟩ = some (.int .i64 n)) (hbl : b < w.heap.size) :
    Calls Tryz.prog 110 #[.iface 119 (.pointer (some ⟨b, 0, none⟩)), .iface 92 (.pointer (some ⟨T, 0, none⟩)), .agg #[.pointer (some ⟨13, 92, none⟩), .pointer (some ⟨a, 0, none⟩), .int .u64 150], .iface 172 (.agg #[.pointer (some ⟨13, 23, none⟩)])] w fun e w' =>
      e = .returned (.bool true) ∧ w'.cell? ⟨T, 0, none⟩ = some (.int .i64 n) ∧ Below T w w' := by
  have h62 := @run_callFunc_extern Tryz.prog 156 _ ReflectliteType.typeOf Tryz.func156 (by kernel_rfl) (by kernel_rfl) (by kernel_rfl) (by kernel_rfl)
  have h105 := @run_callFunc_extern Tryz.prog 266 _ (ReflectliteType.relation "AssignableTo" ReflectliteType.assignableTo) Tryz.func266 (by kernel_rfl) (by kernel_rfl) (by kernel_rfl) (by kernel_rfl)
  have h63 := @run_callFunc_extern Tryz.prog 157 _ (ReflectliteValue.method (ReflectliteValue.valueError "reflectlite.Value.Elem" 0) ReflectliteValue.elem) Tryz.func157 (by kernel_rfl) (by kernel_rfl) (by kernel_rfl) (by kernel_rfl)
  have h64 := @run_callFunc_extern Tryz.prog 158 _ ReflectliteValue.set Tryz.func158 (by kernel_rfl) (by kernel_rfl) (by kernel_rfl) (by kernel_rfl)
  have h55 := @run_callFunc_extern Tryz.prog 107 _ (fun args => ReflectliteValue.unpack (args.getD 0 (.tuple #[]))) Tryz.func107 (by kernel_rfl) (by kernel_rfl) (by kernel_rfl) (by kernel_rfl)
  have tO := R9.typeOf23
  have tO58 := R9.typeOf58
  have a58 := R9.assignable58
  have mU := R9.mUnwrap
  have n110 : ∀ (v : Value) (xT : TypeId) (w : World), (Instr.typeAssert (.iface 119 v) xT 177 true).run Tryz.prog w = .ok (.tuple #[.nilIface, .bool false]) w := fun v xT w => run_typeAssert_lacksB Tryz.underlying177 (by kernel_rfl) (by kernel_rfl) v xT w
  have y61 : ∀ (v : Value) (xT : TypeId) (w : World), (Instr.typeAssert (.iface 119 v) xT 125 true).run Tryz.prog w = .ok (.tuple #[.iface 119 v, .bool true]) w := fun v xT w => run_typeAssert_hasB Tryz.underlying125 (by kernel_rfl) v xT w
  have hb1 : (w.alloc (.cells #[.pointer (some ⟨13, 92, none⟩), .pointer (some ⟨a, 0, none⟩), .int .u64 150] 136)).cell? ⟨b, 0, none⟩ = some (.int .i64 n) := by rw [World.cell?_alloc_past _ _ _ hbl]; exact hb
  have mA := R9.mAssign
  have a23 := R9.assignable23
  have v23 := R9.valueOf23
  have el := R9.elemV77 ⟨a, 0, none⟩ ⟨T, 0, none⟩ (w.alloc (.cells #[.pointer (some ⟨13, 92, none⟩), .pointer (some ⟨a, 0, none⟩), .int .u64 150] 136)) (by rw [World.cell?_alloc_past _ _ _ hal]; exact ha)
  have st := R9.set23 ⟨T, 0, none⟩ ⟨w.heap.size + 1, 0, none⟩ n (.int .i64 0) ((w.alloc (.cells #[.pointer (some ⟨13, 92, none⟩), .pointer (some ⟨a, 0, none⟩), .int .u64 150] 136)).alloc (.cells #[.int .i64 n] 23))
    (by rw [World.cell?_alloc_at _ _ _ _ (by simp)]; rfl) (by rw [World.cell?_alloc_past _ _ _ (by simp; omega), World.cell?_alloc_past _ _ _ hTl]; exact hT) (by rw [World.frozen?_alloc_old _ _ _ (by simp; omega), World.frozen?_alloc_old _ _ _ (by simp; omega)]; exact hF)
  go_enter Tryz.func110, Tryz.ntmps110
  go_wp2
  refine wp_loop_rounds 2 ?_
  rw [rounds_succ]
  go_wp2
  rw [rounds_succ]
  go_wp2
  go_ret
  exact ⟨rfl, as_end _ _ hT hTl⟩

set_option maxRecDepth 100000 in
set_option maxHeartbeats 1000000 in
theorem As_hit (n : Int) (T : Nat) (w : World) (hT : w.cell? ⟨T, 0, none⟩ = some (.int .i64 0)) (hF : w.frozen? ⟨T, 0, none⟩ = false) (hTl : T < w.heap.size) (hg : w.cell? ⟨1, 0, none⟩ = some (.iface 172 (.agg #[.pointer (some ⟨13, 29, none⟩)]))) :
    Calls Tryz.prog 56 #[.iface 23 (.int .i64 n), .iface 92 (.pointer (some ⟨T, 0, none⟩))] w fun e w' => e = .returned (.bool true) ∧ w'.cell? ⟨T, 0, none⟩ = some (.int .i64 n) ∧ Below T w w' := by
  have h55 := @run_callFunc_extern Tryz.prog 107 _ (fun args => ReflectliteValue.unpack (args.getD 0 (.tuple #[]))) Tryz.func107 (by kernel_rfl) (by kernel_rfl) (by kernel_rfl) (by kernel_rfl)
  have h56 := @run_callFunc_extern Tryz.prog 108 _ (ReflectliteValue.methodAny (ReflectliteValue.valueError "reflectlite.Value.Type" 0) (fun t _ _ _ => ReflectliteType.toType t)) Tryz.func108 (by kernel_rfl) (by kernel_rfl) (by kernel_rfl) (by kernel_rfl)
  have h57 := @run_callFunc_extern Tryz.prog 109 _ (ReflectliteValue.method (ReflectliteValue.valueError "reflectlite.Value.IsNil" 0) ReflectliteValue.isNil) Tryz.func109 (by kernel_rfl) (by kernel_rfl) (by kernel_rfl) (by kernel_rfl)
  have h91 := @run_callFunc_extern Tryz.prog 255 _ (ReflectliteType.abiMethod fun t => do pure (.int .u8 (← Rtype.kind t))) Tryz.func255 (by kernel_rfl) (by kernel_rfl) (by kernel_rfl) (by kernel_rfl)
  have h107 := @run_callFunc_extern Tryz.prog 268 _ (ReflectliteType.method ReflectliteType.elem) Tryz.func268 (by kernel_rfl) (by kernel_rfl) (by kernel_rfl) (by kernel_rfl)
  have h108 := @run_callFunc_extern Tryz.prog 269 _ (ReflectliteType.relation "Implements" ReflectliteType.implements_) Tryz.func269 (by kernel_rfl) (by kernel_rfl) (by kernel_rfl) (by kernel_rfl)
  have v77 := R9.valueOf77
  have t77 := R9.type77
  have mK := R9.mKind
  have mE := R9.mElem
  have mI := R9.mImpl
  have k77 := R9.kind77
  have k23 := R9.kind23
  have e77 := R9.elem77
  have i23 := R9.implements23
  have hgl : 1 < w.heap.size := by
    rcases Nat.lt_or_ge 1 w.heap.size with h | h
    · exact h
    · simp [World.cell?, Array.getElem?_eq_none h] at hg
  obtain ⟨W1, hW1⟩ : ∃ W1, W1 = (w.alloc (.cells #[.pointer (some ⟨T, 0, none⟩)] 92)).alloc (.cells #[.pointer (some ⟨13, 92, none⟩), .pointer (some ⟨w.heap.size, 0, none⟩), .int .u64 150] 136) := ⟨_, rfl⟩
  have hg2 : ((w.alloc (.cells #[.pointer (some ⟨T, 0, none⟩)] 92)).alloc (.cells #[.pointer (some ⟨13, 92, none⟩), .pointer (some ⟨w.heap.size, 0, none⟩), .int .u64 150] 136)).cell? ⟨1, 0, none⟩ = some (.iface 172 (.agg #[.pointer (some ⟨13, 29, none⟩)])) := by
    rw [World.cell?_alloc_past _ _ _ (by simp; omega), World.cell?_alloc_past _ _ _ hgl]; exact hg
  have ha : W1.cell? ⟨w.heap.size, 0, none⟩ = some (.pointer (some ⟨T, 0, none⟩)) := by
    rw [hW1, World.cell?_alloc_past _ _ _ (by simp), World.cell?_alloc_at _ _ _ _ rfl]; rfl
  have hT1 : W1.cell? ⟨T, 0, none⟩ = some (.int .i64 0) := by rw [hW1, World.cell?_alloc_past _ _ _ (by simp; omega), World.cell?_alloc_past _ _ _ hTl]; exact hT
  have hF1 : W1.frozen? ⟨T, 0, none⟩ = false := by rw [hW1, World.frozen?_alloc_old _ _ _ (by simp; omega), World.frozen?_alloc_old _ _ _ (by simp; omega)]; exact hF
  have hz1 : W1.heap.size = w.heap.size + 2 := by rw [hW1]; simp
  have hB1 : Below T w W1 := by rw [hW1]; exact ((Below.refl _ _).alloc (Nat.le_of_lt hTl) _).alloc (by simp; omega) _
  have n8 := R9.isNil77 ⟨w.heap.size, 0, none⟩ ⟨T, 0, none⟩ W1 ha
  rw [hW1] at n8
  have HC : Hid _ := as_hit n T w.heap.size W1 hT1 hF1 ha (by omega) (by omega)
  have HB1 := hide hB1
  rw [hW1] at HC HB1
  clear hB1 hz1 hF1 hT1 ha hW1 W1
  go_enter Tryz.func56, Tryz.ntmps56
  go_wp2_with fail
  refine Calls.mono HC.out ?_
  rintro e w2 ⟨rfl, hc2, hb2⟩
  have HC2 := hide hc2
  have HB2 := hide hb2
  clear hc2 hb2
  go_wp2_with fail
  go_ret
  exact ⟨rfl, unhide HC2, (unhide HB1).trans (unhide HB2)⟩

set_option maxRecDepth 100000 in
set_option maxHeartbeats 1000000 in
theorem As_at (n : Int) (b T : Nat) (w : World) (hT : w.cell? ⟨T, 0, none⟩ = some (.int .i64 0)) (hF : w.frozen? ⟨T, 0, none⟩ = false) (hTl : T < w.heap.size) (hg : w.cell? ⟨1, 0, none⟩ = some (.iface 172 (.agg #[.pointer (some ⟨13, 29, none⟩)]))) (hb : w.cell? ⟨b, 0, none⟩ = some (.int .i64 n)) (hbl : b < w.heap.size) :
    Calls Tryz.prog 56 #[.iface 119 (.pointer (some ⟨b, 0, none⟩)), .iface 92 (.pointer (some ⟨T, 0, none⟩))] w fun e w' => e = .returned (.bool true) ∧ w'.cell? ⟨T, 0, none⟩ = some (.int .i64 n) ∧ Below T w w' := by
  have h55 := @run_callFunc_extern Tryz.prog 107 _ (fun args => ReflectliteValue.unpack (args.getD 0 (.tuple #[]))) Tryz.func107 (by kernel_rfl) (by kernel_rfl) (by kernel_rfl) (by kernel_rfl)
  have h56 := @run_callFunc_extern Tryz.prog 108 _ (ReflectliteValue.methodAny (ReflectliteValue.valueError "reflectlite.Value.Type" 0) (fun t _ _ _ => ReflectliteType.toType t)) Tryz.func108 (by kernel_rfl) (by kernel_rfl) (by kernel_rfl) (by kernel_rfl)
  have h57 := @run_callFunc_extern Tryz.prog 109 _ (ReflectliteValue.method (ReflectliteValue.valueError "reflectlite.Value.IsNil" 0) ReflectliteValue.isNil) Tryz.func109 (by kernel_rfl) (by kernel_rfl) (by kernel_rfl) (by kernel_rfl)
  have h91 := @run_callFunc_extern Tryz.prog 255 _ (ReflectliteType.abiMethod fun t => do pure (.int .u8 (← Rtype.kind t))) Tryz.func255 (by kernel_rfl) (by kernel_rfl) (by kernel_rfl) (by kernel_rfl)
  have h107 := @run_callFunc_extern Tryz.prog 268 _ (ReflectliteType.method ReflectliteType.elem) Tryz.func268 (by kernel_rfl) (by kernel_rfl) (by kernel_rfl) (by kernel_rfl)
  have h108 := @run_callFunc_extern Tryz.prog 269 _ (ReflectliteType.relation "Implements" ReflectliteType.implements_) Tryz.func269 (by kernel_rfl) (by kernel_rfl) (by kernel_rfl) (by kernel_rfl)
  have v77 := R9.valueOf77
  have t77 := R9.type77
  have mK := R9.mKind
  have mE := R9.mElem
  have mI := R9.mImpl
  have k77 := R9.kind77
  have k23 := R9.kind23
  have e77 := R9.elem77
  have i23 := R9.implements23
  have hgl : 1 < w.heap.size := by
    rcases Nat.lt_or_ge 1 w.heap.size with h | h
    · exact h
    · simp [World.cell?, Array.getElem?_eq_none h] at hg
  obtain ⟨W1, hW1⟩ : ∃ W1, W1 = (w.alloc (.cells #[.pointer (some ⟨T, 0, none⟩)] 92)).alloc (.cells #[.pointer (some ⟨13, 92, none⟩), .pointer (some ⟨w.heap.size, 0, none⟩), .int .u64 150] 136) := ⟨_, rfl⟩
  have hg2 : ((w.alloc (.cells #[.pointer (some ⟨T, 0, none⟩)] 92)).alloc (.cells #[.pointer (some ⟨13, 92, none⟩), .pointer (some ⟨w.heap.size, 0, none⟩), .int .u64 150] 136)).cell? ⟨1, 0, none⟩ = some (.iface 172 (.agg #[.pointer (some ⟨13, 29, none⟩)])) := by
    rw [World.cell?_alloc_past _ _ _ (by simp; omega), World.cell?_alloc_past _ _ _ hgl]; exact hg
  have ha : W1.cell? ⟨w.heap.size, 0, none⟩ = some (.pointer (some ⟨T, 0, none⟩)) := by
    rw [hW1, World.cell?_alloc_past _ _ _ (by simp), World.cell?_alloc_at _ _ _ _ rfl]; rfl
  have hT1 : W1.cell? ⟨T, 0, none⟩ = some (.int .i64 0) := by rw [hW1, World.cell?_alloc_past _ _ _ (by simp; omega), World.cell?_alloc_past _ _ _ hTl]; exact hT
  have hF1 : W1.frozen? ⟨T, 0, none⟩ = false := by rw [hW1, World.frozen?_alloc_old _ _ _ (by simp; omega), World.frozen?_alloc_old _ _ _ (by simp; omega)]; exact hF
  have hz1 : W1.heap.size = w.heap.size + 2 := by rw [hW1]; simp
  have hB1 : Below T w W1 := by rw [hW1]; exact ((Below.refl _ _).alloc (Nat.le_of_lt hTl) _).alloc (by simp; omega) _
  have n8 := R9.isNil77 ⟨w.heap.size, 0, none⟩ ⟨T, 0, none⟩ W1 ha
  rw [hW1] at n8
  have hbb : W1.cell? ⟨b, 0, none⟩ = some (.int .i64 n) := by rw [hW1, World.cell?_alloc_past _ _ _ (by simp; omega), World.cell?_alloc_past _ _ _ hbl]; exact hb
  have HC : Hid _ := as_at n b T w.heap.size W1 hT1 hF1 ha (by omega) (by omega) hbb (by omega)
  have HB1 := hide hB1
  rw [hW1] at HC HB1
  clear hB1 hz1 hF1 hT1 ha hW1 W1 hbb
  go_enter Tryz.func56, Tryz.ntmps56
  go_wp2_with fail
  refine Calls.mono HC.out ?_
  rintro e w2 ⟨rfl, hc2, hb2⟩
  have HC2 := hide hc2
  have HB2 := hide hb2
  clear hc2 hb2
  go_wp2_with fail
  go_ret
  exact ⟨rfl, unhide HC2, (unhide HB1).trans (unhide HB2)⟩

end Go.Proofs.YtoliilffjojfcaaGreatDoor

/-
  Tell: Tell, Place and at: an error taken apart.
-/
namespace Go.Proofs.YtoliilffjojfcaaGreatDoor
open Go.RowKit Go.Extern.Stop Go.Stop Go.Extern

abbrev errType (w : World) : Prop := w.cell? ⟨1, 0, none⟩ = some (.iface 172 (.agg #[.pointer (some ⟨13, 29, none⟩)]))

theorem lt_of_errType {w : World} (h : errType w) : 1 < w.heap.size := by
  rcases Nat.lt_or_ge 1 w.heap.size with h' | h'
  · exact h'
  · simp [errType, World.cell?, Array.getElem?_eq_none h'] at h

theorem errType_later {w w' : World} (h : errType w) (hb : Below w.heap.size w w') : errType w' := by
  unfold errType
  rw [hb.cell (p := ⟨1, 0, none⟩) (lt_of_errType h)]; exact h

set_option maxRecDepth 100000 in
set_option maxHeartbeats 1000000 in
theorem Tell_hit (n : Int) (w : World) (hg : errType w) :
    Calls Tryz.prog 24 #[.iface 23 (.int .i64 n)] w fun e w' => e = .returned (.int .i64 n) ∧ Below w.heap.size w w' := by
  have hgl := lt_of_errType hg
  obtain ⟨W1, hW1⟩ : ∃ W1, W1 = w.alloc (.cells #[.int .i64 0] 23) := ⟨_, rfl⟩
  have hT : W1.cell? ⟨w.heap.size, 0, none⟩ = some (.int .i64 0) := by rw [hW1, World.cell?_alloc_at _ _ _ _ rfl]; rfl
  have hF : W1.frozen? ⟨w.heap.size, 0, none⟩ = false := by rw [hW1]; exact World.frozen?_alloc_at _ _ _ _ rfl
  have hz1 : W1.heap.size = w.heap.size + 1 := by rw [hW1]; simp
  have hg1 : errType W1 := by unfold errType; rw [hW1, World.cell?_alloc_past _ _ _ hgl]; exact hg
  have hB1 : Below w.heap.size w W1 := by rw [hW1]; exact (Below.refl _ _).alloc (Nat.le_refl _) _
  have HC : Hid _ := As_hit n w.heap.size W1 hT hF (by omega) hg1
  have HB1 := hide hB1
  rw [hW1] at HC HB1
  clear hB1 hg1 hz1 hF hT hW1 W1 hgl
  go_enter Tryz.func24, Tryz.ntmps24
  go_wp2_with fail
  refine Calls.mono HC.out ?_
  rintro e w2 ⟨rfl, hc2, hb2⟩
  have HB2 := hide hb2
  clear hb2
  go_wp2_with fail
  go_ret
  exact ⟨rfl, (unhide HB1).trans (unhide HB2)⟩

set_option maxRecDepth 100000 in
set_option maxHeartbeats 1000000 in
theorem Tell_at (n : Int) (b : Nat) (w : World) (hg : errType w) (hb : w.cell? ⟨b, 0, none⟩ = some (.int .i64 n)) (hbl : b < w.heap.size) :
    Calls Tryz.prog 24 #[.iface 119 (.pointer (some ⟨b, 0, none⟩))] w fun e w' => e = .returned (.int .i64 n) ∧ Below w.heap.size w w' := by
  have hgl := lt_of_errType hg
  obtain ⟨W1, hW1⟩ : ∃ W1, W1 = w.alloc (.cells #[.int .i64 0] 23) := ⟨_, rfl⟩
  have hT : W1.cell? ⟨w.heap.size, 0, none⟩ = some (.int .i64 0) := by rw [hW1, World.cell?_alloc_at _ _ _ _ rfl]; rfl
  have hF : W1.frozen? ⟨w.heap.size, 0, none⟩ = false := by rw [hW1]; exact World.frozen?_alloc_at _ _ _ _ rfl
  have hz1 : W1.heap.size = w.heap.size + 1 := by rw [hW1]; simp
  have hg1 : errType W1 := by unfold errType; rw [hW1, World.cell?_alloc_past _ _ _ hgl]; exact hg
  have hB1 : Below w.heap.size w W1 := by rw [hW1]; exact (Below.refl _ _).alloc (Nat.le_refl _) _
  have hbb : W1.cell? ⟨b, 0, none⟩ = some (.int .i64 n) := by rw [hW1, World.cell?_alloc_past _ _ _ hbl]; exact hb
  have HC : Hid _ := As_at n b w.heap.size W1 hT hF (by omega) hg1 hbb (by omega)
  have HB1 := hide hB1
  rw [hW1] at HC HB1
  clear hB1 hg1 hz1 hF hT hW1 W1 hbb hgl
  go_enter Tryz.func24, Tryz.ntmps24
  go_wp2_with fail
  refine Calls.mono HC.out ?_
  rintro e w2 ⟨rfl, hc2, hb2⟩
  have HB2 := hide hb2
  clear hb2
  go_wp2_with fail
  go_ret
  exact ⟨rfl, (unhide HB1).trans (unhide HB2)⟩

set_option maxRecDepth 100000 in
set_option maxHeartbeats 1000000 in
theorem Place_hit (n : Int) (w : World) (hg : errType w) :
    Calls Tryz.prog 48 #[.iface 23 (.int .i64 n)] w fun e w' => e = .returned (.tuple #[.int .i64 n, .int .i64 (-1)]) ∧ Below w.heap.size w w' := by
  have n61 : ∀ (v : Value) (xT : TypeId) (w : World), (Instr.typeAssert (.iface 23 v) xT 125 true).run Tryz.prog w = .ok (.tuple #[.nilIface, .bool false]) w := fun v xT w => run_typeAssert_lacksB Tryz.underlying125 (by kernel_rfl) (by kernel_rfl) v xT w
  have a23 : ∀ w : World, (Instr.typeAssert (.iface 23 (.int .i64 n)) 29 119 true).run Tryz.prog w = .ok (.tuple #[.pointer none, .bool false]) w := fun w => by kernel_rfl
  have HG := hide hg
  clear hg
  go_enter Tryz.func48, Tryz.ntmps48
  go_wp2_with fail
  refine (Tell_hit n w (unhide HG)).mono ?_
  rintro e w1 ⟨rfl, hb⟩
  have HB := hide hb
  clear hb
  go_wp2_with fail
  refine wp_loop_rounds 1 ?_
  rw [rounds_succ]
  go_wp2_with fail
  go_ret2
  exact ⟨rfl, unhide HB⟩

set_option maxRecDepth 100000 in
set_option maxHeartbeats 1000000 in
theorem Place_at (n p : Int) (b : Nat) (w : World) (hg : errType w) (hb : w.cell? ⟨b, 0, none⟩ = some (.int .i64 n)) (hb1 : w.cell? ⟨b, 1, none⟩ = some (.int .i64 p)) (hbl : b < w.heap.size) :
    Calls Tryz.prog 48 #[.iface 119 (.pointer (some ⟨b, 0, none⟩))] w fun e w' => e = .returned (.tuple #[.int .i64 n, .int .i64 p]) ∧ Below w.heap.size w w' := by
  have a58 : ∀ w : World, (Instr.typeAssert (.iface 119 (.pointer (some ⟨b, 0, none⟩))) 29 119 true).run Tryz.prog w = .ok (.tuple #[.pointer (some ⟨b, 0, none⟩), .bool true]) w := fun w => by kernel_rfl
  have HG := hide hg
  have HBB := hide hb
  have HBB1 := hide hb1
  clear hg hb hb1
  go_enter Tryz.func48, Tryz.ntmps48
  go_wp2_with fail
  refine (Tell_at n b w (unhide HG) (unhide HBB) hbl).mono ?_
  rintro e w1 ⟨rfl, hb⟩
  have c1 : w1.cell? ⟨b, 1, none⟩ = some (.int .i64 p) := by rw [hb.cell (p := ⟨b, 1, none⟩) hbl]; exact unhide HBB1
  have HB := hide hb
  clear hb
  go_wp2_with fail
  refine wp_loop_rounds 1 ?_
  rw [rounds_succ]
  go_wp2_with fail
  go_quiet (fail)
  go_wp2_with fail
  go_ret2
  exact ⟨rfl, below_drewN (unhide HB) _⟩

set_option maxRecDepth 100000 in
set_option maxHeartbeats 1000000 in
theorem at_hit (n : Int) (w : World) (hg : errType w) :
    Calls Tryz.prog 12 #[.iface 23 (.int .i64 n), .agg #[.int .i64 n, .int .i64 (-1)]] w fun e w' => e = .returned (.bool true) ∧ Below w.heap.size w w' := by
  have HC : Hid _ := Place_hit n (w.alloc (.cells #[.int .i64 n, .int .i64 (-1)] 25)) (errType_later hg ((Below.refl _ _).alloc (Nat.le_refl _) _))
  clear hg
  go_enter Tryz.func12, Tryz.ntmps12
  go_wp2_with fail
  refine Calls.mono HC.out ?_
  rintro e w1 ⟨rfl, hb⟩
  obtain ⟨hc, hf⟩ := bcell hb
  have HB := hide hb
  clear hb
  go_wp2_with fail
  go_ret
  exact ⟨rfl, ((Below.refl _ _).alloc (Nat.le_refl _) _).trans ((unhide HB).mono (by simp))⟩

set_option maxRecDepth 100000 in
set_option maxHeartbeats 1000000 in
theorem at_at (n p : Int) (b : Nat) (w : World) (hg : errType w) (hb : w.heap[b]? = some (.cells #[.int .i64 n, .int .i64 p] 120 (0, 0))) :
    Calls Tryz.prog 12 #[.iface 119 (.pointer (some ⟨b, 0, none⟩)), .agg #[.int .i64 n, .int .i64 p]] w fun e w' => e = .returned (.bool true) ∧ Below w.heap.size w w' := by
  have hbl : b < w.heap.size := (Array.getElem?_eq_some_iff.1 hb).1
  have hb0 : w.cell? ⟨b, 0, none⟩ = some (.int .i64 n) := by simp [World.cell?, hb]
  have hb1 : w.cell? ⟨b, 1, none⟩ = some (.int .i64 p) := by simp [World.cell?, hb]
  have HC : Hid _ := Place_at n p b (w.alloc (.cells #[.int .i64 n, .int .i64 p] 25)) (errType_later hg ((Below.refl _ _).alloc (Nat.le_refl _) _)) (by rw [World.cell?_alloc_past _ _ _ hbl]; exact hb0) (by rw [World.cell?_alloc_past _ _ _ hbl]; exact hb1) (by simp; omega)
  clear hg hb hb0 hb1
  go_enter Tryz.func12, Tryz.ntmps12
  go_wp2_with fail
  refine Calls.mono HC.out ?_
  rintro e w1 ⟨rfl, hb⟩
  obtain ⟨hc, hf⟩ := bcell hb
  have HB := hide hb
  clear hb
  go_wp2_with fail
  go_ret
  exact ⟨rfl, ((Below.refl _ _).alloc (Nat.le_refl _) _).trans ((unhide HB).mono (by simp))⟩

end Go.Proofs.YtoliilffjojfcaaGreatDoor
