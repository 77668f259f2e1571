/-
  Closed facts on the entries of internal/reflectlite at this program's types (23: Errno, 77: its pointer, 58: the pointer to At, 30: error, 105: rtype).
-/
import Derived.Test.YtopehplicnppfaaDoorHl0
import Derived.LaidEql
import Derived.Stop.Asserts
import Derived.RowKitTokens
import Derived.WalkKit
import Derived.Test.YtopehplicnppfaaDoorHl1
namespace Go.Proofs.YtopehplicnppfaaDoor
open Go.RowKit Go.Extern.Stop Go.Stop Go.Extern

theorem R9.valueOf77 (t : Addr) (w : World) : (ReflectliteValue.unpack (.iface 69 (.pointer (some t)))).run Tryd.prog w
    = .ok (.agg #[.pointer (some ⟨5, 69, none⟩), .pointer (some ⟨w.heap.size, 0, none⟩), .int .u64 150]) (w.alloc (.cells #[.pointer (some t)] 69)) := by kernel_rfl
theorem R9.valueOf23 (n : Int) (w : World) : (ReflectliteValue.unpack (.iface 44 (.int .i64 n))).run Tryd.prog w
    = .ok (.agg #[.pointer (some ⟨5, 44, none⟩), .pointer (some ⟨w.heap.size, 0, none⟩), .int .u64 130]) (w.alloc (.cells #[.int .i64 n] 44)) := by kernel_rfl
theorem R9.type77 (a : Addr) (w : World) : (ReflectliteValue.methodAny (ReflectliteValue.valueError "reflectlite.Value.Type" 0) (fun t _ _ _ => ReflectliteType.toType t) #[.agg #[.pointer (some ⟨5, 69, none⟩), .pointer (some a), .int .u64 150]]).run Tryd.prog w
    = .ok (.iface 103 (.agg #[.pointer (some ⟨5, 69, none⟩)])) w := by kernel_rfl
theorem R9.kind77 (w : World) : ((ReflectliteType.abiMethod fun t => (fun a : Nat => Value.int IntKind.u8 (a : Int)) <$> Rtype.kind t) #[.pointer (some ⟨5, 69, none⟩)]).run Tryd.prog w = .ok (.int .u8 22) w := by kernel_rfl
theorem R9.kind23 (w : World) : ((ReflectliteType.abiMethod fun t => (fun a : Nat => Value.int IntKind.u8 (a : Int)) <$> Rtype.kind t) #[.pointer (some ⟨5, 44, none⟩)]).run Tryd.prog w = .ok (.int .u8 2) w := by kernel_rfl
/-- The two matches on a list of arguments that is written out. -/
theorem at_one (v : Value) (f : Value → Sem Value) (g : Array Value → Sem Value) : @ReflectliteValue.method.match_2 (fun _ => Sem Value) #[v] f g = f v := rfl
theorem at_two (v x : Value) (f : Value → Value → Sem Value) (g : Array Value → Sem Value) : @ReflectliteValue.set.match_3 (fun _ => Sem Value) #[v, x] f g = f v x := rfl
theorem R9.parts77 (a : Addr) (w : World) : (ReflectliteValue.parts (.agg #[.pointer (some ⟨5, 69, none⟩), .pointer (some a), .int .u64 150])).run Tryd.prog w = .ok (some (69, a, 150)) w := by kernel_rfl
theorem R9.isNil77 (a p : Addr) (W : World) (ha : W.cell? a = some (.pointer (some p))) :
    (ReflectliteValue.method (ReflectliteValue.valueError "reflectlite.Value.IsNil" 0) ReflectliteValue.isNil #[.agg #[.pointer (some ⟨5, 69, none⟩), .pointer (some a), .int .u64 150]]).run Tryd.prog W = .ok (.bool false) W := by
  delta ReflectliteValue.method
  rw [at_one]
  simp only [Sem.run_bind, R9.parts77, Result.andThen]
  simp [ReflectliteValue.isNil, loadVar, isAgg, underlying, Tryd.underlying69, ha, Result.andThen]
theorem R9.elem77 (w : World) : (ReflectliteType.method ReflectliteType.elem #[.agg #[.pointer (some ⟨5, 69, none⟩)]]).run Tryd.prog w = .ok (.iface 103 (.agg #[.pointer (some ⟨5, 44, none⟩)])) w := by kernel_rfl
theorem R9.implements23 (w : World) : (ReflectliteType.relation "Implements" ReflectliteType.implements_ #[.agg #[.pointer (some ⟨5, 44, none⟩)], .iface 103 (.agg #[.pointer (some ⟨5, 39, none⟩)])]).run Tryd.prog w = .ok (.bool true) w := by kernel_rfl
theorem R9.typeOf23 (v : Value) (w : World) : (ReflectliteType.typeOf #[.iface 44 v]).run Tryd.prog w = .ok (.iface 103 (.agg #[.pointer (some ⟨5, 44, none⟩)])) w := by kernel_rfl
theorem R9.assignable23 (w : World) : (ReflectliteType.relation "AssignableTo" ReflectliteType.assignableTo #[.agg #[.pointer (some ⟨5, 44, none⟩)], .iface 103 (.agg #[.pointer (some ⟨5, 44, none⟩)])]).run Tryd.prog w = .ok (.bool true) w := by kernel_rfl
theorem R9.elemOf77 (w : World) : (Rtype.elem? 69).run Tryd.prog w = .ok (some 44) w := by kernel_rfl
theorem R9.mk23 (p : Addr) (w : World) : (ReflectliteValue.mk 44 p ReflectliteValue.flagAddr).run Tryd.prog w = .ok (.agg #[.pointer (some ⟨5, 44, none⟩), .pointer (some p), .int .u64 386]) w := by kernel_rfl
theorem R9.elemV77 (a p : Addr) (W : World) (ha : W.cell? a = some (.pointer (some p))) :
    (ReflectliteValue.method (ReflectliteValue.valueError "reflectlite.Value.Elem" 0) ReflectliteValue.elem #[.agg #[.pointer (some ⟨5, 69, none⟩), .pointer (some a), .int .u64 150]]).run Tryd.prog W
      = .ok (.agg #[.pointer (some ⟨5, 44, none⟩), .pointer (some p), .int .u64 386]) W := by
  delta ReflectliteValue.method
  rw [at_one]
  simp only [Sem.run_bind, R9.parts77, Result.andThen]
  simp [ReflectliteValue.elem, loadVar, isAgg, underlying, Tryd.underlying69, ha, Result.andThen, R9.elemOf77, R9.mk23]
theorem R9.parts23a (a : Addr) (w : World) : (ReflectliteValue.parts (.agg #[.pointer (some ⟨5, 44, none⟩), .pointer (some a), .int .u64 386])).run Tryd.prog w = .ok (some (44, a, 386)) w := by kernel_rfl
theorem R9.parts23 (a : Addr) (w : World) : (ReflectliteValue.parts (.agg #[.pointer (some ⟨5, 44, none⟩), .pointer (some a), .int .u64 130])).run Tryd.prog w = .ok (some (44, a, 130)) w := by kernel_rfl
theorem R9.direct23 (w : World) : (Rtype.directlyAssignable 44 44).run Tryd.prog w = .ok true w := by kernel_rfl
theorem R9.set23 (ta b : Addr) (n : Int) (old : Value) (W : World) (hb : W.cell? b = some (.int .i64 n)) (ht : W.cell? ta = some old) (hf : W.frozen? ta = false) :
    (ReflectliteValue.set #[.agg #[.pointer (some ⟨5, 44, none⟩), .pointer (some ta), .int .u64 386], .agg #[.pointer (some ⟨5, 44, none⟩), .pointer (some b), .int .u64 130]]).run Tryd.prog W
      = .ok (.tuple #[]) (W.setCell ta (.int .i64 n)) := by
  delta ReflectliteValue.set
  rw [at_two]
  simp only [Sem.run_bind, R9.parts23a, R9.parts23, Result.andThen]
  simp [ReflectliteValue.flagAddr, loadVar, isAgg, underlying, Tryd.underlying44, hb, Result.andThen, R9.direct23, storeVar, Value.cells, storeCells, Addr.add]
  rw [run_store Tryd.prog W ta _ _ (by rfl)]
  simp [ht, hf]
theorem R9.mKind (h : Value) (w : World) : (Go.method 261 103 (.agg #[h]) "Kind").run Tryd.prog w = .ok (82, h) w := by kernel_rfl
theorem R9.mElem (h : Value) (w : World) : (Go.method 261 103 (.agg #[h]) "Elem").run Tryd.prog w = .ok (93, .agg #[h]) w := by kernel_rfl
theorem R9.mImpl (h : Value) (w : World) : (Go.method 261 103 (.agg #[h]) "Implements").run Tryd.prog w = .ok (94, .agg #[h]) w := by kernel_rfl
theorem R9.mAssign (h : Value) (w : World) : (Go.method 261 103 (.agg #[h]) "AssignableTo").run Tryd.prog w = .ok (91, .agg #[h]) w := by kernel_rfl
end Go.Proofs.YtopehplicnppfaaDoor
namespace Go.Proofs.YtopehplicnppfaaDoor
open Go.RowKit Go.Extern.Stop Go.Stop Go.Extern

theorem as_end {w : World} {T : Nat} {n : Int} {v0 : Value} (o1 o2 : Obj) (hT : w.cell? ⟨T, 0, none⟩ = some v0) (hTl : T < w.heap.size) :
    (((w.setCell ⟨T, 0, none⟩ (.int .i64 n)).alloc o1).alloc o2).cell? ⟨T, 0, none⟩ = some (.int .i64 n) ∧ Below T w (((w.setCell ⟨T, 0, none⟩ (.int .i64 n)).alloc o1).alloc o2) := by
  have b0 : Below T w (w.setCell ⟨T, 0, none⟩ (.int .i64 n)) := (Below.refl _ _).setCell (p := ⟨T, 0, none⟩) (Nat.le_refl _) _
  have hz := b0.size
  have h0 : (w.setCell ⟨T, 0, none⟩ (.int .i64 n)).cell? ⟨T, 0, none⟩ = some (.int .i64 n) := World.cell?_setCell_same _ _ _ hT
  have h1 : ((w.setCell ⟨T, 0, none⟩ (.int .i64 n)).alloc o1).cell? ⟨T, 0, none⟩ = some (.int .i64 n) := by rw [World.cell?_alloc_past _ _ _ (by omega)]; exact h0
  have hz1 : ((w.setCell ⟨T, 0, none⟩ (.int .i64 n)).alloc o1).heap.size = (w.setCell ⟨T, 0, none⟩ (.int .i64 n)).heap.size + 1 := World.size_alloc _ _
  refine ⟨by rw [World.cell?_alloc_past _ _ _ (by omega)]; exact h1, (b0.alloc (by omega) _).alloc (by omega) _⟩

set_option maxRecDepth 100000 in
set_option maxHeartbeats 1000000 in
theorem as_hit (n : Int) (T a : Nat) (w : World) (hT : w.cell? ⟨T, 0, none⟩ = some (.int .i64 0)) (hF : w.frozen? ⟨T, 0, none⟩ = false) (ha : w.cell? ⟨a, 0, none⟩ = some (.pointer (some ⟨T, 0, none⟩))) (hTl : T < w.heap.size) (hal : a < w.heap.size) :
    Calls Tryd.prog 46 #[.iface 44 (.int .i64 n), .iface 69 (.pointer (some ⟨T, 0, none⟩)), .agg #[.pointer (some ⟨5, 69, none⟩), .pointer (some ⟨a, 0, none⟩), .int .u64 150], .iface 103 (.agg #[.pointer (some ⟨5, 44, none⟩)])] w fun e w' =>
      e = .returned (.bool true) ∧ w'.cell? ⟨T, 0, none⟩ = some (.int .i64 n) ∧ Below T w w' := by
  have h62 := @run_callFunc_extern Tryd.prog 52 _ ReflectliteType.typeOf Tryd.func52 (by kernel_rfl) (by kernel_rfl) (by kernel_rfl) (by kernel_rfl)
  have h105 := @run_callFunc_extern Tryd.prog 91 _ (ReflectliteType.relation "AssignableTo" ReflectliteType.assignableTo) Tryd.func91 (by kernel_rfl) (by kernel_rfl) (by kernel_rfl) (by kernel_rfl)
  have h63 := @run_callFunc_extern Tryd.prog 53 _ (ReflectliteValue.method (ReflectliteValue.valueError "reflectlite.Value.Elem" 0) ReflectliteValue.elem) Tryd.func53 (by kernel_rfl) (by kernel_rfl) (by kernel_rfl) (by kernel_rfl)
  have h64 := @run_callFunc_extern Tryd.prog 54 _ ReflectliteValue.set Tryd.func54 (by kernel_rfl) (by kernel_rfl) (by kernel_rfl) (by kernel_rfl)
  have h55 := @run_callFunc_extern Tryd.prog 43 _ (fun args => ReflectliteValue.unpack (args.getD 0 (.tuple #[]))) Tryd.func43 (by kernel_rfl) (by kernel_rfl) (by kernel_rfl) (by kernel_rfl)
  have tO := R9.typeOf23
  have mA := R9.mAssign
  have a23 := R9.assignable23
  have v23 := R9.valueOf23
  have el := R9.elemV77 ⟨a, 0, none⟩ ⟨T, 0, none⟩ (w.alloc (.cells #[.pointer (some ⟨5, 69, none⟩), .pointer (some ⟨a, 0, none⟩), .int .u64 150] 89)) (by rw [World.cell?_alloc_past _ _ _ hal]; exact ha)
  have st := R9.set23 ⟨T, 0, none⟩ ⟨w.heap.size + 1, 0, none⟩ n (.int .i64 0) ((w.alloc (.cells #[.pointer (some ⟨5, 69, none⟩), .pointer (some ⟨a, 0, none⟩), .int .u64 150] 89)).alloc (.cells #[.int .i64 n] 44))
    (by rw [World.cell?_alloc_at _ _ _ _ (by simp)]; rfl) (by rw [World.cell?_alloc_past _ _ _ (by simp; omega), World.cell?_alloc_past _ _ _ hTl]; exact hT) (by rw [World.frozen?_alloc_old _ _ _ (by simp; omega), World.frozen?_alloc_old _ _ _ (by simp; omega)]; exact hF)
  go_enter Tryd.func46, Tryd.ntmps46
  go_wp2
  refine wp_loop_rounds 1 ?_
  rw [rounds_succ]
  go_wp2
  go_ret
  exact ⟨rfl, as_end _ _ hT hTl⟩
set_option maxRecDepth 100000 in
set_option maxHeartbeats 1000000 in
theorem As_hit (n : Int) (T : Nat) (w : World) (hT : w.cell? ⟨T, 0, none⟩ = some (.int .i64 0)) (hF : w.frozen? ⟨T, 0, none⟩ = false) (hTl : T < w.heap.size) (hg : w.cell? ⟨0, 0, none⟩ = some (.iface 103 (.agg #[.pointer (some ⟨5, 39, none⟩)]))) :
    Calls Tryd.prog 31 #[.iface 44 (.int .i64 n), .iface 69 (.pointer (some ⟨T, 0, none⟩))] w fun e w' => e = .returned (.bool true) ∧ w'.cell? ⟨T, 0, none⟩ = some (.int .i64 n) ∧ Below T w w' := by
  have h55 := @run_callFunc_extern Tryd.prog 43 _ (fun args => ReflectliteValue.unpack (args.getD 0 (.tuple #[]))) Tryd.func43 (by kernel_rfl) (by kernel_rfl) (by kernel_rfl) (by kernel_rfl)
  have h56 := @run_callFunc_extern Tryd.prog 44 _ (ReflectliteValue.methodAny (ReflectliteValue.valueError "reflectlite.Value.Type" 0) (fun t _ _ _ => ReflectliteType.toType t)) Tryd.func44 (by kernel_rfl) (by kernel_rfl) (by kernel_rfl) (by kernel_rfl)
  have h57 := @run_callFunc_extern Tryd.prog 45 _ (ReflectliteValue.method (ReflectliteValue.valueError "reflectlite.Value.IsNil" 0) ReflectliteValue.isNil) Tryd.func45 (by kernel_rfl) (by kernel_rfl) (by kernel_rfl) (by kernel_rfl)
  have h91 := @run_callFunc_extern Tryd.prog 82 _ (ReflectliteType.abiMethod fun t => do pure (.int .u8 (← Rtype.kind t))) Tryd.func82 (by kernel_rfl) (by kernel_rfl) (by kernel_rfl) (by kernel_rfl)
  have h107 := @run_callFunc_extern Tryd.prog 93 _ (ReflectliteType.method ReflectliteType.elem) Tryd.func93 (by kernel_rfl) (by kernel_rfl) (by kernel_rfl) (by kernel_rfl)
  have h108 := @run_callFunc_extern Tryd.prog 94 _ (ReflectliteType.relation "Implements" ReflectliteType.implements_) Tryd.func94 (by kernel_rfl) (by kernel_rfl) (by kernel_rfl) (by kernel_rfl)
  have v77 := R9.valueOf77
  have t77 := R9.type77
  have mK := R9.mKind
  have mE := R9.mElem
  have mI := R9.mImpl
  have k77 := R9.kind77
  have k23 := R9.kind23
  have e77 := R9.elem77
  have i23 := R9.implements23
  have hgl : 0 < w.heap.size := by
    rcases Nat.lt_or_ge 0 w.heap.size with h | h
    · exact h
    · simp [World.cell?, Array.getElem?_eq_none h] at hg
  obtain ⟨W1, hW1⟩ : ∃ W1, W1 = (w.alloc (.cells #[.pointer (some ⟨T, 0, none⟩)] 69)).alloc (.cells #[.pointer (some ⟨5, 69, none⟩), .pointer (some ⟨w.heap.size, 0, none⟩), .int .u64 150] 89) := ⟨_, rfl⟩
  have hg2 : ((w.alloc (.cells #[.pointer (some ⟨T, 0, none⟩)] 69)).alloc (.cells #[.pointer (some ⟨5, 69, none⟩), .pointer (some ⟨w.heap.size, 0, none⟩), .int .u64 150] 89)).cell? ⟨0, 0, none⟩ = some (.iface 103 (.agg #[.pointer (some ⟨5, 39, none⟩)])) := by
    rw [World.cell?_alloc_past _ _ _ (by simp), World.cell?_alloc_past _ _ _ hgl]; exact hg
  have ha : W1.cell? ⟨w.heap.size, 0, none⟩ = some (.pointer (some ⟨T, 0, none⟩)) := by
    rw [hW1, World.cell?_alloc_past _ _ _ (by simp), World.cell?_alloc_at _ _ _ _ rfl]; rfl
  have hT1 : W1.cell? ⟨T, 0, none⟩ = some (.int .i64 0) := by rw [hW1, World.cell?_alloc_past _ _ _ (by simp; omega), World.cell?_alloc_past _ _ _ hTl]; exact hT
  have hF1 : W1.frozen? ⟨T, 0, none⟩ = false := by rw [hW1, World.frozen?_alloc_old _ _ _ (by simp; omega), World.frozen?_alloc_old _ _ _ (by simp; omega)]; exact hF
  have hz1 : W1.heap.size = w.heap.size + 2 := by rw [hW1]; simp
  have hB1 : Below T w W1 := by rw [hW1]; exact ((Below.refl _ _).alloc (Nat.le_of_lt hTl) _).alloc (by simp; omega) _
  have n8 := R9.isNil77 ⟨w.heap.size, 0, none⟩ ⟨T, 0, none⟩ W1 ha
  rw [hW1] at n8
  have HC : Hid _ := as_hit n T w.heap.size W1 hT1 hF1 ha (by omega) (by omega)
  have HB1 := hide hB1
  rw [hW1] at HC HB1
  clear hB1 hz1 hF1 hT1 ha hW1 W1
  go_enter Tryd.func31, Tryd.ntmps31
  go_wp2_with fail
  refine Calls.mono HC.out ?_
  rintro e w2 ⟨rfl, hc2, hb2⟩
  have HC2 := hide hc2
  have HB2 := hide hb2
  clear hc2 hb2
  go_wp2_with fail
  go_ret
  exact ⟨rfl, HC2.out, HB1.out.trans HB2.out⟩

end Go.Proofs.YtopehplicnppfaaDoor
namespace Go.Proofs.YtopehplicnppfaaDoor
open Go.RowKit Go.Extern.Stop Go.Stop Go.Extern

abbrev errType (w : World) : Prop := w.cell? ⟨0, 0, none⟩ = some (.iface 103 (.agg #[.pointer (some ⟨5, 39, none⟩)]))

theorem lt_of_errType {w : World} (h : errType w) : 0 < w.heap.size := by
  rcases Nat.lt_or_ge 0 w.heap.size with h' | h'
  · exact h'
  · simp [errType, World.cell?, Array.getElem?_eq_none h'] at h

theorem errType_later {w w' : World} (h : errType w) (hb : Below w.heap.size w w') : errType w' := by
  unfold errType
  rw [hb.cell (p := ⟨0, 0, none⟩) (lt_of_errType h)]; exact h

set_option maxRecDepth 100000 in
set_option maxHeartbeats 1000000 in
theorem Tell_hit (n : Int) (w : World) (hg : errType w) :
    Calls Tryd.prog 18 #[.iface 44 (.int .i64 n)] w fun e w' => e = .returned (.int .i64 n) ∧ Below w.heap.size w w' := by
  have hgl := lt_of_errType hg
  obtain ⟨W1, hW1⟩ : ∃ W1, W1 = w.alloc (.cells #[.int .i64 0] 44) := ⟨_, rfl⟩
  have hT : W1.cell? ⟨w.heap.size, 0, none⟩ = some (.int .i64 0) := by rw [hW1, World.cell?_alloc_at _ _ _ _ rfl]; rfl
  have hF : W1.frozen? ⟨w.heap.size, 0, none⟩ = false := by rw [hW1]; exact World.frozen?_alloc_at _ _ _ _ rfl
  have hz1 : W1.heap.size = w.heap.size + 1 := by rw [hW1]; simp
  have hg1 : errType W1 := by unfold errType; rw [hW1, World.cell?_alloc_past _ _ _ hgl]; exact hg
  have hB1 : Below w.heap.size w W1 := by rw [hW1]; exact (Below.refl _ _).alloc (Nat.le_refl _) _
  have HC : Hid _ := As_hit n w.heap.size W1 hT hF (by omega) hg1
  have HB1 := hide hB1
  rw [hW1] at HC HB1
  clear hB1 hg1 hz1 hF hT hW1 W1 hgl
  go_enter Tryd.func18, Tryd.ntmps18
  go_wp2_with fail
  refine Calls.mono HC.out ?_
  rintro e w2 ⟨rfl, hc2, hb2⟩
  have HB2 := hide hb2
  clear hb2
  go_wp2_with fail
  go_ret
  exact ⟨rfl, HB1.out.trans HB2.out⟩

end Go.Proofs.YtopehplicnppfaaDoor
namespace Go.Proofs.YtopehplicnppfaaDoor
open Go.RowKit

theorem firstS_snoc {nm : ByteArray} {bs : List Bd} {b : Bd} (h : firstS nm bs = none) (hb : b.name = nm) : firstS nm (bs ++ [b]) = some bs.length := by
  unfold firstS at h ⊢
  rw [List.findIdx?_append, h]
  simp [List.findIdx?_cons, isS, hb]
theorem get_snoc (bs : List Bd) (b : Bd) : (bs ++ [b])[bs.length]? = some b := by simp
theorem set_snoc (bs : List Bd) (b c : Bd) : (bs ++ [b]).set bs.length c = bs ++ [c] := by simp
/-- One scope of names, some blocks beside it, and what stays. -/
structure St (w0 : World) (H : Nat) (ks : List (Nat × Array Value × TypeId)) (W : World) (bs : List Bd) : Prop where
  hr : ∃ sv vs, HR H W [⟨-1, bs⟩] sv vs
  kept : ∀ k ∈ ks, W.heap[k.1]? = some (.cells k.2.1 k.2.2 (0, 0)) ∧ k.2.2 ≠ 25 ∧ k.2.2 ≠ 57 ∧ k.2.2 ≠ 66
  below : Below w0.heap.size w0 W
  le : w0.heap.size ≤ H
  err : errType w0
variable {w0 W : World} {H : Nat} {ks : List (Nat × Array Value × TypeId)} {bs : List Bd}
theorem St.later (h : St w0 H ks W bs) {W' : World} (hb : Below W.heap.size W W') : St w0 H ks W' bs := by
  obtain ⟨⟨sv, vs, hr⟩, h2, h3, h4, h5⟩ := h
  exact ⟨⟨sv, vs, hr.later hb⟩, fun k hk => ⟨(hb.block k.1 (lt_of_block (h2 k hk).1)).trans (h2 k hk).1, (h2 k hk).2⟩, h3.trans (hb.mono h3.size), h4, h5⟩
theorem St.fr (h : St w0 H ks W bs) {W' : World} {bs' : List Bd} {sv : Value} {vs : List Value} (hr : HR H W' [⟨-1, bs'⟩] sv vs) (hf : Fr H W W') : St w0 H ks W' bs' :=
  ⟨⟨sv, vs, hr⟩, fun k hk => ⟨hf.ints k.1 _ _ (h.kept k hk).1 (h.kept k hk).2, (h.kept k hk).2⟩, h.below.trans (hf.below.mono h.le), h.le, h.err⟩
theorem St.etype (h : St w0 H ks W bs) : errType W := errType_later h.err h.below
theorem St.push (h : St w0 H ks W bs) (c : Array Value) (e : TypeId) (he : e ≠ 25 ∧ e ≠ 57 ∧ e ≠ 66) : St w0 H ((W.heap.size, c, e) :: ks) (W.alloc (.cells c e)) bs := by
  have h' := h.later (W' := W.alloc (.cells c e)) ((Below.refl _ _).alloc (Nat.le_refl _) _)
  refine ⟨h'.hr, fun k hk => ?_, h'.below, h'.le, h'.err⟩
  rcases List.mem_cons.1 hk with rfl | hk
  · exact ⟨heap_alloc_new W _, he⟩
  · exact h'.kept k hk
theorem St.pop {k : Nat × Array Value × TypeId} (h : St w0 H (k :: ks) W bs) : St w0 H ks W bs := ⟨h.hr, fun k hk => h.kept k (List.mem_cons_of_mem _ hk), h.below, h.le, h.err⟩

theorem St.of (h : St w0 H ks W bs) (n : Int) : Calls Tryd.prog 6 #[.int .i64 n] W fun e w' => e = .returned (.agg #[.int .i64 3, .int .i64 n, .string ⟨#[]⟩]) ∧ St w0 H ks w' bs :=
  (of_any n W).mono fun _ _ ⟨a, b⟩ => ⟨a, h.later b⟩
theorem St.tell (h : St w0 H ks W bs) (n : Int) : Calls Tryd.prog 18 #[.iface 44 (.int .i64 n)] W fun e w' => e = .returned (.int .i64 n) ∧ St w0 H ks w' bs :=
  (Tell_hit n W h.etype).mono fun _ _ ⟨a, b⟩ => ⟨a, h.later b⟩
set_option maxHeartbeats 400000 in
theorem Tell_nil (w : World) : Calls Tryd.prog 18 #[.nilIface] w fun e w' => e = .returned (.int .i64 0) ∧ Below w.heap.size w w' := by
  go_enter Tryd.func18, Tryd.ntmps18
  go_wp2_with fail
  go_ret
  exact ⟨rfl, Below.refl _ _⟩
theorem St.tell0 (h : St w0 H ks W bs) : Calls Tryd.prog 18 #[.nilIface] W fun e w' => e = .returned (.int .i64 0) ∧ St w0 H ks w' bs :=
  (Tell_nil W).mono fun _ _ ⟨a, b⟩ => ⟨a, h.later b⟩
theorem St.declare1 (h : St w0 H ks W bs) {nm : ByteArray} (hk : firstS nm bs = none) (hl : bs.length < 100) (n : Int) :
    Calls Tryd.prog 14 #[.pointer (some ⟨H, 0, none⟩), .int .i64 0, .string nm, .int .i64 1, .agg #[.int .i64 3, .int .i64 n, .string ⟨#[]⟩]] W fun e w' => e = .returned .nilIface ∧ St w0 H ks w' (bs ++ [⟨nm, 3, n, ⟨#[]⟩, 1, false⟩]) := by
  obtain ⟨sv, vs, hr⟩ := h.hr
  exact (declare_1 hr 0 ⟨-1, bs⟩ rfl nm hk 3 n ⟨#[]⟩ hl).mono fun _ _ ⟨a, ⟨v', b⟩, c⟩ => ⟨a, h.fr b c⟩
theorem St.declare2 (h : St w0 H ks W bs) {nm : ByteArray} (hk : firstS nm bs = none) (hl : bs.length < 100) (n : Int) :
    Calls Tryd.prog 14 #[.pointer (some ⟨H, 0, none⟩), .int .i64 0, .string nm, .int .i64 2, .agg #[.int .i64 3, .int .i64 n, .string ⟨#[]⟩]] W fun e w' => e = .returned .nilIface ∧ St w0 H ks w' (bs ++ [⟨nm, 3, n, ⟨#[]⟩, 2, false⟩]) := by
  obtain ⟨sv, vs, hr⟩ := h.hr
  exact (declare_2 hr 0 ⟨-1, bs⟩ rfl nm hk 3 n ⟨#[]⟩ hl).mono fun _ _ ⟨a, ⟨v', b⟩, c⟩ => ⟨a, h.fr b c⟩
theorem St.readNot {nm : ByteArray} {n : Int} {t : ByteArray} {k : Int} (h : St w0 H ks W (bs ++ [⟨nm, 3, n, t, k, false⟩])) (hk : firstS nm bs = none) :
    Calls Tryd.prog 15 #[.pointer (some ⟨H, 0, none⟩), .int .i64 0, .string nm] W fun e w' => e = .returned (.tuple #[noVal, (.iface 44 (.int .i64 6))]) ∧ St w0 H ks w' (bs ++ [⟨nm, 3, n, t, k, false⟩]) := by
  obtain ⟨sv, vs, hr⟩ := h.hr
  exact (read_not hr 0 ⟨-1, _⟩ rfl nm bs.length _ (firstS_snoc hk rfl) (get_snoc _ _) rfl).mono fun _ _ ⟨a, b⟩ => ⟨a, h.later b⟩
theorem St.writeNot {nm : ByteArray} {n : Int} {t : ByteArray} {k : Int} (h : St w0 H ks W (bs ++ [⟨nm, 3, n, t, k, false⟩])) (hk : firstS nm bs = none) (x : Int) :
    Calls Tryd.prog 16 #[.pointer (some ⟨H, 0, none⟩), .int .i64 0, .string nm, .agg #[.int .i64 3, .int .i64 x, .string ⟨#[]⟩]] W fun e w' => e = .returned (.iface 44 (.int .i64 6)) ∧ St w0 H ks w' (bs ++ [⟨nm, 3, n, t, k, false⟩]) := by
  obtain ⟨sv, vs, hr⟩ := h.hr
  exact (write_state hr 0 ⟨-1, _⟩ rfl nm bs.length _ (firstS_snoc hk rfl) (get_snoc _ _) rfl 3 x ⟨#[]⟩).mono fun _ _ ⟨a, b⟩ => ⟨a, h.later b⟩
theorem St.start {nm : ByteArray} {n : Int} {t : ByteArray} {k : Int} (h : St w0 H ks W (bs ++ [⟨nm, 3, n, t, k, false⟩])) (hk : firstS nm bs = none) (x : Int) :
    Calls Tryd.prog 17 #[.pointer (some ⟨H, 0, none⟩), .int .i64 0, .string nm, .agg #[.int .i64 3, .int .i64 x, .string ⟨#[]⟩]] W fun e w' => e = .returned .nilIface ∧ St w0 H ks w' (bs ++ [⟨nm, 3, x, ⟨#[]⟩, k, true⟩]) := by
  obtain ⟨sv, vs, hr⟩ := h.hr
  refine (start_ok hr 0 ⟨-1, _⟩ rfl nm bs.length _ (firstS_snoc hk rfl) (get_snoc _ _) 3 x ⟨#[]⟩).mono fun _ _ ⟨a, b, c⟩ => ⟨a, h.fr (sv := sv) (vs := vs) ?_ c⟩
  simpa using b
theorem St.read {nm : ByteArray} {n : Int} {t : ByteArray} {k : Int} (h : St w0 H ks W (bs ++ [⟨nm, 3, n, t, k, true⟩])) (hk : firstS nm bs = none) :
    Calls Tryd.prog 15 #[.pointer (some ⟨H, 0, none⟩), .int .i64 0, .string nm] W fun e w' => e = .returned (.tuple #[.agg #[.int .i64 3, .int .i64 n, .string t], .nilIface]) ∧ St w0 H ks w' (bs ++ [⟨nm, 3, n, t, k, true⟩]) := by
  obtain ⟨sv, vs, hr⟩ := h.hr
  exact (read_ok hr 0 ⟨-1, _⟩ rfl nm bs.length _ (firstS_snoc hk rfl) (get_snoc _ _) rfl).mono fun _ _ ⟨a, b⟩ => ⟨a, h.later b⟩
theorem St.write1 {nm : ByteArray} {n : Int} {t : ByteArray} (h : St w0 H ks W (bs ++ [⟨nm, 3, n, t, 1, true⟩])) (hk : firstS nm bs = none) (x : Int) :
    Calls Tryd.prog 16 #[.pointer (some ⟨H, 0, none⟩), .int .i64 0, .string nm, .agg #[.int .i64 3, .int .i64 x, .string ⟨#[]⟩]] W fun e w' => e = .returned .nilIface ∧ St w0 H ks w' (bs ++ [⟨nm, 3, x, ⟨#[]⟩, 1, true⟩]) := by
  obtain ⟨sv, vs, hr⟩ := h.hr
  refine (write_ok hr 0 ⟨-1, _⟩ rfl nm bs.length _ (firstS_snoc hk rfl) (get_snoc _ _) rfl (by show (1 : Int) ≠ 2; decide) (by show (1 : Int) ≠ 3; decide) 3 x ⟨#[]⟩).mono fun _ _ ⟨a, b, c⟩ => ⟨a, h.fr (sv := sv) (vs := vs) ?_ c⟩
  simpa using b
theorem St.write2 {nm : ByteArray} {n : Int} {t : ByteArray} (h : St w0 H ks W (bs ++ [⟨nm, 3, n, t, 2, true⟩])) (hk : firstS nm bs = none) (x : Int) :
    Calls Tryd.prog 16 #[.pointer (some ⟨H, 0, none⟩), .int .i64 0, .string nm, .agg #[.int .i64 3, .int .i64 x, .string ⟨#[]⟩]] W fun e w' => e = .returned (.iface 44 (.int .i64 1)) ∧ St w0 H ks w' (bs ++ [⟨nm, 3, n, t, 2, true⟩]) := by
  obtain ⟨sv, vs, hr⟩ := h.hr
  exact (write_arg hr 0 ⟨-1, _⟩ rfl nm bs.length _ (firstS_snoc hk rfl) (get_snoc _ _) rfl rfl 3 x ⟨#[]⟩).mono fun _ _ ⟨a, b⟩ => ⟨a, h.later b⟩
end Go.Proofs.YtopehplicnppfaaDoor
set_option maxRecDepth 100000
set_option maxHeartbeats 16000000
namespace Go.Proofs.YtopehplicnppfaaDoor
open Go.RowKit

theorem three {W : World} {b : Nat} {a c d : Value} {e : TypeId} (h : W.heap[b]? = some (.cells #[a, c, d] e (0, 0))) : W.cell? ⟨b, 0, none⟩ = some a ∧ W.cell? ⟨b, 1, none⟩ = some c ∧ W.cell? ⟨b, 2, none⟩ = some d := by simp [World.cell?, h]
theorem firstS_app_other {nm : ByteArray} {bs : List Bd} {b : Bd} (h : firstS nm bs = none) (hb : isS nm b = false) : firstS nm (bs ++ [b]) = none := by
  unfold firstS at h ⊢
  rw [List.findIdx?_append, h]
  simp [List.findIdx?_cons, hb]
theorem ne_names (s : ByteArray) {a n : Int} {t : ByteArray} {k : Int} {r : Bool} : isS (s ++ Utf8.encode 50) ⟨s ++ Utf8.encode 49, a, n, t, k, r⟩ = false := by
  show ((s ++ Utf8.encode 49).toList == (s ++ Utf8.encode 50).toList) = false
  rw [show Utf8.encode 49 = ⟨#[49]⟩ by kernel_rfl, show Utf8.encode 50 = ⟨#[50]⟩ by kernel_rfl]
  rw [beq_eq_false_iff_ne]
  intro h
  have h2 : (s ++ (⟨#[49]⟩ : ByteArray)).data = (s ++ (⟨#[50]⟩ : ByteArray)).data := by
    rw [ByteArray.toList_eq, ByteArray.toList_eq] at h
    exact Array.toList_inj.1 h
  rw [ByteArray.data_append, ByteArray.data_append] at h2
  have h3 := congrArg (fun x => x.back?) h2
  simp at h3
theorem late_long (s : ByteArray) (v x : Int) (w : World) (h : 20 < s.size) : Calls Tryd.prog 4 #[.string s, .int .i64 v, .int .i64 x] w fun e w' => e = .returned (.bool true) ∧ Below w.heap.size w w' := by
  go_enter Tryd.func4, Tryd.ntmps4
  go_wp2_with fail
  go_ret
  exact ⟨rfl, Below.refl _ _⟩
theorem late_any (s : ByteArray) (v x : Int) (w : World) (h : s.size ≤ 20) (hg : errType w) : Calls Tryd.prog 4 #[.string s, .int .i64 v, .int .i64 x] w fun e w' => e = .returned (.bool true) ∧ Below w.heap.size w w' := by
  have HS0 := hide (HR.start w)
  have HC := hide (scope_first HS0.out (by decide))
  have HF0 := hide ((Below.refl w.heap.size w).alloc (Nat.le_refl _) (.cells #[.slice none 0 0, .slice none 0 0] 25))
  have HG := hide hg
  clear hg
  unfold hP at HC
  go_enter Tryd.func4, Tryd.ntmps4
  go_wp2_with fail
  refine Calls.mono HC.out ?_
  rintro e w1 ⟨rfl, ⟨sv1, hh1⟩, hf1⟩
  have HH1 := hide hh1
  have HF1 := hide (HF0.out.trans hf1.below)
  have HO := hide (heaped_any w1)
  clear hh1 hf1 HC
  go_wp2_with fail
  refine Calls.mono HO.out ?_
  rintro e w2 ⟨rfl, hb2⟩
  have HST : Hid (St w w.heap.size [(w2.heap.size, #[.int .i64 1, .int .i64 2], 3)] (w2.alloc (.cells #[.int .i64 1, .int .i64 2] 3)) []) := by
    have h0 : St w w.heap.size [] w2 [] := ⟨⟨_, _, HH1.out.later hb2⟩, fun k hk => by simp at hk, HF1.out.trans (hb2.mono HF1.out.size), Nat.le_refl _, HG.out⟩
    exact h0.push _ 3 (by decide)
  clear hb2 HO HH1 HF1 HG HF0 HS0 
  go_wp2_with fail
  go_loopw [9, 32] (fun o i wr => ∃ (k : Nat) (bs : List Bd), o = .bool true ∧ i = .int .i64 k ∧ k ≤ 2 ∧ bs.length ≤ k ∧ (k = 0 → firstS (s ++ Utf8.encode 49) bs = none) ∧ (k ≤ 1 → firstS (s ++ Utf8.encode 50) bs = none) ∧ St w w.heap.size [(w2.heap.size, #[.int .i64 1, .int .i64 2], 3)] wr bs) (fun _ i _ => 2 - (intOf i).toNat)
  case atStart => exact ⟨0, [], rfl, rfl, by omega, by simp, fun _ => rfl, fun _ => rfl, HST.out⟩
  case round =>
    clear HST
    obtain ⟨k, bs, rfl, rfl, hk, hl, h0, h1, hst⟩ := hrel
    have h2 := (hst.kept (w2.heap.size, #[.int .i64 1, .int .i64 2], 3) (by simp)).1
    have c0 : wr.cell? ⟨w2.heap.size, 0, none⟩ = some (.int .i64 1) := by simp [World.cell?, h2]
    have c1 : wr.cell? ⟨w2.heap.size, 1, none⟩ = some (.int .i64 2) := by simp [World.cell?, h2]
    have HST := hide hst
    have hlt := lt_of_block h2
    have HL := hide hl
    have HB0 := hide (Nat.zero_le k)
    have H0 := hide h0
    have H1 := hide h1
    clear hst hl h0 h1 h2
    match k, hk with
    | 0, _ =>
      have q1 : ¬ 9223372036854775807 < s.size + (Utf8.encode 49).size := by rw [show (Utf8.encode 49).size = 1 by kernel_rfl]; omega
      have HNM := hide (H0.out rfl)
      have HOF := hide (HST.out.of v)
      go_wp2_with fail
      refine Calls.mono HOF.out ?_
      rintro e w3 ⟨rfl, h3⟩
      have HD := hide (h3.declare1 HNM.out (by have := HL.out; omega) v)
      clear h3 HOF
      go_wp2_with fail
      refine Calls.mono HD.out ?_
      rintro e w4 ⟨rfl, h4⟩
      have HD := hide (h4.readNot HNM.out)
      unfold noVal at HD
      clear h4
      go_wp2_with fail
      refine Calls.mono HD.out ?_
      rintro e w5 ⟨rfl, h5⟩
      have HD := hide ((h5.push #[.int .i64 0, .int .i64 0, .string ⟨#[]⟩] 28 (by decide)).of x)
      clear h5
      go_wp2_with fail
      refine Calls.mono HD.out ?_
      rintro e w6 ⟨rfl, h6⟩
      have HD := hide (h6.writeNot HNM.out x)
      clear h6
      go_wp2_with fail
      refine Calls.mono HD.out ?_
      rintro e w7 ⟨rfl, h7⟩
      have HD := hide (h7.of v)
      clear h7
      go_wp2_with fail
      refine Calls.mono HD.out ?_
      rintro e w8 ⟨rfl, h8⟩
      have HD := hide (h8.start HNM.out v)
      clear h8
      go_wp2_with fail
      refine Calls.mono HD.out ?_
      rintro e w9 ⟨rfl, h9⟩
      have HD := hide (h9.read HNM.out)
      clear h9
      go_wp2_with fail
      refine Calls.mono HD.out ?_
      rintro e w10 ⟨rfl, h10⟩
      have HD := hide ((h10.push #[.int .i64 3, .int .i64 v, .string ⟨#[]⟩] 28 (by decide)).of x)
      clear h10
      go_wp2_with fail
      refine Calls.mono HD.out ?_
      rintro e w11 ⟨rfl, h11⟩
      have HD := hide (h11.write1 HNM.out x)
      clear h11
      go_wp2_with fail
      refine Calls.mono HD.out ?_
      rintro e w12 ⟨rfl, h12⟩
      have HD := hide (h12.read HNM.out)
      clear h12
      go_wp2_with fail
      refine Calls.mono HD.out ?_
      rintro e w13 ⟨rfl, h13⟩
      have HST := hide (h13.push #[.int .i64 3, .int .i64 x, .string ⟨#[]⟩] 28 (by decide))
      clear h13 HD
      go_wp2_with fail
      refine wp_region_held (S := fun W => St w w.heap.size [(w13.heap.size, #[.int .i64 3, .int .i64 x, .string ⟨#[]⟩], 28), (w10.heap.size, #[.int .i64 3, .int .i64 v, .string ⟨#[]⟩], 28), (w5.heap.size, #[.int .i64 0, .int .i64 0, .string ⟨#[]⟩], 28), (w2.heap.size, #[.int .i64 1, .int .i64 2], 3)] W (bs ++ [⟨s ++ Utf8.encode 49, 3, x, ⟨#[]⟩, 1, true⟩])) (by kernel_rfl) ?_
      change wpAnyH _ _ _ _ _ _ _ _ (World.drew _)
      have HS := hide (HST.out.later (Below.refl _ _).drew)
      refine wh 0 (.bool true) HS.out ?_
      refine wh 1 (.bool true) HS.out ?_
      refine wh 2 (.nilIface) HS.out ?_
      refine wh 3 (.bool true) HS.out ?_
      refine wh 4 (.bool true) HS.out ?_
      refine wh 5 (.bool true) HS.out ?_
      refine wh 6 (.iface 44 (.int .i64 6)) HS.out ?_
      refine wq1 7 fun K hK => ?_
      go_simp
      refine Calls.mono (HS.out.tell 6) ?_
      rintro e wn ⟨rfl, hn⟩
      refine hK.out _ _ hn (fun _ => ?_)
      have HS := hide hn
      clear hK K hn
      refine wh 8 (.bool true) HS.out ?_
      refine wh 9 (.bool true) HS.out ?_
      refine wh 10 (.bool true) HS.out ?_
      refine wh 11 (.iface 44 (.int .i64 6)) HS.out ?_
      refine wq1 12 fun K hK => ?_
      go_simp
      refine Calls.mono (HS.out.tell 6) ?_
      rintro e wn ⟨rfl, hn⟩
      refine hK.out _ _ hn (fun _ => ?_)
      have HS := hide hn
      clear hK K hn
      refine wh 13 (.bool true) HS.out ?_
      refine wh 14 (.bool true) HS.out ?_
      refine wh 15 (.bool true) HS.out ?_
      refine wh 16 (.nilIface) HS.out ?_
      refine wh 17 (.bool true) HS.out ?_
      refine wh 18 (.bool true) HS.out ?_
      refine wh 19 (.bool true) HS.out ?_
      refine wh 20 (.nilIface) HS.out ?_
      refine wh 21 (.bool true) HS.out ?_
      refine wh 22 (.bool true) HS.out ?_
      refine wh 23 (.bool true) HS.out ?_
      refine wg 24 (.agg #[.int .i64 3, .int .i64 v, .string ⟨#[]⟩]) rfl (Or.inl ⟨by kernel_rfl, fun W hW => by obtain ⟨q0, q1, q2⟩ := three (hW.kept (w10.heap.size, #[.int .i64 3, .int .i64 v, .string ⟨#[]⟩], 28) (by simp)).1; go_simp⟩) HS.out ?_
      refine wh 25 (.int .i64 v) HS.out ?_
      refine wq1 26 fun K hK => ?_
      go_simp
      refine Calls.mono (HS.out.of v) ?_
      rintro e wn ⟨rfl, hn⟩
      refine hK.out _ _ hn (fun _ => ?_)
      have HS := hide hn
      clear hK K hn
      refine wh 27 (.bool true) HS.out ?_
      refine wh 28 (.bool true) HS.out ?_
      refine wh 29 (.bool true) HS.out ?_
      refine wh 30 (.nilIface) HS.out ?_
      refine wh 32 (.int .i64 0) HS.out ?_
      refine wq1 31 fun K hK => ?_
      go_simp
      refine Calls.mono (HS.out.tell0) ?_
      rintro e wn ⟨rfl, hn⟩
      refine hK.out _ _ hn (fun _ => ?_)
      have HS := hide hn
      clear hK K hn
      refine wh 33 (.bool true) HS.out ?_
      refine wh 34 (.bool true) HS.out ?_
      refine wh 35 (.bool true) HS.out ?_
      refine wh 36 (.nilIface) HS.out ?_
      refine wh 37 (.bool true) HS.out ?_
      refine wh 38 (.bool true) HS.out ?_
      refine wh 39 (.bool true) HS.out ?_
      refine wg 40 (.agg #[.int .i64 3, .int .i64 x, .string ⟨#[]⟩]) rfl (Or.inl ⟨by kernel_rfl, fun W hW => by obtain ⟨q0, q1, q2⟩ := three (hW.kept (w13.heap.size, #[.int .i64 3, .int .i64 x, .string ⟨#[]⟩], 28) (by simp)).1; go_simp⟩) HS.out ?_
      refine wh 41 (.int .i64 x) HS.out ?_
      refine wq1 42 fun K hK => ?_
      go_simp
      refine Calls.mono (HS.out.of x) ?_
      rintro e wn ⟨rfl, hn⟩
      refine hK.out _ _ hn (fun _ => ?_)
      have HS := hide hn
      clear hK K hn
      refine wh 43 (.bool true) HS.out ?_
      refine wh 44 (.bool true) HS.out ?_
      refine wh 45 (.bool true) HS.out ?_
      refine wpAnyH_done (by kernel_rfl) ?_ _
      go_simp
      go_wp2_with fail
      go_roundw
      case rel => exact ⟨1, _, rfl, rfl, by omega, by rw [List.length_append]; have := HL.out; simp only [List.length_cons, List.length_nil]; omega, fun h => by omega, fun h => by rw [firstS_app_other (H1.out (by omega)) (ne_names s)], HS.out.pop.pop.pop⟩
      case measure => simp [intOf]
    | 1, _ =>
      have q1 : ¬ 9223372036854775807 < s.size + (Utf8.encode 50).size := by rw [show (Utf8.encode 50).size = 1 by kernel_rfl]; omega
      have HNM := hide (H1.out (by omega))
      have HOF := hide (HST.out.of v)
      go_wp2_with fail
      refine Calls.mono HOF.out ?_
      rintro e w3 ⟨rfl, h3⟩
      have HD := hide (h3.declare2 HNM.out (by have := HL.out; omega) v)
      clear h3 HOF
      go_wp2_with fail
      refine Calls.mono HD.out ?_
      rintro e w4 ⟨rfl, h4⟩
      have HD := hide (h4.readNot HNM.out)
      unfold noVal at HD
      clear h4
      go_wp2_with fail
      refine Calls.mono HD.out ?_
      rintro e w5 ⟨rfl, h5⟩
      have HD := hide ((h5.push #[.int .i64 0, .int .i64 0, .string ⟨#[]⟩] 28 (by decide)).of x)
      clear h5
      go_wp2_with fail
      refine Calls.mono HD.out ?_
      rintro e w6 ⟨rfl, h6⟩
      have HD := hide (h6.writeNot HNM.out x)
      clear h6
      go_wp2_with fail
      refine Calls.mono HD.out ?_
      rintro e w7 ⟨rfl, h7⟩
      have HD := hide (h7.of v)
      clear h7
      go_wp2_with fail
      refine Calls.mono HD.out ?_
      rintro e w8 ⟨rfl, h8⟩
      have HD := hide (h8.start HNM.out v)
      clear h8
      go_wp2_with fail
      refine Calls.mono HD.out ?_
      rintro e w9 ⟨rfl, h9⟩
      have HD := hide (h9.read HNM.out)
      clear h9
      go_wp2_with fail
      refine Calls.mono HD.out ?_
      rintro e w10 ⟨rfl, h10⟩
      have HD := hide ((h10.push #[.int .i64 3, .int .i64 v, .string ⟨#[]⟩] 28 (by decide)).of x)
      clear h10
      go_wp2_with fail
      refine Calls.mono HD.out ?_
      rintro e w11 ⟨rfl, h11⟩
      have HD := hide (h11.write2 HNM.out x)
      clear h11
      go_wp2_with fail
      refine Calls.mono HD.out ?_
      rintro e w12 ⟨rfl, h12⟩
      have HD := hide (h12.read HNM.out)
      clear h12
      go_wp2_with fail
      refine Calls.mono HD.out ?_
      rintro e w13 ⟨rfl, h13⟩
      have HST := hide (h13.push #[.int .i64 3, .int .i64 v, .string ⟨#[]⟩] 28 (by decide))
      clear h13 HD
      go_wp2_with fail
      refine wp_region_held (S := fun W => St w w.heap.size [(w13.heap.size, #[.int .i64 3, .int .i64 v, .string ⟨#[]⟩], 28), (w10.heap.size, #[.int .i64 3, .int .i64 v, .string ⟨#[]⟩], 28), (w5.heap.size, #[.int .i64 0, .int .i64 0, .string ⟨#[]⟩], 28), (w2.heap.size, #[.int .i64 1, .int .i64 2], 3)] W (bs ++ [⟨s ++ Utf8.encode 50, 3, v, ⟨#[]⟩, 2, true⟩])) (by kernel_rfl) ?_
      change wpAnyH _ _ _ _ _ _ _ _ (World.drew _)
      have HS := hide (HST.out.later (Below.refl _ _).drew)
      refine wh 0 (.bool true) HS.out ?_
      refine wh 1 (.bool true) HS.out ?_
      refine wh 2 (.nilIface) HS.out ?_
      refine wh 3 (.bool true) HS.out ?_
      refine wh 4 (.bool true) HS.out ?_
      refine wh 5 (.bool true) HS.out ?_
      refine wh 6 (.iface 44 (.int .i64 6)) HS.out ?_
      refine wq1 7 fun K hK => ?_
      go_simp
      refine Calls.mono (HS.out.tell 6) ?_
      rintro e wn ⟨rfl, hn⟩
      refine hK.out _ _ hn (fun _ => ?_)
      have HS := hide hn
      clear hK K hn
      refine wh 8 (.bool true) HS.out ?_
      refine wh 9 (.bool true) HS.out ?_
      refine wh 10 (.bool true) HS.out ?_
      refine wh 11 (.iface 44 (.int .i64 6)) HS.out ?_
      refine wq1 12 fun K hK => ?_
      go_simp
      refine Calls.mono (HS.out.tell 6) ?_
      rintro e wn ⟨rfl, hn⟩
      refine hK.out _ _ hn (fun _ => ?_)
      have HS := hide hn
      clear hK K hn
      refine wh 13 (.bool true) HS.out ?_
      refine wh 14 (.bool true) HS.out ?_
      refine wh 15 (.bool true) HS.out ?_
      refine wh 16 (.nilIface) HS.out ?_
      refine wh 17 (.bool true) HS.out ?_
      refine wh 18 (.bool true) HS.out ?_
      refine wh 19 (.bool true) HS.out ?_
      refine wh 20 (.nilIface) HS.out ?_
      refine wh 21 (.bool true) HS.out ?_
      refine wh 22 (.bool true) HS.out ?_
      refine wh 23 (.bool true) HS.out ?_
      refine wg 24 (.agg #[.int .i64 3, .int .i64 v, .string ⟨#[]⟩]) rfl (Or.inl ⟨by kernel_rfl, fun W hW => by obtain ⟨q0, q1, q2⟩ := three (hW.kept (w10.heap.size, #[.int .i64 3, .int .i64 v, .string ⟨#[]⟩], 28) (by simp)).1; go_simp⟩) HS.out ?_
      refine wh 25 (.int .i64 v) HS.out ?_
      refine wq1 26 fun K hK => ?_
      go_simp
      refine Calls.mono (HS.out.of v) ?_
      rintro e wn ⟨rfl, hn⟩
      refine hK.out _ _ hn (fun _ => ?_)
      have HS := hide hn
      clear hK K hn
      refine wh 27 (.bool true) HS.out ?_
      refine wh 28 (.bool true) HS.out ?_
      refine wh 29 (.bool true) HS.out ?_
      refine wh 30 (.iface 44 (.int .i64 1)) HS.out ?_
      refine wh 32 (.int .i64 1) HS.out ?_
      refine wq1 31 fun K hK => ?_
      go_simp
      refine Calls.mono (HS.out.tell 1) ?_
      rintro e wn ⟨rfl, hn⟩
      refine hK.out _ _ hn (fun _ => ?_)
      have HS := hide hn
      clear hK K hn
      refine wh 33 (.bool true) HS.out ?_
      refine wh 34 (.bool true) HS.out ?_
      refine wh 35 (.bool true) HS.out ?_
      refine wh 36 (.nilIface) HS.out ?_
      refine wh 37 (.bool true) HS.out ?_
      refine wh 38 (.bool true) HS.out ?_
      refine wh 39 (.bool true) HS.out ?_
      refine wg 40 (.agg #[.int .i64 3, .int .i64 v, .string ⟨#[]⟩]) rfl (Or.inl ⟨by kernel_rfl, fun W hW => by obtain ⟨q0, q1, q2⟩ := three (hW.kept (w13.heap.size, #[.int .i64 3, .int .i64 v, .string ⟨#[]⟩], 28) (by simp)).1; go_simp⟩) HS.out ?_
      refine wh 41 (.int .i64 v) HS.out ?_
      refine wq1 42 fun K hK => ?_
      go_simp
      refine Calls.mono (HS.out.of v) ?_
      rintro e wn ⟨rfl, hn⟩
      refine hK.out _ _ hn (fun _ => ?_)
      have HS := hide hn
      clear hK K hn
      refine wh 43 (.bool true) HS.out ?_
      refine wh 44 (.bool true) HS.out ?_
      refine wh 45 (.bool true) HS.out ?_
      refine wpAnyH_done (by kernel_rfl) ?_ _
      go_simp
      go_wp2_with fail
      go_roundw
      case rel => exact ⟨2, _, rfl, rfl, by omega, by rw [List.length_append]; have := HL.out; simp only [List.length_cons, List.length_nil]; omega, fun h => by omega, fun h => by omega, HS.out.pop.pop.pop⟩
      case measure => simp [intOf]
    | 2, _ =>
      go_wp2_with fail
      go_ret
      exact ⟨rfl, HST.out.below⟩
end Go.Proofs.YtopehplicnppfaaDoor
