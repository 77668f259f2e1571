/-
  The document's parser: if, with an else and without.
-/
import Derived.Test.YtodmgaikhbmlnaaGreatDoorEc39
set_option maxRecDepth 100000
set_option maxHeartbeats 16000000
namespace Go.Proofs.YtodmgaikhbmlnaaGreatDoor
open Go.RowKit
open zrqeo in
theorem rst_if {c : PC} {F : Fns} (hF : RCt c F) (hN : ∃ k, FNx c.l k F) (hK : FOk F) (w : World) (d i : Nat) (r : PR Tr) (hd : d ≤ 30) (hf : fx c.l i = tIf) (hs : r = (inParP c.l F d (i + 1)).bind fun v i1 => (deepP c.l F.st d i1).bind fun s i2 => if fx c.l i2 = tElse then (deepP c.l F.st d (i2 + 1)).bind fun s2 i3 => .ok (.mk 7 noText 0 [v, s, s2]) i3 else .ok (.mk 7 noText 0 [v, s]) i2) (ho : r ≠ .out) (h : Ps c w i 0 (-1)) :
  Calls Tryz.prog 47 #[pPtr c, .int .i64 (d : Int)] w (QPost c w (NV w.heap.size) ZN r) := by
 exact zro
structure Stx (c : PC) (w : World) (k : Int) (tx : ByteArray) (i : Nat) (W : World) : Prop where
 ps : Ps c W i 0 (-1)
 nd : W.heap[w.heap.size]? = some (nodeObj k tx 0 (.slice none 0 0))
 ap : Ap c.P w.heap.size w W
section
variable {c : PC} {w : World} {k : Int}
include c w k
theorem Stx.below {tx : ByteArray} {i : Nat} {W W' : World} (h : Stx c w k tx i W) (hb : Below W.heap.size W W') : Stx c w k tx i W' := ⟨h.ps.later hb, (hb.block _ (lt_of_heap h.nd)).trans h.nd, h.ap.next (Ap.of hb)⟩
theorem Stk.on {i j : Nat} {W W' : World} (h : Stk c w k i W) (hP : c.P < w.heap.size) (hp : Ps c W' j 0 (-1)) (ha : Ap c.P W.heap.size W W') : Stk c w k j W' := ⟨hp, (ha.block _ (lt_of_heap h.nd) (by omega)).trans h.nd, h.ap.next ha⟩
theorem Stx.on {tx : ByteArray} {i j : Nat} {W W' : World} (h : Stx c w k tx i W) (hP : c.P < w.heap.size) (hp : Ps c W' j 0 (-1)) (ha : Ap c.P W.heap.size W W') : Stx c w k tx j W' := ⟨hp, (ha.block _ (lt_of_heap h.nd) (by omega)).trans h.nd, h.ap.next ha⟩
theorem Stk.text {i : Nat} {W : World} (h : Stk c w k i W) (hlo : c.lo ≤ w.heap.size) (tx : ByteArray) : Stx c w k tx i (W.setCell ⟨w.heap.size, 1, none⟩ (.string tx)) :=
 ⟨h.ps.ap ((Below.refl w.heap.size W).setCell (p := ⟨w.heap.size, 1, none⟩) (Nat.le_refl _) _) hlo, by rw [heap_set h.nd]; rfl, h.ap.setCell (p := ⟨w.heap.size, 1, none⟩) (Or.inl (Nat.le_refl _)) _⟩
end
def dcs : List (ByteArray × Int) := [(tVar, 2), (tLet, 3), (tConst, 4)]
def dcK (s : ByteArray) : Int := (look2 dcs s).getD 0
section
variable (s : ByteArray)
include s
theorem dc_abc : look2 [(tVar, 2), (tLet, 3), (tConst, 4)] s = look2 dcs s := by
 exact zbbz
theorem dc_acb : look2 [(tVar, 2), (tConst, 4), (tLet, 3)] s = look2 dcs s := by
 exact zbbz
theorem dc_bac : look2 [(tLet, 3), (tVar, 2), (tConst, 4)] s = look2 dcs s := by
 exact zbbz
theorem dc_bca : look2 [(tLet, 3), (tConst, 4), (tVar, 2)] s = look2 dcs s := by
 exact zbbz
theorem dc_cab : look2 [(tConst, 4), (tVar, 2), (tLet, 3)] s = look2 dcs s := by
 exact zbbz
theorem dc_cba : look2 [(tConst, 4), (tLet, 3), (tVar, 2)] s = look2 dcs s := by
 exact zbbz
end
theorem decl_made (W : World) : ∃ ma mb mc mab mac mba mbc mca mcb mabc macb mbac mbca mcab mcba : Array MapEntry,
  (Instr.makeMap 98 none).run Tryz.prog W = .ok (.map (some W.heap.size)) (W.alloc (.map #[] 0))
  ∧ (Instr.mapUpdate 98 (.map (some W.heap.size)) (.string tVar) (.int .i64 2)).run Tryz.prog (W.alloc (.map #[] 0)) = .ok () (W.alloc (.map ma 1))
  ∧ (Instr.mapUpdate 98 (.map (some W.heap.size)) (.string tLet) (.int .i64 3)).run Tryz.prog (W.alloc (.map #[] 0)) = .ok () (W.alloc (.map mb 1))
  ∧ (Instr.mapUpdate 98 (.map (some W.heap.size)) (.string tConst) (.int .i64 4)).run Tryz.prog (W.alloc (.map #[] 0)) = .ok () (W.alloc (.map mc 1))
  ∧ (Instr.mapUpdate 98 (.map (some W.heap.size)) (.string tLet) (.int .i64 3)).run Tryz.prog (W.alloc (.map ma 1)) = .ok () (W.alloc (.map mab 2))
  ∧ (Instr.mapUpdate 98 (.map (some W.heap.size)) (.string tConst) (.int .i64 4)).run Tryz.prog (W.alloc (.map ma 1)) = .ok () (W.alloc (.map mac 2))
  ∧ (Instr.mapUpdate 98 (.map (some W.heap.size)) (.string tVar) (.int .i64 2)).run Tryz.prog (W.alloc (.map mb 1)) = .ok () (W.alloc (.map mba 2))
  ∧ (Instr.mapUpdate 98 (.map (some W.heap.size)) (.string tConst) (.int .i64 4)).run Tryz.prog (W.alloc (.map mb 1)) = .ok () (W.alloc (.map mbc 2))
  ∧ (Instr.mapUpdate 98 (.map (some W.heap.size)) (.string tVar) (.int .i64 2)).run Tryz.prog (W.alloc (.map mc 1)) = .ok () (W.alloc (.map mca 2))
  ∧ (Instr.mapUpdate 98 (.map (some W.heap.size)) (.string tLet) (.int .i64 3)).run Tryz.prog (W.alloc (.map mc 1)) = .ok () (W.alloc (.map mcb 2))
  ∧ (Instr.mapUpdate 98 (.map (some W.heap.size)) (.string tConst) (.int .i64 4)).run Tryz.prog (W.alloc (.map mab 2)) = .ok () (W.alloc (.map mabc 3))
  ∧ (Instr.mapUpdate 98 (.map (some W.heap.size)) (.string tLet) (.int .i64 3)).run Tryz.prog (W.alloc (.map mac 2)) = .ok () (W.alloc (.map macb 3))
  ∧ (Instr.mapUpdate 98 (.map (some W.heap.size)) (.string tConst) (.int .i64 4)).run Tryz.prog (W.alloc (.map mba 2)) = .ok () (W.alloc (.map mbac 3))
  ∧ (Instr.mapUpdate 98 (.map (some W.heap.size)) (.string tVar) (.int .i64 2)).run Tryz.prog (W.alloc (.map mbc 2)) = .ok () (W.alloc (.map mbca 3))
  ∧ (Instr.mapUpdate 98 (.map (some W.heap.size)) (.string tLet) (.int .i64 3)).run Tryz.prog (W.alloc (.map mca 2)) = .ok () (W.alloc (.map mcab 3))
  ∧ (Instr.mapUpdate 98 (.map (some W.heap.size)) (.string tVar) (.int .i64 2)).run Tryz.prog (W.alloc (.map mcb 2)) = .ok () (W.alloc (.map mcba 3))
  ∧ (∀ s, (Instr.lookup 98 (.map (some W.heap.size)) (.string s) false).run Tryz.prog (W.alloc (.map mabc 3)) = .ok (.int .i64 (dcK s)) (W.alloc (.map mabc 3)))
  ∧ (∀ s, (Instr.lookup 98 (.map (some W.heap.size)) (.string s) false).run Tryz.prog (W.alloc (.map macb 3)) = .ok (.int .i64 (dcK s)) (W.alloc (.map macb 3)))
  ∧ (∀ s, (Instr.lookup 98 (.map (some W.heap.size)) (.string s) false).run Tryz.prog (W.alloc (.map mbac 3)) = .ok (.int .i64 (dcK s)) (W.alloc (.map mbac 3)))
  ∧ (∀ s, (Instr.lookup 98 (.map (some W.heap.size)) (.string s) false).run Tryz.prog (W.alloc (.map mbca 3)) = .ok (.int .i64 (dcK s)) (W.alloc (.map mbca 3)))
  ∧ (∀ s, (Instr.lookup 98 (.map (some W.heap.size)) (.string s) false).run Tryz.prog (W.alloc (.map mcab 3)) = .ok (.int .i64 (dcK s)) (W.alloc (.map mcab 3)))
  ∧ (∀ s, (Instr.lookup 98 (.map (some W.heap.size)) (.string s) false).run Tryz.prog (W.alloc (.map mcba 3)) = .ok (.int .i64 (dcK s)) (W.alloc (.map mcba 3))) :=
 ⟨mapOf (numsV [(tVar, 2)]), mapOf (numsV [(tLet, 3)]), mapOf (numsV [(tConst, 4)]), mapOf (numsV [(tVar, 2), (tLet, 3)]), mapOf (numsV [(tVar, 2), (tConst, 4)]), mapOf (numsV [(tLet, 3), (tVar, 2)]), mapOf (numsV [(tLet, 3), (tConst, 4)]), mapOf (numsV [(tConst, 4), (tVar, 2)]), mapOf (numsV [(tConst, 4), (tLet, 3)]), mapOf (numsV [(tVar, 2), (tLet, 3), (tConst, 4)]), mapOf (numsV [(tVar, 2), (tConst, 4), (tLet, 3)]), mapOf (numsV [(tLet, 3), (tVar, 2), (tConst, 4)]), mapOf (numsV [(tLet, 3), (tConst, 4), (tVar, 2)]), mapOf (numsV [(tConst, 4), (tVar, 2), (tLet, 3)]), mapOf (numsV [(tConst, 4), (tLet, 3), (tVar, 2)]),
  mkMap 98 W,
  upd_last 98 3 W (numsV []) tVar _ 0 _ _ rfl rfl rfl Tryz.underlying98 (by decide +kernel),
  upd_last 98 3 W (numsV []) tLet _ 0 _ _ rfl rfl rfl Tryz.underlying98 (by decide +kernel),
  upd_last 98 3 W (numsV []) tConst _ 0 _ _ rfl rfl rfl Tryz.underlying98 (by decide +kernel),
  upd_last 98 3 W (numsV [(tVar, 2)]) tLet _ 1 _ _ rfl rfl rfl Tryz.underlying98 (by decide +kernel),
  upd_last 98 3 W (numsV [(tVar, 2)]) tConst _ 1 _ _ rfl rfl rfl Tryz.underlying98 (by decide +kernel),
  upd_last 98 3 W (numsV [(tLet, 3)]) tVar _ 1 _ _ rfl rfl rfl Tryz.underlying98 (by decide +kernel),
  upd_last 98 3 W (numsV [(tLet, 3)]) tConst _ 1 _ _ rfl rfl rfl Tryz.underlying98 (by decide +kernel),
  upd_last 98 3 W (numsV [(tConst, 4)]) tVar _ 1 _ _ rfl rfl rfl Tryz.underlying98 (by decide +kernel),
  upd_last 98 3 W (numsV [(tConst, 4)]) tLet _ 1 _ _ rfl rfl rfl Tryz.underlying98 (by decide +kernel),
  upd_last 98 3 W (numsV [(tVar, 2), (tLet, 3)]) tConst _ 2 _ _ rfl rfl rfl Tryz.underlying98 (by decide +kernel),
  upd_last 98 3 W (numsV [(tVar, 2), (tConst, 4)]) tLet _ 2 _ _ rfl rfl rfl Tryz.underlying98 (by decide +kernel),
  upd_last 98 3 W (numsV [(tLet, 3), (tVar, 2)]) tConst _ 2 _ _ rfl rfl rfl Tryz.underlying98 (by decide +kernel),
  upd_last 98 3 W (numsV [(tLet, 3), (tConst, 4)]) tVar _ 2 _ _ rfl rfl rfl Tryz.underlying98 (by decide +kernel),
  upd_last 98 3 W (numsV [(tConst, 4), (tVar, 2)]) tLet _ 2 _ _ rfl rfl rfl Tryz.underlying98 (by decide +kernel),
  upd_last 98 3 W (numsV [(tConst, 4), (tLet, 3)]) tVar _ 2 _ _ rfl rfl rfl Tryz.underlying98 (by decide +kernel),
  fun s => (look_nums W.heap.size 3 [(tVar, 2), (tLet, 3), (tConst, 4)] s _ (heap_new _ _)).trans (by rw [dc_abc s]; rfl),
  fun s => (look_nums W.heap.size 3 [(tVar, 2), (tConst, 4), (tLet, 3)] s _ (heap_new _ _)).trans (by rw [dc_acb s]; rfl),
  fun s => (look_nums W.heap.size 3 [(tLet, 3), (tVar, 2), (tConst, 4)] s _ (heap_new _ _)).trans (by rw [dc_bac s]; rfl),
  fun s => (look_nums W.heap.size 3 [(tLet, 3), (tConst, 4), (tVar, 2)] s _ (heap_new _ _)).trans (by rw [dc_bca s]; rfl),
  fun s => (look_nums W.heap.size 3 [(tConst, 4), (tVar, 2), (tLet, 3)] s _ (heap_new _ _)).trans (by rw [dc_cab s]; rfl),
  fun s => (look_nums W.heap.size 3 [(tConst, 4), (tLet, 3), (tVar, 2)] s _ (heap_new _ _)).trans (by rw [dc_cba s]; rfl)⟩
def TokS (c : PC) (w W : World) : Prop := W.heap[c.P]? = w.heap[c.P]? ∧ W.heap[c.tb]? = w.heap[c.tb]?
section
variable {c : PC} {w W : World} (h : TokS c w W)
include c w W h
theorem TokS.cell (o : Nat) : W.cell? ⟨c.P, o, none⟩ = w.cell? ⟨c.P, o, none⟩ := World.cell?_of_block (w := w) h.1
theorem TokS.tok (o : Nat) : W.cell? ⟨c.tb, o, none⟩ = w.cell? ⟨c.tb, o, none⟩ := World.cell?_of_block (w := w) h.2
theorem TokS.alloc (hp : c.P < W.heap.size) (ht : c.tb < W.heap.size) (o : Obj) : TokS c w (W.alloc o) := ⟨(Below.heap_alloc W o _ hp).trans h.1, (Below.heap_alloc W o _ ht).trans h.2⟩
theorem TokS.set {N o : Nat} {v : Value} (hp : c.P ≠ N) (ht : c.tb ≠ N) : TokS c w (W.setCell ⟨N, o, none⟩ v) := ⟨(Below.heap_setCell W ⟨N, o, none⟩ v _ hp).trans h.1, (Below.heap_setCell W ⟨N, o, none⟩ v _ ht).trans h.2⟩
end
theorem viaM {G : Array MapEntry → Prop} {goal : Prop} (h1 : (∀ m, G m) → goal) (h2 : ∀ m, G m) : goal := h1 h2
theorem Stn.decl {c : PC} {w : World} {i : Nat} {W W0 : World} (h : Stn c w i W) (hlo : c.lo ≤ w.heap.size) (h0 : W0 = W.drew) (o : Obj) (k : Int) : Stk c w k i ((W0.setCell ⟨w.heap.size, 0, none⟩ (.int .i64 k)).alloc o) := by
 subst h0
 exact ((h.below (Below.refl W.heap.size W).drew).kind hlo k).below ((Below.refl _ _).alloc (Nat.le_refl _) o)
end Go.Proofs.YtodmgaikhbmlnaaGreatDoor
