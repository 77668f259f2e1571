/-
  The document's parser: a declaration.
-/
import Derived.Test.YtodmgaikhbmlnaaGreatDoorEc40
set_option maxRecDepth 100000
set_option maxHeartbeats 16000000
namespace Go.Proofs.YtodmgaikhbmlnaaGreatDoor
open Go.RowKit
open zrqep in
theorem rst_decl {c : PC} {F : Fns} (hF : RCt c F) (hN : ∃ k, FNx c.l k F) (hK : FOk F) (w : World) (d i : Nat) (r : PR Tr) (hd : d ≤ 30) (tg : ByteArray) (kd : Int) (hdc : (tg = tVar ∧ kd = 2) ∨ (tg = tLet ∧ kd = 3) ∨ (tg = tConst ∧ kd = 4)) (hf : fx c.l i = tg) (hs : r = declP c.l F d i) (ho : r ≠ .out) (h : Ps c w i 0 (-1)) :
  Calls Tryz.prog 47 #[pPtr c, .int .i64 (d : Int)] w (QPost c w (NV w.heap.size) ZN r) := by
 have h9 := h
 exact zrq
open zrqeq in
theorem rst_try_a {c : PC} {F : Fns} (hF : RCt c F) (hN : ∃ k, FNx c.l k F) (hK : FOk F) (w : World) (d i : Nat) (r : PR Tr) (hd : d ≤ 30) (er : Int) (pl : Nat) (hf : fx c.l i = tTry) (hb0 : blockP c.l F d (i + 1) = .bad er pl) (hs : r = (blockP c.l F d (i + 1)).bind fun b i1 => (catchP c.l F d i1).bind fun cc i2 => (finallyP c.l F d i2).bind fun f i3 => if cc.length + f.length = 0 then badF c.l 3 i3 else .ok (.mk 12 noText 0 (b :: (cc ++ f))) i3) (ho : r ≠ .out) (h : Ps c w i 0 (-1)) :
  Calls Tryz.prog 47 #[pPtr c, .int .i64 (d : Int)] w (QPost c w (NV w.heap.size) ZN r) := by
 exact zrn
open zrqer in
theorem rst_try_b {c : PC} {F : Fns} (hF : RCt c F) (hN : ∃ k, FNx c.l k F) (hK : FOk F) (w : World) (d i : Nat) (r : PR Tr) (hd : d ≤ 30) (b : Tr) (j : Nat) (hf : fx c.l i = tTry) (hb0 : blockP c.l F d (i + 1) = .ok b j) (hc0 : ¬ fx c.l j = tCatch) (hf0 : ¬ fx c.l j = tFinally) (hs : r = (blockP c.l F d (i + 1)).bind fun b i1 => (catchP c.l F d i1).bind fun cc i2 => (finallyP c.l F d i2).bind fun f i3 => if cc.length + f.length = 0 then badF c.l 3 i3 else .ok (.mk 12 noText 0 (b :: (cc ++ f))) i3) (ho : r ≠ .out) (h : Ps c w i 0 (-1)) :
  Calls Tryz.prog 47 #[pPtr c, .int .i64 (d : Int)] w (QPost c w (NV w.heap.size) ZN r) := by
 exact zrn
end Go.Proofs.YtodmgaikhbmlnaaGreatDoor
