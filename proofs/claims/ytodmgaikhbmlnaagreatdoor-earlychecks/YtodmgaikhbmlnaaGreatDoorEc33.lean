/-
  The document's Early: its walk, functions.
-/
import Derived.Test.YtodmgaikhbmlnaaGreatDoorEc32
set_option maxRecDepth 100000
set_option maxHeartbeats 16000000
namespace Go.Proofs.YtodmgaikhbmlnaaGreatDoor
open Go.RowKit
section
variable {Nm : ByteArray → Prop} {bS bW bA d : Nat} (ih : EwAt Nm bS bW bA d) (t : Tr) (c : Nat) (hsh : Shp Nm c t) (ht : t.count ≤ d + 1) (hc : t.count ≤ 1500) (p : Nat) (s i : Bool) (w : World) (hnt : NTr w t p) (hS : EaSt bS bW bA w)
include ih hsh ht hc hnt hS
open zrqe zrqc zrqa in
theorem ew_func_t (hkd : t.kd = 5 ∨ t.kd = 37) (hs : s = true) : Calls Tryz.prog 90 #[nPtr p, .bool s, .bool i, .pointer (some ⟨bS, 0, none⟩), .pointer (some ⟨bA, 0, none⟩)] w fun e w' => e = .returned (eI (rck (d + 1) t s i)) ∧ Below w.heap.size w w' := by
 exact zrcl
end
end Go.Proofs.YtodmgaikhbmlnaaGreatDoor
