/-
  The document's Early: its walk, its first ways.
-/
import Derived.Test.YtodmgaikhbmlnaaGreatDoorEc29
set_option maxRecDepth 100000
set_option maxHeartbeats 16000000
namespace Go.Proofs.YtodmgaikhbmlnaaGreatDoor
open Go.RowKit
section
variable {Nm : ByteArray → Prop} {bS bW bA d : Nat} (ih : EwAt Nm bS bW bA d) (t : Tr) (c : Nat) (hsh : Shp Nm c t) (ht : t.count ≤ d + 1) (hc : t.count ≤ 1500) (p : Nat) (s i : Bool) (w : World) (hnt : NTr w t p) (hS : EaSt bS bW bA w)
include ih hsh ht hc hnt hS
open zrqh in
theorem ew_name (hkd : t.kd = 2 ∨ t.kd = 3 ∨ t.kd = 4) : Calls Tryz.prog 90 #[nPtr p, .bool s, .bool i, .pointer (some ⟨bS, 0, none⟩), .pointer (some ⟨bA, 0, none⟩)] w fun e w' => e = .returned (eI (rck (d + 1) t s i)) ∧ Below w.heap.size w w' := by
 exact zri
open zrqi in
theorem ew_block (hkd : t.kd = 6) : Calls Tryz.prog 90 #[nPtr p, .bool s, .bool i, .pointer (some ⟨bS, 0, none⟩), .pointer (some ⟨bA, 0, none⟩)] w fun e w' => e = .returned (eI (rck (d + 1) t s i)) ∧ Below w.heap.size w w' := by
 exact zri
open zrqj in
theorem ew_return (hkd : t.kd = 10) : Calls Tryz.prog 90 #[nPtr p, .bool s, .bool i, .pointer (some ⟨bS, 0, none⟩), .pointer (some ⟨bA, 0, none⟩)] w fun e w' => e = .returned (eI (rck (d + 1) t s i)) ∧ Below w.heap.size w w' := by
 exact zri
open zrqk in
theorem ew_other (hno : t.kd ≠ 6 ∧ t.kd ≠ 5 ∧ t.kd ≠ 37 ∧ t.kd ≠ 2 ∧ t.kd ≠ 3 ∧ t.kd ≠ 4 ∧ t.kd ≠ 13 ∧ t.kd ≠ 7 ∧ t.kd ≠ 8 ∧ t.kd ≠ 9 ∧ t.kd ≠ 10 ∧ t.kd ≠ 24 ∧ t.kd ≠ 34) : Calls Tryz.prog 90 #[nPtr p, .bool s, .bool i, .pointer (some ⟨bS, 0, none⟩), .pointer (some ⟨bA, 0, none⟩)] w fun e w' => e = .returned (eI (rck (d + 1) t s i)) ∧ Below w.heap.size w w' := by
 exact zri
end
theorem ptr_ones (ps : List Nat) : ∀ u ∈ ps.map nPtr, u.oneCell' = true := by
 intro u hu
 obtain ⟨p, _, rfl⟩ := List.mem_map.1 hu
 rfl
open zrqdv in
theorem rnames_any (t : Tr) (p : Nat) (body : Bool) (w : World) (h : NTr w t p) (hc : t.count ≤ 20000) :
  Calls Tryz.prog 36 #[nPtr p, .bool body] w fun e w' => (∃ u, e = .returned u ∧ SRow w.heap.size w' u (namesT t body)) ∧ Below w.heap.size w w' := by
 obtain ⟨i0, hi0, hz0, hz1, hz2⟩ := info_parts info22
 exact zrcx
theorem names_len1 (t : Tr) (body : Bool) : (namesT t body).length ≤ 3 * t.count := by
 have h1 := vars_len t
 have h2 := fns_len t
 have h3 := lets_len t
 have htc : t.count = 1 + Tr.counts t.kids := by cases t with | mk kd tx nn ks => exact count_mk _ _ _ _
 have := counts_len t.kids
 unfold namesT
 refine Nat.le_trans (once_len _) ?_
 cases body <;> simp <;> omega
section
variable {Nm : ByteArray → Prop} {bS bW bA d : Nat} (ih : EwAt Nm bS bW bA d) (t : Tr) (c : Nat) (hsh : Shp Nm c t) (ht : t.count ≤ d + 1) (hc : t.count ≤ 1500) (p : Nat) (s i : Bool) (w : World) (hnt : NTr w t p) (hS : EaSt bS bW bA w)
include ih hsh ht hc hnt hS
open zrql in
theorem ew_catch (hkd : t.kd = 13) : Calls Tryz.prog 90 #[nPtr p, .bool s, .bool i, .pointer (some ⟨bS, 0, none⟩), .pointer (some ⟨bA, 0, none⟩)] w fun e w' => e = .returned (eI (rck (d + 1) t s i)) ∧ Below w.heap.size w w' := by
 exact zri
end
section
variable {Nm : ByteArray → Prop} {bS bW bA d : Nat} (ih : EwAt Nm bS bW bA d) (t : Tr) (c : Nat) (hsh : Shp Nm c t) (ht : t.count ≤ d + 1) (hc : t.count ≤ 1500) (p : Nat) (s i : Bool) (w : World) (hnt : NTr w t p) (hS : EaSt bS bW bA w)
include ih hsh ht hc hnt hS
open zrqm in
theorem ew_delete (hkd : t.kd = 34) : Calls Tryz.prog 90 #[nPtr p, .bool s, .bool i, .pointer (some ⟨bS, 0, none⟩), .pointer (some ⟨bA, 0, none⟩)] w fun e w' => e = .returned (eI (rck (d + 1) t s i)) ∧ Below w.heap.size w w' := by
 exact zri
end
end Go.Proofs.YtodmgaikhbmlnaaGreatDoor
