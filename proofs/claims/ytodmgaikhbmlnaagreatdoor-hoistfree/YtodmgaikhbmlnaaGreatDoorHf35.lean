/-
  Library functions at this program's numbers, by the library's own contracts.
-/
import Derived.Shelf.Sort.Plain
import Derived.Shelf.Slices.CompactS
import Derived.Shelf.Slices.Cells
import Derived.Shelf.Slices.In.SortNone
import Derived.Shelf.Slices.In.SortNone2
import Derived.Test.YtodmgaikhbmlnaaGreatDoorProg
import Derived.Test.YtodmgaikhbmlnaaGreatDoorHf34
import Derived.Laws.EntriesVeiled
namespace Go.Proofs
open Go.Shelf
def Tryz.lays190_ren : Go.Shelf.Ren := ⟨fun | 190 => 76 | 125 => 137 | 258 => 136 | 128 => 199 | 129 => 200 | 302 => 190 | 303 => 191 | 304 => 192 | 305 => 193 | 306 => 194 | 307 => 195 | 308 => 196 | 309 => 197 | 310 => 198 | 333 => 239 | 329 => 240 | 330 => 241 | 334 => 242 | 335 => 243 | 336 => 244 | 344 => 267 | n => n, fun | 31 => 54 | 9 => 9 | 3 => 3 | 46 => 157 | 0 => 0 | 51 => 208 | 53 => 210 | 4 => 4 | 183 => 201 | 182 => 200 | 131 => 205 | 5 => 5 | 218 => 238 | 222 => 242 | 228 => 258 | 229 => 259 | n => n, fun | n => n⟩
theorem Tryz.lays190 : Go.Proofs.Lays.n190 Tryz.prog Tryz.lays190_ren := {
 mixed := by kernel_rfl
 f125 := Tryz.func137.trans (congrArg some (by kernel_rfl))
 f128 := Tryz.func199.trans (congrArg some (by kernel_rfl))
 f129 := Tryz.func200.trans (congrArg some (by kernel_rfl))
 f190 := Tryz.func76.trans (congrArg some (by kernel_rfl))
 f258 := Tryz.func136.trans (congrArg some (by kernel_rfl))
 f302 := Tryz.func190.trans (congrArg some (by kernel_rfl))
 f303 := Tryz.func191.trans (congrArg some (by kernel_rfl))
 f304 := Tryz.func192.trans (congrArg some (by kernel_rfl))
 f305 := Tryz.func193.trans (congrArg some (by kernel_rfl))
 f306 := Tryz.func194.trans (congrArg some (by kernel_rfl))
 f307 := Tryz.func195.trans (congrArg some (by kernel_rfl))
 f308 := Tryz.func196.trans (congrArg some (by kernel_rfl))
 f309 := Tryz.func197.trans (congrArg some (by kernel_rfl))
 f310 := Tryz.func198.trans (congrArg some (by kernel_rfl))
 f329 := Tryz.func240.trans (congrArg some (by kernel_rfl))
 f330 := Tryz.func241.trans (congrArg some (by kernel_rfl))
 f333 := Tryz.func239.trans (congrArg some (by kernel_rfl))
 f334 := Tryz.func242.trans (congrArg some (by kernel_rfl))
 f335 := Tryz.func243.trans (congrArg some (by kernel_rfl))
 f336 := Tryz.func244.trans (congrArg some (by kernel_rfl))
 f344 := Tryz.func267.trans (congrArg some (by kernel_rfl))
 t0 := Tryz.underlying0
 a0 := Tryz.isAgg0
 z0 := Tryz.sizeOf0
 v0 := Tryz.zeroValue0
 t3 := Tryz.underlying3
 a3 := Tryz.isAgg3
 z3 := Tryz.sizeOf3
 v3 := Tryz.zeroValue3
 t4 := Tryz.underlying4
 a4 := Tryz.isAgg4
 z4 := Tryz.sizeOf4
 v4 := Tryz.zeroValue4
 t5 := Tryz.underlying5
 a5 := Tryz.isAgg5
 z5 := Tryz.sizeOf5
 v5 := Tryz.zeroValue5
 t9 := Tryz.underlying9
 a9 := Tryz.isAgg9
 z9 := Tryz.sizeOf9
 v9 := Tryz.zeroValue9
 t31 := Tryz.underlying54
 a31 := Tryz.isAgg54
 z31 := Tryz.sizeOf54
 v31 := Tryz.zeroValue54
 t46 := Tryz.underlying157
 a46 := Tryz.isAgg157
 z46 := Tryz.sizeOf157
 v46 := Tryz.zeroValue157
 t51 := Tryz.underlying208
 a51 := Tryz.isAgg208
 z51 := Tryz.sizeOf208
 v51 := Tryz.zeroValue208
 t53 := Tryz.underlying210
 a53 := Tryz.isAgg210
 z53 := Tryz.sizeOf210
 v53 := Tryz.zeroValue210
 t131 := Tryz.underlying205
 a131 := Tryz.isAgg205
 z131 := Tryz.sizeOf205
 v131 := Tryz.zeroValue205
 t182 := Tryz.underlying200
 a182 := Tryz.isAgg200
 z182 := Tryz.sizeOf200
 v182 := Tryz.zeroValue200
 t183 := Tryz.underlying201
 a183 := Tryz.isAgg201
 z183 := Tryz.sizeOf201
 v183 := Tryz.zeroValue201
 t218 := Tryz.underlying238
 a218 := Tryz.isAgg238
 z218 := Tryz.sizeOf238
 v218 := Tryz.zeroValue238
 t222 := Tryz.underlying242
 a222 := Tryz.isAgg242
 z222 := Tryz.sizeOf242
 v222 := Tryz.zeroValue242
 t228 := Tryz.underlying258
 a228 := Tryz.isAgg258
 z228 := Tryz.sizeOf258
 v228 := Tryz.zeroValue258
 t229 := Tryz.underlying259
 a229 := Tryz.isAgg259
 z229 := Tryz.sizeOf259
 v229 := Tryz.zeroValue259 }
open Go.Sort Go.RowKit in
theorem Tryz.slices_Sort_string (blk off cap : Nat) (ss : List (List UInt8)) (w : World) (hH : Holds encStr w blk off ss.toArray) (hblk : blk < w.heap.size) (hsz : ss.length < 4611686018427387904) :
  Calls Tryz.prog 76 #[.slice (some ⟨blk, off, none⟩) ss.length cap] w fun e w' =>
   e = .returned (.tuple #[]) ∧ ∃ n os, w' = grow (putRow encStr (Sort.ahead w n) blk off (ss.mergeSort fun x y => decide (x ≤ y)).toArray) os := Any.slices_Sort_string Tryz.lays190 blk off cap ss w hH hblk hsz
def Tryz.lays192_ren : Go.Shelf.Ren := ⟨fun | 192 => 81 | 190 => 76 | 125 => 137 | 258 => 136 | 128 => 199 | 129 => 200 | 302 => 190 | 303 => 191 | 304 => 192 | 305 => 193 | 306 => 194 | 307 => 195 | 308 => 196 | 309 => 197 | 310 => 198 | 333 => 239 | 329 => 240 | 330 => 241 | 334 => 242 | 335 => 243 | 336 => 244 | 344 => 267 | n => n, fun | 31 => 54 | 0 => 0 | 9 => 9 | 3 => 3 | 46 => 157 | 51 => 208 | 53 => 210 | 4 => 4 | 183 => 201 | 182 => 200 | 131 => 205 | 5 => 5 | 218 => 238 | 222 => 242 | 228 => 258 | 229 => 259 | n => n, fun | n => n⟩
theorem Tryz.lays192 : Go.Proofs.Lays.n192 Tryz.prog Tryz.lays192_ren := {
 mixed := by kernel_rfl
 f125 := Tryz.func137.trans (congrArg some (by kernel_rfl))
 f128 := Tryz.func199.trans (congrArg some (by kernel_rfl))
 f129 := Tryz.func200.trans (congrArg some (by kernel_rfl))
 f190 := Tryz.func76.trans (congrArg some (by kernel_rfl))
 f192 := Tryz.func81.trans (congrArg some (by kernel_rfl))
 f258 := Tryz.func136.trans (congrArg some (by kernel_rfl))
 f302 := Tryz.func190.trans (congrArg some (by kernel_rfl))
 f303 := Tryz.func191.trans (congrArg some (by kernel_rfl))
 f304 := Tryz.func192.trans (congrArg some (by kernel_rfl))
 f305 := Tryz.func193.trans (congrArg some (by kernel_rfl))
 f306 := Tryz.func194.trans (congrArg some (by kernel_rfl))
 f307 := Tryz.func195.trans (congrArg some (by kernel_rfl))
 f308 := Tryz.func196.trans (congrArg some (by kernel_rfl))
 f309 := Tryz.func197.trans (congrArg some (by kernel_rfl))
 f310 := Tryz.func198.trans (congrArg some (by kernel_rfl))
 f329 := Tryz.func240.trans (congrArg some (by kernel_rfl))
 f330 := Tryz.func241.trans (congrArg some (by kernel_rfl))
 f333 := Tryz.func239.trans (congrArg some (by kernel_rfl))
 f334 := Tryz.func242.trans (congrArg some (by kernel_rfl))
 f335 := Tryz.func243.trans (congrArg some (by kernel_rfl))
 f336 := Tryz.func244.trans (congrArg some (by kernel_rfl))
 f344 := Tryz.func267.trans (congrArg some (by kernel_rfl))
 t0 := Tryz.underlying0
 a0 := Tryz.isAgg0
 z0 := Tryz.sizeOf0
 v0 := Tryz.zeroValue0
 t3 := Tryz.underlying3
 a3 := Tryz.isAgg3
 z3 := Tryz.sizeOf3
 v3 := Tryz.zeroValue3
 t4 := Tryz.underlying4
 a4 := Tryz.isAgg4
 z4 := Tryz.sizeOf4
 v4 := Tryz.zeroValue4
 t5 := Tryz.underlying5
 a5 := Tryz.isAgg5
 z5 := Tryz.sizeOf5
 v5 := Tryz.zeroValue5
 t9 := Tryz.underlying9
 a9 := Tryz.isAgg9
 z9 := Tryz.sizeOf9
 v9 := Tryz.zeroValue9
 t31 := Tryz.underlying54
 a31 := Tryz.isAgg54
 z31 := Tryz.sizeOf54
 v31 := Tryz.zeroValue54
 t46 := Tryz.underlying157
 a46 := Tryz.isAgg157
 z46 := Tryz.sizeOf157
 v46 := Tryz.zeroValue157
 t51 := Tryz.underlying208
 a51 := Tryz.isAgg208
 z51 := Tryz.sizeOf208
 v51 := Tryz.zeroValue208
 t53 := Tryz.underlying210
 a53 := Tryz.isAgg210
 z53 := Tryz.sizeOf210
 v53 := Tryz.zeroValue210
 t131 := Tryz.underlying205
 a131 := Tryz.isAgg205
 z131 := Tryz.sizeOf205
 v131 := Tryz.zeroValue205
 t182 := Tryz.underlying200
 a182 := Tryz.isAgg200
 z182 := Tryz.sizeOf200
 v182 := Tryz.zeroValue200
 t183 := Tryz.underlying201
 a183 := Tryz.isAgg201
 z183 := Tryz.sizeOf201
 v183 := Tryz.zeroValue201
 t218 := Tryz.underlying238
 a218 := Tryz.isAgg238
 z218 := Tryz.sizeOf238
 v218 := Tryz.zeroValue238
 t222 := Tryz.underlying242
 a222 := Tryz.isAgg242
 z222 := Tryz.sizeOf242
 v222 := Tryz.zeroValue242
 t228 := Tryz.underlying258
 a228 := Tryz.isAgg258
 z228 := Tryz.sizeOf258
 v228 := Tryz.zeroValue258
 t229 := Tryz.underlying259
 a229 := Tryz.isAgg259
 z229 := Tryz.sizeOf259
 v229 := Tryz.zeroValue259 }
open Go.Sort Go.RowKit in
theorem Tryz.sort_Strings (blk off cap : Nat) (ss : List (List UInt8)) (w : World) (hH : Holds encStr w blk off ss.toArray) (hblk : blk < w.heap.size) (hsz : ss.length < 4611686018427387904) :
  Calls Tryz.prog 81 #[.slice (some ⟨blk, off, none⟩) ss.length cap] w fun e w' =>
   e = .returned (.tuple #[]) ∧ ∃ n os, w' = grow (putRow encStr (Sort.ahead w n) blk off (ss.mergeSort fun x y => decide (x ≤ y)).toArray) os := Any.sort_Strings Tryz.lays192 blk off cap ss w hH hblk hsz
def Tryz.lays194_ren : Go.Shelf.Ren := ⟨fun | 194 => 77 | n => n, fun | 31 => 54 | 9 => 9 | 3 => 3 | 4 => 4 | 0 => 0 | n => n, fun | n => n⟩
theorem Tryz.lays194 : Go.Proofs.Lays.n194 Tryz.prog Tryz.lays194_ren := {
 mixed := by kernel_rfl
 f194 := Tryz.func77.trans (congrArg some (by kernel_rfl))
 t0 := Tryz.underlying0
 a0 := Tryz.isAgg0
 z0 := Tryz.sizeOf0
 v0 := Tryz.zeroValue0
 t3 := Tryz.underlying3
 a3 := Tryz.isAgg3
 z3 := Tryz.sizeOf3
 v3 := Tryz.zeroValue3
 t4 := Tryz.underlying4
 a4 := Tryz.isAgg4
 z4 := Tryz.sizeOf4
 v4 := Tryz.zeroValue4
 t9 := Tryz.underlying9
 a9 := Tryz.isAgg9
 z9 := Tryz.sizeOf9
 v9 := Tryz.zeroValue9
 t31 := Tryz.underlying54
 a31 := Tryz.isAgg54
 z31 := Tryz.sizeOf54
 v31 := Tryz.zeroValue54 }
open Go.RowKit Go.Lib Go.Sort in
theorem Tryz.slices_Compact_string_arr (blk off cap : Nat) (d : Array (List UInt8)) (w : World) (hH : Holds encStr w blk off d) (hsz : d.size ≤ 9223372036854775807) (hcap : d.size ≤ cap) :
  Calls Tryz.prog 77 #[.slice (some ⟨blk, off, none⟩) d.size cap] w fun e w' => e = .returned (.slice (some ⟨blk, off, none⟩) (compactUpTo d d.size).length cap) ∧ ∃ q, w' = putRow encStr (Sort.ahead w q) blk off (compactUpTo d d.size ++ List.replicate (d.size - (compactUpTo d d.size).length) []).toArray := Any.slices_Compact_string_arr Tryz.lays194 blk off cap d w hH hsz hcap
open Go.RowKit Go.Lib Go.Sort in
theorem Tryz.slices_Compact_string (blk off cap : Nat) (zs : List (List UInt8)) (w : World) (hH : Holds encStr w blk off zs.toArray) (hsz : zs.length ≤ 9223372036854775807) (hcap : zs.length ≤ cap) :
  Calls Tryz.prog 77 #[.slice (some ⟨blk, off, none⟩) zs.length cap] w fun e w' => e = .returned (.slice (some ⟨blk, off, none⟩) (Lib.compact zs).length cap) ∧ ∃ q, w' = putRow encStr (Sort.ahead w q) blk off (Lib.compact zs ++ List.replicate (zs.length - (Lib.compact zs).length) []).toArray := Any.slices_Compact_string Tryz.lays194 blk off cap zs w hH hsz hcap
open Go.RowKit Go.Lib Go.Sort in
theorem Tryz.slices_Compact_string_empty (a : Option Addr) (cap : Nat) (w : World) :
  Calls Tryz.prog 77 #[.slice a 0 cap] w fun e w' => e = .returned (.slice a 0 cap) ∧ w' = w := Any.slices_Compact_string_empty Tryz.lays194 a cap w
open Go.RowKit Go.Lib Go.Sort in
theorem Tryz.slices_Compact_string_cells (b off n c : Nat) (Sx : Nat → ByteArray) (w : World) (hbig : n ≤ 9223372036854775807) (hcap : n ≤ c) (hc : ∀ i, i < n → w.cell? ⟨b, off + i, none⟩ = some (.string (Sx i))) (hf : ∀ j, j < n → w.frozen? ⟨b, off + j, none⟩ = false) :
  Calls Tryz.prog 77 #[.slice (some ⟨b, off, none⟩) n c] w fun e w' => e = .returned (.slice (some ⟨b, off, none⟩) (Lib.compact (Lib.strsOf Sx n)).length c) ∧ ∃ q, w' = (w.drewN q).setCells b off ((Lib.compact (Lib.strsOf Sx n) ++ List.replicate (n - (Lib.compact (Lib.strsOf Sx n)).length) []).map encStr) := Any.slices_Compact_string_cells Tryz.lays194 b off n c Sx w hbig hcap hc hf
open Go.RowKit Go.Sort in
theorem Tryz.slices_Sort_string_none (p : Option Addr) (cap : Nat) (w : World) :
  Calls Tryz.prog 76 #[.slice p 0 cap] w fun e w' => e = .returned (.tuple #[]) ∧ w' = w := Any.slices_Sort_string_none Tryz.lays190 p cap w
open Go.RowKit Go.Sort in
theorem Tryz.sort_Strings_none (p : Option Addr) (cap : Nat) (w : World) :
  Calls Tryz.prog 81 #[.slice p 0 cap] w fun e w' => e = .returned (.tuple #[]) ∧ w' = w := Any.sort_Strings_none Tryz.lays192 p cap w
end Go.Proofs
set_option maxRecDepth 100000
set_option maxHeartbeats 16000000
namespace Go.Proofs.YtodmgaikhbmlnaaGreatDoor
open Go.RowKit
def toL (b : ByteArray) : List UInt8 := b.data.toList
def ofL (l : List UInt8) : ByteArray := ⟨l.toArray⟩
theorem ofL_toL (b : ByteArray) : ofL (toL b) = b := by cases b; simp [ofL, toL]
theorem toL_ofL (l : List UInt8) : toL (ofL l) = l := by simp [ofL, toL]
section
variable {B : Nat} {w : World}
include B w
theorem srow_holds {g cap : Nat} {l : List ByteArray} (h : SRow B w (.slice (some ⟨g, 0, none⟩) l.length cap) l) : Sort.Holds encStr w g 0 (l.map toL).toArray := by
 intro j hj
 have hj' : j < l.length := by simpa using hj
 have h1 := h.cellAt j (by omega)
 rcases h.2 with hn | ⟨g', cap', cur, hv, _, hg, _⟩
 ·
  exact absurd hn.1 (by simp)
 ·
  simp only [Value.slice.injEq, Option.some.injEq, Addr.mk.injEq] at hv; obtain ⟨⟨rfl, _, _⟩, _, _⟩ := hv; refine ⟨?_, ?_⟩
  ·
   rw [Nat.zero_add, h1]; simp [hj', encStr, toL]
  ·
   rw [Nat.zero_add]; exact frozen_of hg j
theorem srow_put {g cap k : Nat} {l : List ByteArray} {d : List (List UInt8)} (h : SRow B w (.slice (some ⟨g, 0, none⟩) l.length cap) l) (hd : d.length = l.length) (os : Array Obj) :
  SRow B (Sort.grow (Sort.putRow encStr (Sort.ahead w k) g 0 d.toArray) os) (.slice (some ⟨g, 0, none⟩) l.length cap) (d.map ofL) ∧ (∀ b, b < w.heap.size → b ≠ g → (Sort.grow (Sort.putRow encStr (Sort.ahead w k) g 0 d.toArray) os).heap[b]? = w.heap[b]?) ∧ w.heap.size ≤ (Sort.grow (Sort.putRow encStr (Sort.ahead w k) g 0 d.toArray) os).heap.size := by
 rcases h.2 with hn | ⟨g', cap', cur, hv, hb, hg, hc, hm, hz, hx⟩
 ·
  exact absurd hn.1 (by simp)
 ·
  simp only [Value.slice.injEq, Option.some.injEq, Addr.mk.injEq] at hv; obtain ⟨⟨rfl, _, _⟩, _, rfl⟩ := hv; have hgl := lt_of_heap hg
  have hsz : (Sort.putRow encStr (Sort.ahead w k) g 0 d.toArray).heap.size = w.heap.size := by simp [Sort.putRow, Sort.mapBlock, Sort.ahead]
  have hat : ∀ b, b < w.heap.size → (Sort.grow (Sort.putRow encStr (Sort.ahead w k) g 0 d.toArray) os).heap[b]? = (Sort.putRow encStr (Sort.ahead w k) g 0 d.toArray).heap[b]? := fun b hb => by
   simp only [Sort.grow]; rw [Array.getElem?_append_left (by rw [hsz]; exact hb)]
  have hg2 : (Sort.grow (Sort.putRow encStr (Sort.ahead w k) g 0 d.toArray) os).heap[g]? = some (.cells (Sort.putCells encStr 0 d.toArray cur) 9 (0, 0)) := by
   rw [hat g hgl]; simp only [Sort.putRow, Sort.mapBlock, Sort.ahead]; rw [Array.getElem?_modify, if_pos rfl, hg]; rfl
  refine ⟨⟨by simp [hd], Or.inr ⟨g, cap, Sort.putCells encStr 0 d.toArray cur, by simp [hd], hb, hg2, by simp [hd]; omega, hm, by simp [Sort.putCells, hz], ?_⟩⟩, fun b hb hne => ?_, ?_⟩
  ·
   apply List.ext_getElem?; intro i; simp only [Nat.mul_one] at hz hx ⊢; have hlc : l.length ≤ cur.size := by omega
   rw [List.getElem?_take]; simp only [List.length_map]
   by_cases hi : i < d.length
   ·
    rw [if_pos hi]; have hic : i < cur.size := by omega
    simp [Sort.putCells, hi, hic, encStr, ofL]
   ·
    rw [if_neg hi]
    symm
    apply List.getElem?_eq_none; simp only [List.length_map]; omega
  ·
   rw [hat b hb]; simp only [Sort.putRow, Sort.mapBlock, Sort.ahead]; rw [Array.getElem?_modify, if_neg (Ne.symm hne)]
  ·
   simp only [Sort.grow, Array.size_append]; omega
theorem srow_cut {g cap n : Nat} {l : List ByteArray} (h : SRow B w (.slice (some ⟨g, 0, none⟩) l.length cap) l) (hn : n ≤ l.length) : SRow B w (.slice (some ⟨g, 0, none⟩) n cap) (l.take n) := by
 have hln : (l.take n).length = n := by rw [List.length_take]; omega
 rcases h.2 with hv | ⟨g', cap', cur, hv, hb, hg, hc, hm, hz, hx⟩
 ·
  exact absurd hv.1 (by simp)
 ·
  simp only [Value.slice.injEq, Option.some.injEq, Addr.mk.injEq] at hv; obtain ⟨⟨rfl, _, _⟩, _, rfl⟩ := hv; refine ⟨by simp, Or.inr ⟨g, cap, cur, by rw [hln], hb, hg, by omega, hm, hz, ?_⟩⟩
  have h3 := congrArg (List.take n) hx; rw [List.take_take, Nat.min_eq_left (by omega)] at h3; rw [hln, Nat.mul_one, h3, ← List.map_take]
end
def sortB (l : List ByteArray) : List ByteArray := ((l.map toL).mergeSort fun x y => decide (x ≤ y)).map ofL
def freeOf (l : List ByteArray) : List ByteArray := (Lib.compact ((l.map toL).mergeSort fun x y => decide (x ≤ y))).map ofL
structure But (g : Nat) (w w' : World) : Prop where
 os : w'.os = w.os
 tape : w'.tape = w.tape
 output : w'.output = w.output
 size : w.heap.size ≤ w'.heap.size
 block : ∀ b, b < w.heap.size → b ≠ g → w'.heap[b]? = w.heap[b]?
theorem sort_any {B : Nat} (F : Nat) (hF : F = 76 ∨ F = 81) (l : List ByteArray) (v : Value) (w : World) (h : SRow B w v l) (hl : l.length ≤ 100000) :
  Calls Tryz.prog F #[v] w fun e w' => e = .returned (.tuple #[]) ∧ SRow B w' v (sortB l) ∧ ∀ g, (∀ b, v.ownBlock = some b → b = g) → But g w w' := by
 obtain ⟨va, vc, rfl⟩ := srow_form h
 rcases Nat.eq_zero_or_pos l.length with h0 | hpos
 ·
  have hl0 : l = [] := List.length_eq_zero_iff.1 h0; subst hl0; have hs : sortB [] = [] := by simp [sortB]
  rcases hF with rfl | rfl
  ·
   refine cm (Tryz.slices_Sort_string_none va vc w) ?_; exact zbfs
  ·
   refine cm (Tryz.sort_Strings_none va vc w) ?_; exact zbfs
 ·
  obtain ⟨g, cap, hv, hgl, _, _⟩ := srow_cell h 0 hpos; simp only [Value.slice.injEq] at hv; obtain ⟨rfl, _, rfl⟩ := hv; have hH := srow_holds h; have hln : (l.map toL).length = l.length := List.length_map ..
  have hd : ((l.map toL).mergeSort fun x y => decide (x ≤ y)).length = l.length := by rw [List.length_mergeSort, hln]
  have hC : Calls Tryz.prog F #[.slice (some ⟨g, 0, none⟩) l.length vc] w fun e w' => e = .returned (.tuple #[]) ∧ ∃ n os, w' = Sort.grow (Sort.putRow encStr (Sort.ahead w n) g 0 ((l.map toL).mergeSort fun x y => decide (x ≤ y)).toArray) os := by
   rcases hF with rfl | rfl
   ·
    have := Tryz.slices_Sort_string g 0 vc (l.map toL) w hH hgl (by omega); rw [hln] at this; exact this
   ·
    have := Tryz.sort_Strings g 0 vc (l.map toL) w hH hgl (by omega); rw [hln] at this; exact this
  refine cm hC ?_; rintro e w' ⟨rfl, n, os, rfl⟩; obtain ⟨h1, h2, h3⟩ := srow_put (k := n) h hd os; have hlen : (sortB l).length = l.length := by unfold sortB; rw [List.length_map, hd]
  refine ⟨rfl, ?_, fun g' hg' => ?_⟩
  ·
   exact h1
  ·
   have : g = g' := hg' g rfl; subst this; exact ⟨rfl, rfl, rfl, h3, h2⟩
theorem compact_any {B : Nat} (l : List ByteArray) (v : Value) (w : World) (h : SRow B w v l) (hl : l.length ≤ 100000) :
  Calls Tryz.prog 77 #[v] w fun e w' => (∃ u, e = .returned u ∧ SRow B w' u ((Lib.compact (l.map toL)).map ofL)) ∧ ∀ g, (∀ b, v.ownBlock = some b → b = g) → But g w w' := by
 obtain ⟨va, vc, rfl⟩ := srow_form h
 rcases Nat.eq_zero_or_pos l.length with h0 | hpos
 ·
  have hl0 : l = [] := List.length_eq_zero_iff.1 h0; subst hl0; refine cm (Tryz.slices_Compact_string_empty va vc w) ?_; rintro e w' ⟨rfl, rfl⟩
  exact ⟨⟨_, rfl, h⟩, fun g _ => ⟨rfl, rfl, rfl, Nat.le_refl _, fun _ _ _ => rfl⟩⟩
 ·
  obtain ⟨g, cap, hv, hgl, _, _⟩ := srow_cell h 0 hpos; simp only [Value.slice.injEq] at hv; obtain ⟨rfl, _, rfl⟩ := hv; have hH := srow_holds h; have hln : (l.map toL).length = l.length := List.length_map ..
  have hcl := Lib.compact_length_le (l.map toL); have hcap : l.length ≤ vc := by
   rcases h.2 with hn | ⟨g', cap', cur, hv, _, _, hc, _⟩
   ·
    exact absurd hn.1 (by simp)
   ·
    simp only [Value.slice.injEq] at hv; omega
  have hC := Tryz.slices_Compact_string g 0 vc (l.map toL) w hH (by omega) (by omega); rw [hln] at hC hcl; refine cm hC ?_; rintro e w' ⟨rfl, q, rfl⟩
  have hd : (Lib.compact (l.map toL) ++ List.replicate (l.length - (Lib.compact (l.map toL)).length) []).length = l.length := by simp; omega
  obtain ⟨h1, h2, h3⟩ := srow_put (k := q) h hd #[]; rw [Sort.grow_empty] at h1 h2 h3; refine ⟨⟨_, rfl, ?_⟩, fun g' hg' => ?_⟩
  ·
   have h1' : SRow B (Sort.putRow encStr (Sort.ahead w q) g 0 (Lib.compact (l.map toL) ++ List.replicate (l.length - (Lib.compact (l.map toL)).length) []).toArray) (.slice (some ⟨g, 0, none⟩) ((Lib.compact (l.map toL) ++ List.replicate (l.length - (Lib.compact (l.map toL)).length) []).map ofL).length vc) ((Lib.compact (l.map toL) ++ List.replicate (l.length - (Lib.compact (l.map toL)).length) []).map ofL) := by
    rw [List.length_map, hd]; exact h1
   have h4 := srow_cut h1' (n := (Lib.compact (l.map toL)).length) (by rw [List.length_map, hd]; exact hcl)
   rw [List.map_append, List.take_left' (by rw [List.length_map])] at h4; have h5 : ((Lib.compact (l.map toL)).map ofL).length = (Lib.compact (l.map toL)).length := List.length_map ..; exact h4
  ·
   have : g = g' := hg' g rfl; subst this; exact ⟨rfl, rfl, rfl, h3, h2⟩
theorem freeOf_eq (l : List ByteArray) : (Lib.compact ((sortB l).map toL)).map ofL = freeOf l := by
 unfold freeOf sortB
 rw [List.map_map]
 congr 2
 conv => rhs; rw [← List.map_id ((l.map toL).mergeSort fun x y => decide (x ≤ y))]
 exact List.map_congr_left fun b _ => toL_ofL b
theorem sortB_len (l : List ByteArray) : (sortB l).length = l.length := by unfold sortB; rw [List.length_map, List.length_mergeSort, List.length_map]
theorem hfree_any (t : Tr) (p : Nat) (w : World) (h : NTr w t p) (hill : t.ill = 0) (hc : t.count ≤ 1500) :
  Calls Tryz.prog 37 #[nPtr p] w fun e w' => (∃ u, e = .returned u ∧ SRow 0 w' u (freeOf (frF t.count t (fun _ => 0)))) ∧ Below w.heap.size w w' := by
 have hN : NAt (fun x => x < w.heap.size) w t p := NAt.mono (fun b _ hl => hl) _ _ h
 have hen := en73
 obtain ⟨F, hF⟩ : ∃ F, F = frF t.count t (fun _ => 0) := ⟨_, rfl⟩
 rw [← hF]
 have HF := hide hF
 clear hF
 have hmk := mkMap 98 (w.alloc (.cells #[.slice none 0 0] 54))
 have hms : (w.alloc (.cells #[.slice none 0 0] 54)).heap.size = w.heap.size + 1 := by simp
 rw [hms] at hmk
 clear hms
 go_enter Tryz.func37, Tryz.ntmps37
 go_wp2_with fail
 obtain ⟨wA, hwA⟩ : ∃ wA, wA = (((w.alloc (.cells #[.slice none 0 0] 54)).alloc (.map #[] 0)).alloc (.cells #[.map (some (w.heap.size + 1))] 98)).alloc (.cells #[lookV (w.heap.size + 1 + 1) w.heap.size (w.heap.size + 1 + 1 + 1)] 35) := ⟨_, rfl⟩
 have hbA : Below w.heap.size w wA := by rw [hwA]; exact ((((Below.refl _ _).alloc (Nat.le_refl _) _).alloc (by simp) _).alloc (by simp; omega) _).alloc (by simp; omega) _
 have hsA : wA.heap.size = w.heap.size + 4 := by rw [hwA]; simp
 have a0 : wA.heap[w.heap.size]? = some (.cells #[.slice none 0 0] 54 (0, 0)) := by
  rw [hwA, Below.heap_alloc _ _ _ (by simp <;> omega), Below.heap_alloc _ _ _ (by simp <;> omega), Below.heap_alloc _ _ _ (by simp <;> omega), heap_new]
 have a1 : wA.heap[w.heap.size + 1]? = some (.map #[] 0) := by
  have h2 := heap_new (w.alloc (.cells #[.slice none 0 0] 54)) (.map #[] 0); rw [hwA, Below.heap_alloc _ _ _ (by simp <;> omega), Below.heap_alloc _ _ _ (by simp <;> omega)]; simpa using h2
 have a2 : wA.heap[w.heap.size + 1 + 1]? = some (.cells #[.map (some (w.heap.size + 1))] 98 (0, 0)) := by
  have h2 := heap_new ((w.alloc (.cells #[.slice none 0 0] 54)).alloc (.map #[] 0)) (.cells #[.map (some (w.heap.size + 1))] 98); rw [hwA, Below.heap_alloc _ _ _ (by simp)]; simpa using h2
 have a3 : wA.heap[w.heap.size + 1 + 1 + 1]? = some (.cells #[lookV (w.heap.size + 1 + 1) w.heap.size (w.heap.size + 1 + 1 + 1)] 35 (0, 0)) := by
  have h2 := heap_new (((w.alloc (.cells #[.slice none 0 0] 54)).alloc (.map #[] 0)).alloc (.cells #[.map (some (w.heap.size + 1))] 98)) (.cells #[lookV (w.heap.size + 1 + 1) w.heap.size (w.heap.size + 1 + 1 + 1)] 35)
  rw [hwA]; simpa using h2
 obtain ⟨Pd, hPd⟩ : ∃ Pd : Nat → Prop, Pd = fun b => b < w.heap.size ∨ b = w.heap.size + 1 + 1 ∨ b = w.heap.size + 1 + 1 + 1 := ⟨_, rfl⟩
 have hst : FrSt Pd (w.heap.size + 1 + 1) w.heap.size (w.heap.size + 1 + 1 + 1) (w.heap.size + 1) (fun _ => 0) [] (.slice none 0 0) wA :=
  ⟨a2, a3, a0, ⟨[], a1, fun s => rfl⟩, srow_nil _ _, by rw [hPd]; exact Or.inr (Or.inl rfl), by rw [hPd]; exact Or.inr (Or.inr rfl), by rw [hPd]; omega, by rw [hPd]; omega, by omega, fun b hb => by cases hb⟩
 have hnA : NAt Pd wA t p := NAt.mono (fun b hb _ => by rw [hPd]; exact Or.inl hb) _ _ (NAt.later (I := fun x => x < w.heap.size) (fun x hx _ => hbA.block x hx) _ _ hN)
 have HC := hide (walkF_all (w.heap.size + 1 + 1) w.heap.size (w.heap.size + 1 + 1 + 1) (w.heap.size + 1) t.count t (Nat.le_refl _) hill Pd p (fun _ => 0) [] (.slice none 0 0) wA hnA hst (fun b hb => by rw [hPd] at hb; omega) hc (fun x => by omega) (by simp; omega))
 have hfl := frF_len t.count t (fun _ => 0)
 rw [List.nil_append] at HC
 rw [← HF.out] at HC hfl
 have HBA := hide hbA
 have HPD := hide hPd
 rw [← hwA]
 clear hwA a0 a1 a2 a3 hst hnA hN h hill hmk hbA hPd
 refine cm HC.out ?_
 rintro e w1 ⟨rfl, v1, hs1, hf1⟩
 have c1 : w1.cell? ⟨w.heap.size, 0, none⟩ = some v1 := by rw [cell_of hs1.hF]; rfl
 have hl1 := cellR c1
 have HBL : Hid (Below w.heap.size w w1) := by
  have h1 := unhide HBA; refine ⟨hf1.os.trans h1.os, hf1.tape.trans h1.tape, hf1.output.trans h1.output, Nat.le_trans h1.size hf1.size, fun b hb => (hf1.stay b ?_ (by omega)).trans (h1.block b hb)⟩; rw [HPD.out]
  exact Or.inl hb
 obtain ⟨va, vc, rfl⟩ := srow_form hs1.row
 have HO1 : Hid (∀ b, (Value.slice va F.length vc).ownBlock = some b → w.heap.size ≤ b ∧ b ≠ w.heap.size) := fun b hb => by
  have h1 := hs1.own b hb; rw [HPD.out] at h1; omega
 have HR1 := hide hs1.row
 have HC2 := hide (sort_any 76 (Or.inl rfl) F _ w1 hs1.row (by omega))
 clear HC hs1 hf1
 go_wp2_with fail
 refine cm HC2.out ?_
 rintro e w2 ⟨rfl, hr2, hb2⟩
 have hbut : ∃ g, (∀ b, (Value.slice va F.length vc).ownBlock = some b → b = g) ∧ w.heap.size ≤ g ∧ g ≠ w.heap.size := by
  cases ho : (Value.slice va F.length vc).ownBlock with
  | none => exact ⟨w.heap.size + 1, (fun b hb => by cases hb), by omega, by omega⟩
  | some g => exact ⟨g, (fun b hb => (Option.some.inj hb).symm), unhide HO1 g ho⟩
 obtain ⟨g, hg1, hg2, hg3⟩ := hbut
 have hB2 := hb2 g hg1
 have c2 : w2.cell? ⟨w.heap.size, 0, none⟩ = some (.slice va F.length vc) := (World.cell?_of_block (w := w1) (a := ⟨w.heap.size, 0, none⟩) (hB2.block w.heap.size hl1 (Ne.symm hg3))).trans c1
 have hl2 := cellR c2
 have hr2' : SRow 0 w2 (.slice va (sortB F).length vc) (sortB F) := by rw [sortB_len]; exact hr2
 have HC3 := hide (compact_any (sortB F) _ w2 hr2' (by rw [sortB_len]; omega))
 rw [sortB_len, freeOf_eq] at HC3
 have HBL2 : Hid (Below w.heap.size w w2) := by
  have h1 := unhide HBL; exact zbev
 have HG : Hid (∀ b, (Value.slice va F.length vc).ownBlock = some b → b = g) := hg1
 clear HC2 hr2 hr2' hb2 hB2 c1 hl1 hg1
 go_wp2_with fail
 refine cm HC3.out ?_
 rintro e w3 ⟨⟨u3, rfl, hr3⟩, hb3⟩
 obtain ⟨a3, c3, rfl⟩ := srow_form hr3
 have hB3 := hb3 g HG.out
 have HR3 := hide hr3
 have HBL3 : Hid (Below w.heap.size w w3) := by
  have h1 := unhide HBL2; have h2 := h1.size
  exact ⟨hB3.os.trans h1.os, hB3.tape.trans h1.tape, hB3.output.trans h1.output, Nat.le_trans h1.size hB3.size, fun b hb => (hB3.block b (by omega) (by omega)).trans (h1.block b hb)⟩
 clear HC3 hr3 hb3 hB3
 go_wp2_with fail
 go_ret
 exact ⟨⟨_, rfl, HR3.out⟩, HBL3.out⟩
theorem rhas_big {B : Nat} (l : List ByteArray) (s : ByteArray) (v : Value) (w : World) (h : SRow B w v l) (hl : l.length ≤ 100000000) :
  Calls Tryz.prog 79 #[v, .string s] w fun e w' => e = .returned (.bool (hasB l s)) ∧ w' = w := by
 exact zbba
theorem rparams_any (t : Tr) (p : Nat) (w : World) (h : NTr w t p) (hk : 1 ≤ t.kids.length) (hc : t.count ≤ 1500) :
  Calls Tryz.prog 80 #[nPtr p] w fun e w' => (∃ u, e = .returned u ∧ SRow w.heap.size w' u (onceL ((kidF t 0).kids.map Tr.tx))) ∧ Below w.heap.size w w' := by
 have htc : t.count = 1 + Tr.counts t.kids := by cases t with | mk kd tx nn ks => exact count_mk _ _ _ _
 have hkl : t.kids.length ≤ 1500 := by have := counts_len t.kids; omega
 have hp0 : (kidF t 0).kids.length ≤ 1500 := by
  exact zbcw
 obtain ⟨hpl, _, _, u, c3, hr⟩ := h.cells
 obtain ⟨g, cap, q, rfl, hg, hcq, hn⟩ := hr.cell 0 (by omega)
 rw [← kidF_eq t 0 (by omega)] at hn
 obtain ⟨hql, _, _, u2, d3, hr2⟩ := hn.cells
 obtain ⟨a2, c2, rfl⟩ := hr2.form
 have HR := hide hr2
 clear h hr hn hr2 htc hc
 generalize (kidF t 0).kids = ps at HR d3 hp0
 generalize t.kids.length = L at c3 hk hkl
 have hL0 : ¬ L = 0 := by omega
 go_enter Tryz.func80, Tryz.ntmps80
 go_wp2_with fail
 go_loopw [3, 16] (fun o j wr => ∃ k : Nat, k ≤ ps.length ∧ j = .int .i64 k ∧ SRow w.heap.size wr o (onceL ((ps.take k).map Tr.tx)) ∧ Below w.heap.size w wr) (fun _ j _ => ps.length - (intOf j).toNat)
 case atStart => exact ⟨0, Nat.zero_le _, rfl, srow_nil _ _, Below.refl _ _⟩
 case round =>
  obtain ⟨k, hk2, rfl, hown, hbel⟩ := hrel; have HOWN := hide hown; have HB := hide hbel; obtain ⟨oa, oc, rfl⟩ := srow_form hown; clear hown hbel c3 d3 hcq
  by_cases hlt : k < ps.length
  ·
   obtain ⟨g2, cap2, q2, hv, hg2, hcc, hn⟩ := (HR.out.later HB.out).cell k hlt; simp only [Value.slice.injEq] at hv; obtain ⟨rfl, _, rfl⟩ := hv; obtain ⟨hql2, _, q1, _⟩ := hn.cells
   have hki : (k : Int) < (ps.length : Int) := by omega
   have hfl2 : (onceL ((ps.take k).map Tr.tx)).length ≤ 1500 := by
    have h1 := once_len ((ps.take k).map Tr.tx); rw [List.length_map, List.length_take] at h1; omega
   have HTK : Hid (onceL ((ps.take (k + 1)).map Tr.tx) = addB (onceL ((ps.take k).map Tr.tx)) (ps[k]).tx) := by
    show _ = _
    rw [List.take_succ_eq_append_getElem hlt, List.map_append, onceL, List.foldl_append]; rfl
   have HC := hide (radd_any (onceL ((ps.take k).map Tr.tx)) (ps[k]).tx _ wr HOWN.out (by omega) HB.out.size)
   generalize (ps[k]).tx = y at q1 HC HTK
   generalize onceL ((ps.take k).map Tr.tx) = M at HC HTK HOWN hfl2
   clear hn; go_wp2_with fail; refine cm HC.out ?_; rintro e w6 ⟨⟨u6, rfl, hr6⟩, hb6⟩; obtain ⟨a6, c6, rfl⟩ := srow_form hr6; have HR6 := hide hr6; have HB6 := hide (HB.out.trans (hb6.mono HB.out.size)); exact zcby
  ·
   have hii : k = ps.length := by omega
   subst hii; go_wp2_with fail; go_ret; refine ⟨⟨_, rfl, ?_⟩, HB.out⟩; exact zbdp
def FMap (m : Nat) (ks : List ByteArray) (W : World) : Prop := W.heap[m]? = some (.map (mapOf (ks.map fun k => (k, Value.bool true))) ks.length) ∧ ks.Nodup
theorem find_yes {s : ByteArray} : ∀ {ks : List ByteArray}, s ∈ ks → (ks.map fun k => (k, Value.bool true)).find? (fun e => decide (s = e.1)) = some (s, Value.bool true)
 | [], h => by cases h
 | k :: ks, h => by
  simp only [List.map_cons, List.find?_cons]
  by_cases hk : s = k
  ·
   subst hk; simp
  ·
   rw [decide_eq_false hk]; exact find_yes ((List.mem_cons.1 h).resolve_left hk)
theorem find_no {s : ByteArray} : ∀ {ks : List ByteArray}, s ∉ ks → (ks.map fun k => (k, Value.bool true)).find? (fun e => decide (s = e.1)) = none
 | [], _ => rfl
 | k :: ks, h => by
  simp only [List.map_cons, List.find?_cons]; have hk : ¬ s = k := fun e => h (by rw [e]; exact List.mem_cons_self)
  rw [decide_eq_false hk]; exact find_no (fun hm => h (List.mem_cons_of_mem _ hm))
theorem setL_true (s : ByteArray) : ∀ ks : List ByteArray, setL s (.bool true) (ks.map fun k => (k, Value.bool true)) = ks.map fun k => (k, Value.bool true)
 | [] => rfl
 | k :: ks => by
  simp only [List.map_cons, setL]
  split
  ·
   rename_i h; rw [h]
  ·
   rw [setL_true s ks]
theorem addB_nodup {l : List ByteArray} (h : l.Nodup) (s : ByteArray) : (addB l s).Nodup := by
 unfold addB
 split
 ·
  exact h
 ·
  rename_i hn
  rw [List.nodup_append]; refine ⟨h, by simp, fun a ha b hb e => ?_⟩; rw [List.mem_singleton.1 hb] at e; exact hn (hasB_iff.2 (e ▸ ha))
theorem FMap.put {m : Nat} {ks : List ByteArray} {W : World} (h : FMap m ks W) (s : ByteArray) : ∃ W2, (Instr.mapUpdate 103 (.map (some m)) (.string s) (.bool true)).run Tryz.prog W = .ok () W2 ∧ FMap m (addB ks s) W2 ∧ W2.heap.size = W.heap.size ∧ (∀ k, k ≠ m → W2.heap[k]? = W.heap[k]?) ∧ W2.os = W.os ∧ W2.tape = W.tape ∧ W2.output = W.output := by
 obtain ⟨h1, hnd⟩ := h
 have hlt := lt_of_heap h1
 have hlen : (ks.map fun k => (k, Value.bool true)).length = ks.length := List.length_map ..
 by_cases hs : s ∈ ks
 ·
  have hf := find_yes hs; refine ⟨_, update_old 103 4 m ks.length _ s (.bool true) W Tryz.underlying103 h1 _ hf, ⟨?_, addB_nodup hnd s⟩, setMap_size _ _ _, fun k hk => setMap_other hk, rfl, rfl, rfl⟩
  rw [setMap_at hlt, setL_true, addB_in hs]
 ·
  have hf := find_no hs; have h1' : W.heap[m]? = some (.map (mapOf (ks.map fun k => (k, Value.bool true))) (ks.map fun k => (k, Value.bool true)).length) := by rw [hlen]; exact h1
  refine ⟨_, update_new 103 4 m _ s (.bool true) W Tryz.underlying103 h1' hf, ⟨?_, addB_nodup hnd s⟩, setMap_size _ _ _, fun k hk => setMap_other hk, rfl, rfl, rfl⟩
  have ha : addB ks s = ks ++ [s] := by unfold addB; rw [if_neg (by rw [hasB_no.2 hs]; decide)]
  rw [setMap_at hlt, ha, hlen]; simp
end Go.Proofs.YtodmgaikhbmlnaaGreatDoor
