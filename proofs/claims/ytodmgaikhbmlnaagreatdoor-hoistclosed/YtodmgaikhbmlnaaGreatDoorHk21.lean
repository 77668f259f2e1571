/-
  Library functions at this program's numbers, by the library's own contracts.
-/
import Derived.Shelf.Sort.Plain
import Derived.Shelf.Slices.CompactS
import Derived.Shelf.Slices.Cells
import Derived.Shelf.Slices.In.SortNone
import Derived.Shelf.Slices.In.SortNone2
import Derived.Test.YtodmgaikhbmlnaaGreatDoorProg
import Derived.Test.YtodmgaikhbmlnaaGreatDoorHk20
import Derived.Laws.EntriesVeiled
import Derived.Test.YtodmgaikhbmlnaaGreatDoorHk18
namespace Go.Proofs
open Go.Shelf
def Tryz.lays190_ren : Go.Shelf.Ren := ⟨fun | 190 => 76 | 125 => 137 | 258 => 136 | 128 => 199 | 129 => 200 | 302 => 190 | 303 => 191 | 304 => 192 | 305 => 193 | 306 => 194 | 307 => 195 | 308 => 196 | 309 => 197 | 310 => 198 | 333 => 239 | 329 => 240 | 330 => 241 | 334 => 242 | 335 => 243 | 336 => 244 | 344 => 267 | n => n, fun | 31 => 54 | 9 => 9 | 3 => 3 | 46 => 157 | 0 => 0 | 51 => 208 | 53 => 210 | 4 => 4 | 183 => 201 | 182 => 200 | 131 => 205 | 5 => 5 | 218 => 238 | 222 => 242 | 228 => 258 | 229 => 259 | n => n, fun | n => n⟩
theorem Tryz.lays190 : Go.Proofs.Lays.n190 Tryz.prog Tryz.lays190_ren := {
 mixed := by kernel_rfl
 f125 := Tryz.func137.trans (congrArg some (by kernel_rfl))
 f128 := Tryz.func199.trans (congrArg some (by kernel_rfl))
 f129 := Tryz.func200.trans (congrArg some (by kernel_rfl))
 f190 := Tryz.func76.trans (congrArg some (by kernel_rfl))
 f258 := Tryz.func136.trans (congrArg some (by kernel_rfl))
 f302 := Tryz.func190.trans (congrArg some (by kernel_rfl))
 f303 := Tryz.func191.trans (congrArg some (by kernel_rfl))
 f304 := Tryz.func192.trans (congrArg some (by kernel_rfl))
 f305 := Tryz.func193.trans (congrArg some (by kernel_rfl))
 f306 := Tryz.func194.trans (congrArg some (by kernel_rfl))
 f307 := Tryz.func195.trans (congrArg some (by kernel_rfl))
 f308 := Tryz.func196.trans (congrArg some (by kernel_rfl))
 f309 := Tryz.func197.trans (congrArg some (by kernel_rfl))
 f310 := Tryz.func198.trans (congrArg some (by kernel_rfl))
 f329 := Tryz.func240.trans (congrArg some (by kernel_rfl))
 f330 := Tryz.func241.trans (congrArg some (by kernel_rfl))
 f333 := Tryz.func239.trans (congrArg some (by kernel_rfl))
 f334 := Tryz.func242.trans (congrArg some (by kernel_rfl))
 f335 := Tryz.func243.trans (congrArg some (by kernel_rfl))
 f336 := Tryz.func244.trans (congrArg some (by kernel_rfl))
 f344 := Tryz.func267.trans (congrArg some (by kernel_rfl))
 t0 := Tryz.underlying0
 a0 := Tryz.isAgg0
 z0 := Tryz.sizeOf0
 v0 := Tryz.zeroValue0
 t3 := Tryz.underlying3
 a3 := Tryz.isAgg3
 z3 := Tryz.sizeOf3
 v3 := Tryz.zeroValue3
 t4 := Tryz.underlying4
 a4 := Tryz.isAgg4
 z4 := Tryz.sizeOf4
 v4 := Tryz.zeroValue4
 t5 := Tryz.underlying5
 a5 := Tryz.isAgg5
 z5 := Tryz.sizeOf5
 v5 := Tryz.zeroValue5
 t9 := Tryz.underlying9
 a9 := Tryz.isAgg9
 z9 := Tryz.sizeOf9
 v9 := Tryz.zeroValue9
 t31 := Tryz.underlying54
 a31 := Tryz.isAgg54
 z31 := Tryz.sizeOf54
 v31 := Tryz.zeroValue54
 t46 := Tryz.underlying157
 a46 := Tryz.isAgg157
 z46 := Tryz.sizeOf157
 v46 := Tryz.zeroValue157
 t51 := Tryz.underlying208
 a51 := Tryz.isAgg208
 z51 := Tryz.sizeOf208
 v51 := Tryz.zeroValue208
 t53 := Tryz.underlying210
 a53 := Tryz.isAgg210
 z53 := Tryz.sizeOf210
 v53 := Tryz.zeroValue210
 t131 := Tryz.underlying205
 a131 := Tryz.isAgg205
 z131 := Tryz.sizeOf205
 v131 := Tryz.zeroValue205
 t182 := Tryz.underlying200
 a182 := Tryz.isAgg200
 z182 := Tryz.sizeOf200
 v182 := Tryz.zeroValue200
 t183 := Tryz.underlying201
 a183 := Tryz.isAgg201
 z183 := Tryz.sizeOf201
 v183 := Tryz.zeroValue201
 t218 := Tryz.underlying238
 a218 := Tryz.isAgg238
 z218 := Tryz.sizeOf238
 v218 := Tryz.zeroValue238
 t222 := Tryz.underlying242
 a222 := Tryz.isAgg242
 z222 := Tryz.sizeOf242
 v222 := Tryz.zeroValue242
 t228 := Tryz.underlying258
 a228 := Tryz.isAgg258
 z228 := Tryz.sizeOf258
 v228 := Tryz.zeroValue258
 t229 := Tryz.underlying259
 a229 := Tryz.isAgg259
 z229 := Tryz.sizeOf259
 v229 := Tryz.zeroValue259 }
open Go.Sort Go.RowKit in
theorem Tryz.slices_Sort_string (blk off cap : Nat) (ss : List (List UInt8)) (w : World) (hH : Holds encStr w blk off ss.toArray) (hblk : blk < w.heap.size) (hsz : ss.length < 4611686018427387904) :
  Calls Tryz.prog 76 #[.slice (some ⟨blk, off, none⟩) ss.length cap] w fun e w' =>
   e = .returned (.tuple #[]) ∧ ∃ n os, w' = grow (putRow encStr (Sort.ahead w n) blk off (ss.mergeSort fun x y => decide (x ≤ y)).toArray) os := Any.slices_Sort_string Tryz.lays190 blk off cap ss w hH hblk hsz
def Tryz.lays192_ren : Go.Shelf.Ren := ⟨fun | 192 => 81 | 190 => 76 | 125 => 137 | 258 => 136 | 128 => 199 | 129 => 200 | 302 => 190 | 303 => 191 | 304 => 192 | 305 => 193 | 306 => 194 | 307 => 195 | 308 => 196 | 309 => 197 | 310 => 198 | 333 => 239 | 329 => 240 | 330 => 241 | 334 => 242 | 335 => 243 | 336 => 244 | 344 => 267 | n => n, fun | 31 => 54 | 0 => 0 | 9 => 9 | 3 => 3 | 46 => 157 | 51 => 208 | 53 => 210 | 4 => 4 | 183 => 201 | 182 => 200 | 131 => 205 | 5 => 5 | 218 => 238 | 222 => 242 | 228 => 258 | 229 => 259 | n => n, fun | n => n⟩
theorem Tryz.lays192 : Go.Proofs.Lays.n192 Tryz.prog Tryz.lays192_ren := {
 mixed := by kernel_rfl
 f125 := Tryz.func137.trans (congrArg some (by kernel_rfl))
 f128 := Tryz.func199.trans (congrArg some (by kernel_rfl))
 f129 := Tryz.func200.trans (congrArg some (by kernel_rfl))
 f190 := Tryz.func76.trans (congrArg some (by kernel_rfl))
 f192 := Tryz.func81.trans (congrArg some (by kernel_rfl))
 f258 := Tryz.func136.trans (congrArg some (by kernel_rfl))
 f302 := Tryz.func190.trans (congrArg some (by kernel_rfl))
 f303 := Tryz.func191.trans (congrArg some (by kernel_rfl))
 f304 := Tryz.func192.trans (congrArg some (by kernel_rfl))
 f305 := Tryz.func193.trans (congrArg some (by kernel_rfl))
 f306 := Tryz.func194.trans (congrArg some (by kernel_rfl))
 f307 := Tryz.func195.trans (congrArg some (by kernel_rfl))
 f308 := Tryz.func196.trans (congrArg some (by kernel_rfl))
 f309 := Tryz.func197.trans (congrArg some (by kernel_rfl))
 f310 := Tryz.func198.trans (congrArg some (by kernel_rfl))
 f329 := Tryz.func240.trans (congrArg some (by kernel_rfl))
 f330 := Tryz.func241.trans (congrArg some (by kernel_rfl))
 f333 := Tryz.func239.trans (congrArg some (by kernel_rfl))
 f334 := Tryz.func242.trans (congrArg some (by kernel_rfl))
 f335 := Tryz.func243.trans (congrArg some (by kernel_rfl))
 f336 := Tryz.func244.trans (congrArg some (by kernel_rfl))
 f344 := Tryz.func267.trans (congrArg some (by kernel_rfl))
 t0 := Tryz.underlying0
 a0 := Tryz.isAgg0
 z0 := Tryz.sizeOf0
 v0 := Tryz.zeroValue0
 t3 := Tryz.underlying3
 a3 := Tryz.isAgg3
 z3 := Tryz.sizeOf3
 v3 := Tryz.zeroValue3
 t4 := Tryz.underlying4
 a4 := Tryz.isAgg4
 z4 := Tryz.sizeOf4
 v4 := Tryz.zeroValue4
 t5 := Tryz.underlying5
 a5 := Tryz.isAgg5
 z5 := Tryz.sizeOf5
 v5 := Tryz.zeroValue5
 t9 := Tryz.underlying9
 a9 := Tryz.isAgg9
 z9 := Tryz.sizeOf9
 v9 := Tryz.zeroValue9
 t31 := Tryz.underlying54
 a31 := Tryz.isAgg54
 z31 := Tryz.sizeOf54
 v31 := Tryz.zeroValue54
 t46 := Tryz.underlying157
 a46 := Tryz.isAgg157
 z46 := Tryz.sizeOf157
 v46 := Tryz.zeroValue157
 t51 := Tryz.underlying208
 a51 := Tryz.isAgg208
 z51 := Tryz.sizeOf208
 v51 := Tryz.zeroValue208
 t53 := Tryz.underlying210
 a53 := Tryz.isAgg210
 z53 := Tryz.sizeOf210
 v53 := Tryz.zeroValue210
 t131 := Tryz.underlying205
 a131 := Tryz.isAgg205
 z131 := Tryz.sizeOf205
 v131 := Tryz.zeroValue205
 t182 := Tryz.underlying200
 a182 := Tryz.isAgg200
 z182 := Tryz.sizeOf200
 v182 := Tryz.zeroValue200
 t183 := Tryz.underlying201
 a183 := Tryz.isAgg201
 z183 := Tryz.sizeOf201
 v183 := Tryz.zeroValue201
 t218 := Tryz.underlying238
 a218 := Tryz.isAgg238
 z218 := Tryz.sizeOf238
 v218 := Tryz.zeroValue238
 t222 := Tryz.underlying242
 a222 := Tryz.isAgg242
 z222 := Tryz.sizeOf242
 v222 := Tryz.zeroValue242
 t228 := Tryz.underlying258
 a228 := Tryz.isAgg258
 z228 := Tryz.sizeOf258
 v228 := Tryz.zeroValue258
 t229 := Tryz.underlying259
 a229 := Tryz.isAgg259
 z229 := Tryz.sizeOf259
 v229 := Tryz.zeroValue259 }
open Go.Sort Go.RowKit in
theorem Tryz.sort_Strings (blk off cap : Nat) (ss : List (List UInt8)) (w : World) (hH : Holds encStr w blk off ss.toArray) (hblk : blk < w.heap.size) (hsz : ss.length < 4611686018427387904) :
  Calls Tryz.prog 81 #[.slice (some ⟨blk, off, none⟩) ss.length cap] w fun e w' =>
   e = .returned (.tuple #[]) ∧ ∃ n os, w' = grow (putRow encStr (Sort.ahead w n) blk off (ss.mergeSort fun x y => decide (x ≤ y)).toArray) os := Any.sort_Strings Tryz.lays192 blk off cap ss w hH hblk hsz
def Tryz.lays194_ren : Go.Shelf.Ren := ⟨fun | 194 => 77 | n => n, fun | 31 => 54 | 9 => 9 | 3 => 3 | 4 => 4 | 0 => 0 | n => n, fun | n => n⟩
theorem Tryz.lays194 : Go.Proofs.Lays.n194 Tryz.prog Tryz.lays194_ren := {
 mixed := by kernel_rfl
 f194 := Tryz.func77.trans (congrArg some (by kernel_rfl))
 t0 := Tryz.underlying0
 a0 := Tryz.isAgg0
 z0 := Tryz.sizeOf0
 v0 := Tryz.zeroValue0
 t3 := Tryz.underlying3
 a3 := Tryz.isAgg3
 z3 := Tryz.sizeOf3
 v3 := Tryz.zeroValue3
 t4 := Tryz.underlying4
 a4 := Tryz.isAgg4
 z4 := Tryz.sizeOf4
 v4 := Tryz.zeroValue4
 t9 := Tryz.underlying9
 a9 := Tryz.isAgg9
 z9 := Tryz.sizeOf9
 v9 := Tryz.zeroValue9
 t31 := Tryz.underlying54
 a31 := Tryz.isAgg54
 z31 := Tryz.sizeOf54
 v31 := Tryz.zeroValue54 }
open Go.RowKit Go.Lib Go.Sort in
theorem Tryz.slices_Compact_string_arr (blk off cap : Nat) (d : Array (List UInt8)) (w : World) (hH : Holds encStr w blk off d) (hsz : d.size ≤ 9223372036854775807) (hcap : d.size ≤ cap) :
  Calls Tryz.prog 77 #[.slice (some ⟨blk, off, none⟩) d.size cap] w fun e w' => e = .returned (.slice (some ⟨blk, off, none⟩) (compactUpTo d d.size).length cap) ∧ ∃ q, w' = putRow encStr (Sort.ahead w q) blk off (compactUpTo d d.size ++ List.replicate (d.size - (compactUpTo d d.size).length) []).toArray := Any.slices_Compact_string_arr Tryz.lays194 blk off cap d w hH hsz hcap
open Go.RowKit Go.Lib Go.Sort in
theorem Tryz.slices_Compact_string (blk off cap : Nat) (zs : List (List UInt8)) (w : World) (hH : Holds encStr w blk off zs.toArray) (hsz : zs.length ≤ 9223372036854775807) (hcap : zs.length ≤ cap) :
  Calls Tryz.prog 77 #[.slice (some ⟨blk, off, none⟩) zs.length cap] w fun e w' => e = .returned (.slice (some ⟨blk, off, none⟩) (Lib.compact zs).length cap) ∧ ∃ q, w' = putRow encStr (Sort.ahead w q) blk off (Lib.compact zs ++ List.replicate (zs.length - (Lib.compact zs).length) []).toArray := Any.slices_Compact_string Tryz.lays194 blk off cap zs w hH hsz hcap
open Go.RowKit Go.Lib Go.Sort in
theorem Tryz.slices_Compact_string_empty (a : Option Addr) (cap : Nat) (w : World) :
  Calls Tryz.prog 77 #[.slice a 0 cap] w fun e w' => e = .returned (.slice a 0 cap) ∧ w' = w := Any.slices_Compact_string_empty Tryz.lays194 a cap w
open Go.RowKit Go.Lib Go.Sort in
theorem Tryz.slices_Compact_string_cells (b off n c : Nat) (Sx : Nat → ByteArray) (w : World) (hbig : n ≤ 9223372036854775807) (hcap : n ≤ c) (hc : ∀ i, i < n → w.cell? ⟨b, off + i, none⟩ = some (.string (Sx i))) (hf : ∀ j, j < n → w.frozen? ⟨b, off + j, none⟩ = false) :
  Calls Tryz.prog 77 #[.slice (some ⟨b, off, none⟩) n c] w fun e w' => e = .returned (.slice (some ⟨b, off, none⟩) (Lib.compact (Lib.strsOf Sx n)).length c) ∧ ∃ q, w' = (w.drewN q).setCells b off ((Lib.compact (Lib.strsOf Sx n) ++ List.replicate (n - (Lib.compact (Lib.strsOf Sx n)).length) []).map encStr) := Any.slices_Compact_string_cells Tryz.lays194 b off n c Sx w hbig hcap hc hf
open Go.RowKit Go.Sort in
theorem Tryz.slices_Sort_string_none (p : Option Addr) (cap : Nat) (w : World) :
  Calls Tryz.prog 76 #[.slice p 0 cap] w fun e w' => e = .returned (.tuple #[]) ∧ w' = w := Any.slices_Sort_string_none Tryz.lays190 p cap w
open Go.RowKit Go.Sort in
theorem Tryz.sort_Strings_none (p : Option Addr) (cap : Nat) (w : World) :
  Calls Tryz.prog 81 #[.slice p 0 cap] w fun e w' => e = .returned (.tuple #[]) ∧ w' = w := Any.sort_Strings_none Tryz.lays192 p cap w
end Go.Proofs
set_option maxRecDepth 100000
set_option maxHeartbeats 16000000
namespace Go.Proofs.YtodmgaikhbmlnaaGreatDoor
open Go.RowKit
def toL (b : ByteArray) : List UInt8 := b.data.toList
def ofL (l : List UInt8) : ByteArray := ⟨l.toArray⟩
theorem ofL_toL (b : ByteArray) : ofL (toL b) = b := by cases b; simp [ofL, toL]
theorem toL_ofL (l : List UInt8) : toL (ofL l) = l := by simp [ofL, toL]
theorem srow_holds {B : Nat} {w : World} {g cap : Nat} {l : List ByteArray} (h : SRow B w (.slice (some ⟨g, 0, none⟩) l.length cap) l) : Sort.Holds encStr w g 0 (l.map toL).toArray := by
 intro j hj
 have hj' : j < l.length := by simpa using hj
 have h1 := h.cellAt j (by omega)
 rcases h.2 with hn | ⟨g', cap', cur, hv, _, hg, _⟩
 ·
  exact absurd hn.1 (by simp)
 ·
  simp only [Value.slice.injEq, Option.some.injEq, Addr.mk.injEq] at hv; obtain ⟨⟨rfl, _, _⟩, _, _⟩ := hv; refine ⟨?_, ?_⟩
  ·
   rw [Nat.zero_add, h1]; simp [hj', encStr, toL]
  ·
   rw [Nat.zero_add]; exact frozen_of hg j
theorem srow_put {B : Nat} {w : World} {g cap k : Nat} {l : List ByteArray} {d : List (List UInt8)} (h : SRow B w (.slice (some ⟨g, 0, none⟩) l.length cap) l) (hd : d.length = l.length) (os : Array Obj) :
  SRow B (Sort.grow (Sort.putRow encStr (Sort.ahead w k) g 0 d.toArray) os) (.slice (some ⟨g, 0, none⟩) l.length cap) (d.map ofL) ∧ (∀ b, b < w.heap.size → b ≠ g → (Sort.grow (Sort.putRow encStr (Sort.ahead w k) g 0 d.toArray) os).heap[b]? = w.heap[b]?) ∧ w.heap.size ≤ (Sort.grow (Sort.putRow encStr (Sort.ahead w k) g 0 d.toArray) os).heap.size := by
 rcases h.2 with hn | ⟨g', cap', cur, hv, hb, hg, hc, hm, hz, hx⟩
 ·
  exact absurd hn.1 (by simp)
 ·
  simp only [Value.slice.injEq, Option.some.injEq, Addr.mk.injEq] at hv; obtain ⟨⟨rfl, _, _⟩, _, rfl⟩ := hv; have hgl := lt_of_heap hg
  have hsz : (Sort.putRow encStr (Sort.ahead w k) g 0 d.toArray).heap.size = w.heap.size := by simp [Sort.putRow, Sort.mapBlock, Sort.ahead]
  have hat : ∀ b, b < w.heap.size → (Sort.grow (Sort.putRow encStr (Sort.ahead w k) g 0 d.toArray) os).heap[b]? = (Sort.putRow encStr (Sort.ahead w k) g 0 d.toArray).heap[b]? := fun b hb => by
   simp only [Sort.grow]; rw [Array.getElem?_append_left (by rw [hsz]; exact hb)]
  have hg2 : (Sort.grow (Sort.putRow encStr (Sort.ahead w k) g 0 d.toArray) os).heap[g]? = some (.cells (Sort.putCells encStr 0 d.toArray cur) 9 (0, 0)) := by
   rw [hat g hgl]; simp only [Sort.putRow, Sort.mapBlock, Sort.ahead]; rw [Array.getElem?_modify, if_pos rfl, hg]; rfl
  refine ⟨⟨by simp [hd], Or.inr ⟨g, cap, Sort.putCells encStr 0 d.toArray cur, by simp [hd], hb, hg2, by simp [hd]; omega, hm, by simp [Sort.putCells, hz], ?_⟩⟩, fun b hb hne => ?_, ?_⟩
  ·
   apply List.ext_getElem?; intro i; simp only [Nat.mul_one] at hz hx ⊢; have hlc : l.length ≤ cur.size := by omega
   rw [List.getElem?_take]; simp only [List.length_map]
   by_cases hi : i < d.length
   ·
    rw [if_pos hi]; have hic : i < cur.size := by omega
    simp [Sort.putCells, hi, hic, encStr, ofL]
   ·
    rw [if_neg hi]
    symm
    apply List.getElem?_eq_none; simp only [List.length_map]; omega
  ·
   rw [hat b hb]; simp only [Sort.putRow, Sort.mapBlock, Sort.ahead]; rw [Array.getElem?_modify, if_neg (Ne.symm hne)]
  ·
   simp only [Sort.grow, Array.size_append]; omega
theorem srow_cut {B : Nat} {w : World} {g cap n : Nat} {l : List ByteArray} (h : SRow B w (.slice (some ⟨g, 0, none⟩) l.length cap) l) (hn : n ≤ l.length) : SRow B w (.slice (some ⟨g, 0, none⟩) n cap) (l.take n) := by
 have hln : (l.take n).length = n := by rw [List.length_take]; omega
 rcases h.2 with hv | ⟨g', cap', cur, hv, hb, hg, hc, hm, hz, hx⟩
 ·
  exact absurd hv.1 (by simp)
 ·
  simp only [Value.slice.injEq, Option.some.injEq, Addr.mk.injEq] at hv; obtain ⟨⟨rfl, _, _⟩, _, rfl⟩ := hv; refine ⟨by simp, Or.inr ⟨g, cap, cur, by rw [hln], hb, hg, by omega, hm, hz, ?_⟩⟩
  have h3 := congrArg (List.take n) hx; rw [List.take_take, Nat.min_eq_left (by omega)] at h3; rw [hln, Nat.mul_one, h3, ← List.map_take]
def sortB (l : List ByteArray) : List ByteArray := ((l.map toL).mergeSort fun x y => decide (x ≤ y)).map ofL
def freeOf (l : List ByteArray) : List ByteArray := (Lib.compact ((l.map toL).mergeSort fun x y => decide (x ≤ y))).map ofL
structure But (g : Nat) (w w' : World) : Prop where
 os : w'.os = w.os
 tape : w'.tape = w.tape
 output : w'.output = w.output
 size : w.heap.size ≤ w'.heap.size
 block : ∀ b, b < w.heap.size → b ≠ g → w'.heap[b]? = w.heap[b]?
theorem sort_any {B : Nat} (F : Nat) (hF : F = 76 ∨ F = 81) (l : List ByteArray) (v : Value) (w : World) (h : SRow B w v l) (hl : l.length ≤ 100000) :
  Calls Tryz.prog F #[v] w fun e w' => e = .returned (.tuple #[]) ∧ SRow B w' v (sortB l) ∧ ∀ g, (∀ b, v.ownBlock = some b → b = g) → But g w w' := by
 obtain ⟨va, vc, rfl⟩ := srow_form h
 rcases Nat.eq_zero_or_pos l.length with h0 | hpos
 ·
  have hl0 : l = [] := List.length_eq_zero_iff.1 h0; subst hl0; have hs : sortB [] = [] := by simp [sortB]
  rcases hF with rfl | rfl
  ·
   refine cm (Tryz.slices_Sort_string_none va vc w) ?_; rintro e w' ⟨rfl, rfl⟩; exact ⟨rfl, by rw [hs]; exact h, fun g _ => ⟨rfl, rfl, rfl, Nat.le_refl _, fun _ _ _ => rfl⟩⟩
  ·
   refine cm (Tryz.sort_Strings_none va vc w) ?_; rintro e w' ⟨rfl, rfl⟩; exact ⟨rfl, by rw [hs]; exact h, fun g _ => ⟨rfl, rfl, rfl, Nat.le_refl _, fun _ _ _ => rfl⟩⟩
 ·
  obtain ⟨g, cap, hv, hgl, _, _⟩ := srow_cell h 0 hpos; simp only [Value.slice.injEq] at hv; obtain ⟨rfl, _, rfl⟩ := hv; have hH := srow_holds h; have hln : (l.map toL).length = l.length := List.length_map ..
  have hd : ((l.map toL).mergeSort fun x y => decide (x ≤ y)).length = l.length := by rw [List.length_mergeSort, hln]
  have hC : Calls Tryz.prog F #[.slice (some ⟨g, 0, none⟩) l.length vc] w fun e w' => e = .returned (.tuple #[]) ∧ ∃ n os, w' = Sort.grow (Sort.putRow encStr (Sort.ahead w n) g 0 ((l.map toL).mergeSort fun x y => decide (x ≤ y)).toArray) os := by
   rcases hF with rfl | rfl
   ·
    have := Tryz.slices_Sort_string g 0 vc (l.map toL) w hH hgl (by omega); rw [hln] at this; exact this
   ·
    have := Tryz.sort_Strings g 0 vc (l.map toL) w hH hgl (by omega); rw [hln] at this; exact this
  refine cm hC ?_; rintro e w' ⟨rfl, n, os, rfl⟩; obtain ⟨h1, h2, h3⟩ := srow_put (k := n) h hd os; have hlen : (sortB l).length = l.length := by unfold sortB; rw [List.length_map, hd]
  refine ⟨rfl, ?_, fun g' hg' => ?_⟩
  ·
   exact h1
  ·
   have : g = g' := hg' g rfl; subst this; exact ⟨rfl, rfl, rfl, h3, h2⟩
theorem compact_any {B : Nat} (l : List ByteArray) (v : Value) (w : World) (h : SRow B w v l) (hl : l.length ≤ 100000) :
  Calls Tryz.prog 77 #[v] w fun e w' => (∃ u, e = .returned u ∧ SRow B w' u ((Lib.compact (l.map toL)).map ofL)) ∧ ∀ g, (∀ b, v.ownBlock = some b → b = g) → But g w w' := by
 obtain ⟨va, vc, rfl⟩ := srow_form h
 rcases Nat.eq_zero_or_pos l.length with h0 | hpos
 ·
  have hl0 : l = [] := List.length_eq_zero_iff.1 h0; subst hl0; refine cm (Tryz.slices_Compact_string_empty va vc w) ?_; rintro e w' ⟨rfl, rfl⟩
  exact ⟨⟨_, rfl, h⟩, fun g _ => ⟨rfl, rfl, rfl, Nat.le_refl _, fun _ _ _ => rfl⟩⟩
 ·
  obtain ⟨g, cap, hv, hgl, _, _⟩ := srow_cell h 0 hpos; simp only [Value.slice.injEq] at hv; obtain ⟨rfl, _, rfl⟩ := hv; have hH := srow_holds h; have hln : (l.map toL).length = l.length := List.length_map ..
  have hcl := Lib.compact_length_le (l.map toL); have hcap : l.length ≤ vc := by
   rcases h.2 with hn | ⟨g', cap', cur, hv, _, _, hc, _⟩
   ·
    exact absurd hn.1 (by simp)
   ·
    simp only [Value.slice.injEq] at hv; omega
  have hC := Tryz.slices_Compact_string g 0 vc (l.map toL) w hH (by omega) (by omega); rw [hln] at hC hcl; refine cm hC ?_; rintro e w' ⟨rfl, q, rfl⟩
  have hd : (Lib.compact (l.map toL) ++ List.replicate (l.length - (Lib.compact (l.map toL)).length) []).length = l.length := by simp; omega
  obtain ⟨h1, h2, h3⟩ := srow_put (k := q) h hd #[]; rw [Sort.grow_empty] at h1 h2 h3; refine ⟨⟨_, rfl, ?_⟩, fun g' hg' => ?_⟩
  ·
   have h1' : SRow B (Sort.putRow encStr (Sort.ahead w q) g 0 (Lib.compact (l.map toL) ++ List.replicate (l.length - (Lib.compact (l.map toL)).length) []).toArray) (.slice (some ⟨g, 0, none⟩) ((Lib.compact (l.map toL) ++ List.replicate (l.length - (Lib.compact (l.map toL)).length) []).map ofL).length vc) ((Lib.compact (l.map toL) ++ List.replicate (l.length - (Lib.compact (l.map toL)).length) []).map ofL) := by
    rw [List.length_map, hd]; exact h1
   have h4 := srow_cut h1' (n := (Lib.compact (l.map toL)).length) (by rw [List.length_map, hd]; exact hcl)
   rw [List.map_append, List.take_left' (by rw [List.length_map])] at h4; have h5 : ((Lib.compact (l.map toL)).map ofL).length = (Lib.compact (l.map toL)).length := List.length_map ..; exact h4
  ·
   have : g = g' := hg' g rfl; subst this; exact ⟨rfl, rfl, rfl, h3, h2⟩
theorem freeOf_eq (l : List ByteArray) : (Lib.compact ((sortB l).map toL)).map ofL = freeOf l := by
 unfold freeOf sortB
 rw [List.map_map]
 congr 2
 conv => rhs; rw [← List.map_id ((l.map toL).mergeSort fun x y => decide (x ≤ y))]
 exact List.map_congr_left fun b _ => toL_ofL b
theorem sortB_len (l : List ByteArray) : (sortB l).length = l.length := by unfold sortB; rw [List.length_map, List.length_mergeSort, List.length_map]
theorem hfree_any (t : Tr) (p : Nat) (w : World) (h : NTr w t p) (hill : t.ill = 0) (hc : t.count ≤ 1500) :
  Calls Tryz.prog 37 #[nPtr p] w fun e w' => (∃ u, e = .returned u ∧ SRow 0 w' u (freeOf (frF t.count t (fun _ => 0)))) ∧ Below w.heap.size w w' := by
 have hN : NAt (fun x => x < w.heap.size) w t p := NAt.mono (fun b _ hl => hl) _ _ h
 have hen := en73
 obtain ⟨F, hF⟩ : ∃ F, F = frF t.count t (fun _ => 0) := ⟨_, rfl⟩
 rw [← hF]
 have HF := hide hF
 clear hF
 have hmk := mkMap 98 (w.alloc (.cells #[.slice none 0 0] 54))
 have hms : (w.alloc (.cells #[.slice none 0 0] 54)).heap.size = w.heap.size + 1 := by simp
 rw [hms] at hmk
 clear hms
 go_enter Tryz.func37, Tryz.ntmps37
 go_wp2_with fail
 obtain ⟨wA, hwA⟩ : ∃ wA, wA = (((w.alloc (.cells #[.slice none 0 0] 54)).alloc (.map #[] 0)).alloc (.cells #[.map (some (w.heap.size + 1))] 98)).alloc (.cells #[lookV (w.heap.size + 1 + 1) w.heap.size (w.heap.size + 1 + 1 + 1)] 35) := ⟨_, rfl⟩
 have hbA : Below w.heap.size w wA := by rw [hwA]; exact ((((Below.refl _ _).alloc (Nat.le_refl _) _).alloc (by simp) _).alloc (by simp; omega) _).alloc (by simp; omega) _
 have hsA : wA.heap.size = w.heap.size + 4 := by rw [hwA]; simp
 have a0 : wA.heap[w.heap.size]? = some (.cells #[.slice none 0 0] 54 (0, 0)) := by
  rw [hwA, Below.heap_alloc _ _ _ (by simp <;> omega), Below.heap_alloc _ _ _ (by simp <;> omega), Below.heap_alloc _ _ _ (by simp <;> omega), heap_new]
 have a1 : wA.heap[w.heap.size + 1]? = some (.map #[] 0) := by
  have h2 := heap_new (w.alloc (.cells #[.slice none 0 0] 54)) (.map #[] 0); rw [hwA, Below.heap_alloc _ _ _ (by simp <;> omega), Below.heap_alloc _ _ _ (by simp <;> omega)]; simpa using h2
 have a2 : wA.heap[w.heap.size + 1 + 1]? = some (.cells #[.map (some (w.heap.size + 1))] 98 (0, 0)) := by
  have h2 := heap_new ((w.alloc (.cells #[.slice none 0 0] 54)).alloc (.map #[] 0)) (.cells #[.map (some (w.heap.size + 1))] 98); rw [hwA, Below.heap_alloc _ _ _ (by simp)]; simpa using h2
 have a3 : wA.heap[w.heap.size + 1 + 1 + 1]? = some (.cells #[lookV (w.heap.size + 1 + 1) w.heap.size (w.heap.size + 1 + 1 + 1)] 35 (0, 0)) := by
  have h2 := heap_new (((w.alloc (.cells #[.slice none 0 0] 54)).alloc (.map #[] 0)).alloc (.cells #[.map (some (w.heap.size + 1))] 98)) (.cells #[lookV (w.heap.size + 1 + 1) w.heap.size (w.heap.size + 1 + 1 + 1)] 35)
  rw [hwA]; simpa using h2
 obtain ⟨Pd, hPd⟩ : ∃ Pd : Nat → Prop, Pd = fun b => b < w.heap.size ∨ b = w.heap.size + 1 + 1 ∨ b = w.heap.size + 1 + 1 + 1 := ⟨_, rfl⟩
 have hst : FrSt Pd (w.heap.size + 1 + 1) w.heap.size (w.heap.size + 1 + 1 + 1) (w.heap.size + 1) (fun _ => 0) [] (.slice none 0 0) wA :=
  ⟨a2, a3, a0, ⟨[], a1, fun s => rfl⟩, srow_nil _ _, by rw [hPd]; exact Or.inr (Or.inl rfl), by rw [hPd]; exact Or.inr (Or.inr rfl), by rw [hPd]; omega, by rw [hPd]; omega, by omega, fun b hb => by cases hb⟩
 have hnA : NAt Pd wA t p := NAt.mono (fun b hb _ => by rw [hPd]; exact Or.inl hb) _ _ (NAt.later (I := fun x => x < w.heap.size) (fun x hx _ => hbA.block x hx) _ _ hN)
 have HC := hide (walkF_all (w.heap.size + 1 + 1) w.heap.size (w.heap.size + 1 + 1 + 1) (w.heap.size + 1) t.count t (Nat.le_refl _) hill Pd p (fun _ => 0) [] (.slice none 0 0) wA hnA hst (fun b hb => by rw [hPd] at hb; omega) hc (fun x => by omega) (by simp; omega))
 have hfl := frF_len t.count t (fun _ => 0)
 rw [List.nil_append] at HC
 rw [← HF.out] at HC hfl
 have HBA := hide hbA
 have HPD := hide hPd
 rw [← hwA]
 clear hwA a0 a1 a2 a3 hst hnA hN h hill hmk hbA hPd
 refine cm HC.out ?_
 rintro e w1 ⟨rfl, v1, hs1, hf1⟩
 have c1 : w1.cell? ⟨w.heap.size, 0, none⟩ = some v1 := by rw [cell_of hs1.hF]; rfl
 have hl1 := cellR c1
 have HBL : Hid (Below w.heap.size w w1) := by
  have h1 := unhide HBA; refine ⟨hf1.os.trans h1.os, hf1.tape.trans h1.tape, hf1.output.trans h1.output, Nat.le_trans h1.size hf1.size, fun b hb => (hf1.stay b ?_ (by omega)).trans (h1.block b hb)⟩; rw [HPD.out]
  exact Or.inl hb
 obtain ⟨va, vc, rfl⟩ := srow_form hs1.row
 have HO1 : Hid (∀ b, (Value.slice va F.length vc).ownBlock = some b → w.heap.size ≤ b ∧ b ≠ w.heap.size) := fun b hb => by
  have h1 := hs1.own b hb; rw [HPD.out] at h1; omega
 have HR1 := hide hs1.row
 have HC2 := hide (sort_any 76 (Or.inl rfl) F _ w1 hs1.row (by omega))
 clear HC hs1 hf1
 go_wp2_with fail
 refine cm HC2.out ?_
 rintro e w2 ⟨rfl, hr2, hb2⟩
 have hbut : ∃ g, (∀ b, (Value.slice va F.length vc).ownBlock = some b → b = g) ∧ w.heap.size ≤ g ∧ g ≠ w.heap.size := by
  cases ho : (Value.slice va F.length vc).ownBlock with
  | none => exact ⟨w.heap.size + 1, (fun b hb => by cases hb), by omega, by omega⟩
  | some g => exact ⟨g, (fun b hb => (Option.some.inj hb).symm), unhide HO1 g ho⟩
 obtain ⟨g, hg1, hg2, hg3⟩ := hbut
 have hB2 := hb2 g hg1
 have c2 : w2.cell? ⟨w.heap.size, 0, none⟩ = some (.slice va F.length vc) := (World.cell?_of_block (w := w1) (a := ⟨w.heap.size, 0, none⟩) (hB2.block w.heap.size hl1 (Ne.symm hg3))).trans c1
 have hl2 := cellR c2
 have hr2' : SRow 0 w2 (.slice va (sortB F).length vc) (sortB F) := by rw [sortB_len]; exact hr2
 have HC3 := hide (compact_any (sortB F) _ w2 hr2' (by rw [sortB_len]; omega))
 rw [sortB_len, freeOf_eq] at HC3
 have HBL2 : Hid (Below w.heap.size w w2) := by
  have h1 := unhide HBL; exact ⟨hB2.os.trans h1.os, hB2.tape.trans h1.tape, hB2.output.trans h1.output, Nat.le_trans h1.size hB2.size, fun b hb => (hB2.block b (by omega) (by omega)).trans (h1.block b hb)⟩
 have HG : Hid (∀ b, (Value.slice va F.length vc).ownBlock = some b → b = g) := hg1
 clear HC2 hr2 hr2' hb2 hB2 c1 hl1 hg1
 go_wp2_with fail
 refine cm HC3.out ?_
 rintro e w3 ⟨⟨u3, rfl, hr3⟩, hb3⟩
 obtain ⟨a3, c3, rfl⟩ := srow_form hr3
 have hB3 := hb3 g HG.out
 have HR3 := hide hr3
 have HBL3 : Hid (Below w.heap.size w w3) := by
  have h1 := unhide HBL2; have h2 := h1.size
  exact ⟨hB3.os.trans h1.os, hB3.tape.trans h1.tape, hB3.output.trans h1.output, Nat.le_trans h1.size hB3.size, fun b hb => (hB3.block b (by omega) (by omega)).trans (h1.block b hb)⟩
 clear HC3 hr3 hb3 hB3
 go_wp2_with fail
 go_ret
 exact ⟨⟨_, rfl, HR3.out⟩, HBL3.out⟩
theorem sameK_any {B C : Nat} (l : List ByteArray) (u v : Value) (w : World) (h1 : SRow B w u l) (h2 : SRow C w v l) (hl : l.length ≤ 90000) :
  Calls Tryz.prog 82 #[u, v] w fun e w' => e = .returned (.bool true) ∧ Below w.heap.size w w' := by
 obtain ⟨ua, uc, rfl⟩ := srow_form h1
 obtain ⟨va, vc, rfl⟩ := srow_form h2
 have HR1 := hide h1
 have HR2 := hide h2
 clear h1 h2
 go_enter Tryz.func82, Tryz.ntmps82
 go_wp2_with fail
 go_loopw [5] (fun j wr => ∃ k : Nat, k ≤ l.length ∧ j = .int .i64 k ∧ Below w.heap.size w wr) (fun j _ => l.length - (intOf j).toNat)
 case atStart => exact ⟨0, Nat.zero_le _, rfl, Below.refl _ _⟩
 case round =>
  obtain ⟨k, hk, rfl, hb⟩ := hrel; have HB := hide hb; clear hb
  by_cases hlt : k < l.length
  ·
   obtain ⟨g1, p1, hv, hg1, _, hc1⟩ := srow_cell (SRow.later HR1.out HB.out) k hlt; simp only [Value.slice.injEq] at hv; obtain ⟨rfl, _, rfl⟩ := hv
   obtain ⟨g2, p2, hv, hg2, _, hc2⟩ := srow_cell (SRow.later HR2.out HB.out) k hlt; simp only [Value.slice.injEq] at hv; obtain ⟨rfl, _, rfl⟩ := hv; have hki : (k : Int) < (l.length : Int) := by omega
   generalize l[k] = x at hc1 hc2
   go_wp2_with fail; refine wp_region_held (S := fun X => X = wr.drew) (by kernel_rfl) ?_; change wpAnyH _ _ _ _ _ _ _ _ (World.drew _); refine wh 0 (.slice (some ⟨g1, 0, none⟩) l.length uc) rfl ?_
   refine wh 1 (.int .i64 k) rfl ?_; refine wh 2 (.pointer (some ⟨g1, k, none⟩)) rfl ?_; refine wh 3 (.string x) rfl ?_ (hy := Or.inl ⟨by kernel_rfl, fun X hX => by cases hX; go_simp⟩)
   refine wh 4 (.slice (some ⟨g2, 0, none⟩) l.length vc) rfl ?_; refine wh 5 (.int .i64 k) rfl ?_; refine wh 6 (.pointer (some ⟨g2, k, none⟩)) rfl ?_
   refine wh 7 (.string x) rfl ?_ (hy := Or.inl ⟨by kernel_rfl, fun X hX => by cases hX; go_simp⟩)
   refine wh 8 (.bool false) rfl ?_; refine wpAnyH_done (by kernel_rfl) ?_ _; go_simp; go_wp2_with fail
   go_roundw
   case rel => exact ⟨k + 1, by omega, by go_num, HB.out.drew⟩
   case measure => simp [intOf]; omega
  ·
   have hkk : k = l.length := by omega
   subst hkk; go_wp2_with fail; go_ret; exact ⟨rfl, HB.out⟩
abbrev sH1 : ByteArray := ⟨#[102, 117, 110, 99, 116, 105, 111, 110, 32, 102, 40, 41, 32, 123, 125, 32, 105, 102, 32, 40, 97, 41, 32, 118, 97, 114, 32, 98, 59, 32, 108, 101, 116, 32, 99, 59]⟩
abbrev tLf : ByteArray := ⟨#[102]⟩
abbrev tLc : ByteArray := ⟨#[99]⟩
def lH1 : List Tk := [⟨2, tFunction, 0, 0⟩, ⟨1, tLf, 0, 9⟩, ⟨5, tOpen, 0, 10⟩, ⟨5, tShut, 0, 11⟩, ⟨5, tLBrace, 0, 13⟩, ⟨5, tRBrace, 0, 14⟩, ⟨2, tIf, 0, 16⟩, ⟨5, tOpen, 0, 19⟩, ⟨1, tLa, 0, 20⟩, ⟨5, tShut, 0, 21⟩, ⟨2, tVar, 0, 23⟩, ⟨1, tLb, 0, 27⟩, ⟨5, tSemi, 0, 28⟩, ⟨2, tLet, 0, 30⟩, ⟨1, tLc, 0, 34⟩, ⟨5, tSemi, 0, 35⟩, ⟨6, noText, 0, 36⟩]
def trH1 : Tr := .mk 1 noText 0 [.mk 5 tLf 0 [.mk 40 noText 0 [], .mk 6 noText 0 []], .mk 7 noText 0 [.mk 23 tLa 0 [], .mk 2 tLb 0 []], .mk 3 tLc 0 []]
theorem toks_h1 : toksR wordsS signsS sH1 (pastN gapB sH1 0) [] = .ok lH1 := by
 have e0 : pastN gapB sH1 0 = 0 := by decide +kernel
 rw [e0, toksR_go wordsS signsS sH1 0 [] 2 0 tFunction 8 (by decide) (by kernel_rfl) (by decide)]
 have e1 : pastN gapB sH1 8 = 9 := by decide +kernel
 rw [e1, toksR_go wordsS signsS sH1 9 _ 1 0 tLf 10 (by decide) (by kernel_rfl) (by decide)]
 have e2 : pastN gapB sH1 10 = 10 := by decide +kernel
 rw [e2, toksR_go wordsS signsS sH1 10 _ 5 0 tOpen 11 (by decide) (by kernel_rfl) (by decide)]
 have e3 : pastN gapB sH1 11 = 11 := by decide +kernel
 rw [e3, toksR_go wordsS signsS sH1 11 _ 5 0 tShut 12 (by decide) (by kernel_rfl) (by decide)]
 have e4 : pastN gapB sH1 12 = 13 := by decide +kernel
 rw [e4, toksR_go wordsS signsS sH1 13 _ 5 0 tLBrace 14 (by decide) (by kernel_rfl) (by decide)]
 have e5 : pastN gapB sH1 14 = 14 := by decide +kernel
 rw [e5, toksR_go wordsS signsS sH1 14 _ 5 0 tRBrace 15 (by decide) (by kernel_rfl) (by decide)]
 have e6 : pastN gapB sH1 15 = 16 := by decide +kernel
 rw [e6, toksR_go wordsS signsS sH1 16 _ 2 0 tIf 18 (by decide) (by kernel_rfl) (by decide)]
 have e7 : pastN gapB sH1 18 = 19 := by decide +kernel
 rw [e7, toksR_go wordsS signsS sH1 19 _ 5 0 tOpen 20 (by decide) (by kernel_rfl) (by decide)]
 have e8 : pastN gapB sH1 20 = 20 := by decide +kernel
 rw [e8, toksR_go wordsS signsS sH1 20 _ 1 0 tLa 21 (by decide) (by kernel_rfl) (by decide)]
 have e9 : pastN gapB sH1 21 = 21 := by decide +kernel
 rw [e9, toksR_go wordsS signsS sH1 21 _ 5 0 tShut 22 (by decide) (by kernel_rfl) (by decide)]
 have e10 : pastN gapB sH1 22 = 23 := by decide +kernel
 rw [e10, toksR_go wordsS signsS sH1 23 _ 2 0 tVar 26 (by decide) (by kernel_rfl) (by decide)]
 have e11 : pastN gapB sH1 26 = 27 := by decide +kernel
 rw [e11, toksR_go wordsS signsS sH1 27 _ 1 0 tLb 28 (by decide) (by kernel_rfl) (by decide)]
 have e12 : pastN gapB sH1 28 = 28 := by decide +kernel
 rw [e12, toksR_go wordsS signsS sH1 28 _ 5 0 tSemi 29 (by decide) (by kernel_rfl) (by decide)]
 have e13 : pastN gapB sH1 29 = 30 := by decide +kernel
 rw [e13, toksR_go wordsS signsS sH1 30 _ 2 0 tLet 33 (by decide) (by kernel_rfl) (by decide)]
 have e14 : pastN gapB sH1 33 = 34 := by decide +kernel
 rw [e14, toksR_go wordsS signsS sH1 34 _ 1 0 tLc 35 (by decide) (by kernel_rfl) (by decide)]
 have e15 : pastN gapB sH1 35 = 35 := by decide +kernel
 rw [e15, toksR_go wordsS signsS sH1 35 _ 5 0 tSemi 36 (by decide) (by kernel_rfl) (by decide)]
 have e16 : pastN gapB sH1 36 = 36 := by decide +kernel
 rw [e16, toksR_end wordsS signsS sH1 36 _ (by decide)]
 rfl
theorem parse_h1 : parseS wordsS signsS sH1 = .ok trH1 := by
 have h1 : progP lH1 (fns lH1 KK) = .ok trH1 16 := by kernel_rfl
 have h2 : trH1.count = 8 := by decide +kernel
 unfold parseS
 rw [if_neg (by decide), toks_h1]
 simp only
 rw [h1]
 simp only
 rw [h2, if_neg (by decide)]
theorem ill_h1 : trH1.ill = 0 := by decide +kernel
theorem names_h1 : namesT trH1 true = [tLb, tLf, tLc] := by decide +kernel
theorem free_h1 : freeOf (frF trH1.count trH1 (fun _ => 0)) = [tLa] := by
 have h1 : frF trH1.count trH1 (fun _ => 0) = [tLa] := by decide +kernel
 rw [h1]
 decide +kernel
theorem hoisted_any (w : World) (hL : Lists wordsS signsS w) (hgs : ∀ g ∈ signsS, 1 ≤ g.size) (hT : Tabs w) : Calls Tryz.prog 39 #[] w fun e w' => e = .returned (.bool true) ∧ Below w.heap.size w w' := by
 have hr := read_any22 wordsS signsS sH1 w hL hgs hT
 rw [parse_h1] at hr
 have HR := hide hr
 clear hr hL hgs hT
 go_enter Tryz.func39, Tryz.ntmps39
 go_wp2_with fail
 refine cm HR.out ?_
 rintro e w1 ⟨p, rfl, hn, hb⟩
 have HN := hide (NAt.nt hn)
 have HB := hide hb
 have HC1 := hide (names_any trH1 p true w1 (NAt.nt hn) (by decide +kernel))
 rw [names_h1] at HC1
 clear HR hn hb
 go_wp2_with fail
 refine cm HC1.out ?_
 rintro e w2 ⟨⟨u2, rfl, hr2⟩, hb2⟩
 obtain ⟨a2, c2, rfl⟩ := srow_form hr2
 have HB2 := hide (HB.out.trans (hb2.mono HB.out.size))
 have HN2 := hide (HN.out.later hb2)
 have HX : Hid (Below w2.heap.size w2 (w2.alloc (.cells #[.string tLb, .string tLf, .string tLc] 9))) := (Below.refl _ _).alloc (Nat.le_refl _) _
 have HC2 := hide (sameK_any [tLb, tLf, tLc] _ (.slice (some ⟨w2.heap.size, 0, none⟩) 3 3) (w2.alloc (.cells #[.string tLb, .string tLf, .string tLc] 9)) (SRow.later hr2 HX.out) (World.ownsRow_lit w2 #[.string tLb, .string tLf, .string tLc] 3 (Nat.le_refl _) (by decide) rfl) (by decide))
 clear HC1 hr2 hb2
 go_wp2_with fail
 refine cm HC2.out ?_
 rintro e w3 ⟨rfl, hb3⟩
 have hx3 : Below w2.heap.size w2 w3 := HX.out.trans (hb3.mono HX.out.size)
 have HB3 := hide (HB2.out.trans (hx3.mono HB2.out.size))
 have HC3 := hide (hfree_any trH1 p w3 (HN2.out.later hx3) ill_h1 (by decide +kernel))
 rw [free_h1] at HC3
 clear HC2 hb3 hx3 HX
 go_wp2_with fail
 refine cm HC3.out ?_
 rintro e w4 ⟨⟨u4, rfl, hr4⟩, hb4⟩
 obtain ⟨a4, c4, rfl⟩ := srow_form hr4
 have HB4 := hide (HB3.out.trans (hb4.mono HB3.out.size))
 have HX : Hid (Below w4.heap.size w4 (w4.alloc (.cells #[.string tLa] 9))) := (Below.refl _ _).alloc (Nat.le_refl _) _
 have HC4 := hide (sameK_any [tLa] _ (.slice (some ⟨w4.heap.size, 0, none⟩) 1 1) (w4.alloc (.cells #[.string tLa] 9)) (SRow.later hr4 HX.out) (World.ownsRow_lit w4 #[.string tLa] 1 (Nat.le_refl _) (by decide) rfl) (by decide))
 clear HC3 hr4 hb4
 go_wp2_with fail
 refine cm HC4.out ?_
 rintro e w5 ⟨rfl, hb5⟩
 have hx5 : Below w4.heap.size w4 w5 := HX.out.trans (hb5.mono HX.out.size)
 have HB5 := hide (HB4.out.trans (hx5.mono HB4.out.size))
 clear HC4 hb5 hx5
 go_wp2_with fail
 go_ret
 exact ⟨rfl, HB5.out⟩
end Go.Proofs.YtodmgaikhbmlnaaGreatDoor
namespace Go.Proofs.YtodmgaikhbmlnaaGreatDoor
open Go.RowKit
attribute [local go_sem ↓] Go.wp_at_zero Go.wp_at_succ
theorem notEmpty (s : ByteArray) (h1 : 1 ≤ s.size) : s.toList.isEmpty = false := by
 rw [ByteArray.toList_eq]
 cases hd : s.data.toList with
 | nil =>
  have h2 : s.data.toList.length = 0 := by rw [hd]; rfl
  have h3 : s.size = s.data.toList.length := by simp
  omega
 | cons a l => rfl
set_option maxRecDepth 100000 in
set_option maxHeartbeats 1000000 in
theorem isName_last (ws : List ByteArray) (s : ByteArray) (w : World) (hs : s.size ≤ maxLen) (h1 : 1 ≤ s.size) (h2 : s.size ≤ 20) (hl : letB (s[0].toNat : Int) = true) (hp : (((pastN lodB s 0 : Nat) : Int) == (s.size : Int)) = true)
  (hn : ws.length = 19) (t : TypeId) (fr : Nat × Nat) (hg : w.heap[2]? = some (.cells (ws.map Value.string).toArray t fr)) :
  Calls Tryz.prog 40 #[.string s] w fun e w' => e = .returned (.bool (!isIn ws s)) ∧ Below w.heap.size w w' := by
 have he := notEmpty s h1
 have hpos : 0 < s.size := h1
 have HL := hide hl
 have HS := hide hs
 have HG := hide hg
 have HN := hide hn
 clear hl hs hg hn
 go_enter Tryz.func40, Tryz.ntmps40
 go_wp2
 refine wp_region_any (by kernel_rfl) ?_
 change wpAny _ _ _ _ _ _ _ (World.drew _)
 refine wt 1 (.string s) ?_
 refine wt 2 (.int .u8 (s[0].toNat : Int)) ?_
 refine wr1 0 fun K hK => ?_
 go_simp
 refine (letter_any _).mono ?_
 rintro e w1 ⟨x, rfl, ⟨f1, c1, rfl, ef1, hf1⟩, hb1⟩
 refine hK _ _ ?_
 clear hK K
 refine wr1 3 fun K hK => ?_
 go_simp
 refine cm (hf1 w1 (Below.refl _ _) _) ?_
 rw [HL.out]
 rintro e w2 ⟨rfl, rfl⟩
 have HB1 := hide hb1
 clear hf1 hb1
 refine hK _ _ ?_
 clear hK K
 refine wt 4 (.bool true) ?_
 refine wt 5 (.string s) ?_
 refine wt 8 (.string s) ?_
 refine wt 9 (.int .i64 (s.size : Int)) ?_
 refine wr1 6 fun K hK => ?_
 go_simp
 refine (lod_any _).mono ?_
 rintro e w3 ⟨x2, rfl, hx2, hb2⟩
 have HX2 := hide hx2
 have HB2 := hide hb2
 clear hx2 hb2
 refine hK _ _ ?_
 clear hK K
 refine wr1 7 fun K hK => ?_
 go_simp
 refine (past_any s 0 x2 lodB w3 HS.out (Nat.zero_le _) HX2.out).mono ?_
 rintro e w4 ⟨rfl, rfl⟩
 refine hK _ _ ?_
 clear hK K
 refine wt 10 (.bool true) ?_
 refine wt 11 (.bool true) ?_
 refine wt 12 (.bool true) ?_
 refine wt 13 (.string s) ?_
 refine wr1 14 fun K hK => ?_
 go_simp
 have hb : Below w.heap.size w w4 := (Below.refl _ _).drew.trans (HB1.out.trans (HB2.out.mono HB1.out.size))
 have HB := hide hb
 have hlt : 2 < w.heap.size := (Array.getElem?_eq_some_iff.1 HG.out).1
 refine (isWord_any ws s w4 HN.out t fr (by rw [hb.block 2 hlt]; exact HG.out)).mono ?_
 clear hb
 rintro e w5 ⟨rfl, rfl⟩
 refine hK _ _ ?_
 clear hK K
 refine wt 15 (.bool (!isIn ws s)) ?_
 refine wt 16 (.bool (!isIn ws s)) ?_
 refine wt 17 (.bool (!isIn ws s)) ?_
 refine wpAny_done (by kernel_rfl) ?_ _
 go_simp
 go_wp2
 go_ret
 exact ⟨rfl, HB.out⟩
end Go.Proofs.YtodmgaikhbmlnaaGreatDoor
namespace Go.Proofs.YtodmgaikhbmlnaaGreatDoor
def nb (ts : List Tr) : Nat := (ts.filter fun t => decide (t.kd ≠ 6)).length
def p40 (kd : Int) : Nat := if kd = 40 then 1 else 0
mutual
def Tr.pz : Tr → Nat
 | .mk kd _ _ ks => p40 kd + if kd = 5 ∨ kd = 37 then Tr.pzt ks else Tr.pzs ks
def Tr.pzs : List Tr → Nat
 | [] => 0
 | t :: ts => t.pz + Tr.pzs ts
def Tr.pzt : List Tr → Nat
 | [] => 0
 | _ :: ts => nb ts + Tr.pzs ts
end
section
variable {l : List Tk}
def Kz (_ : Nat) (r : PR Tr) : Prop := ∀ t j, r = .ok t j → t.pz ≤ 0
def Kzs (_ : Nat) (r : PR (List Tr)) : Prop := ∀ t j, r = .ok t j → Tr.pzs t ≤ 0
structure FKz (F : Fns) : Prop where
 st : ∀ d i, Kz i (F.st d i)
 vl : ∀ d i, Kz i (F.vl d i)
 pr : ∀ b d i, Kz i (F.pr b d i)
 sg : ∀ d i, Kz i (F.sg d i)
variable {F : Fns} (hF : FKz F)
include hF
end
end Go.Proofs.YtodmgaikhbmlnaaGreatDoor
