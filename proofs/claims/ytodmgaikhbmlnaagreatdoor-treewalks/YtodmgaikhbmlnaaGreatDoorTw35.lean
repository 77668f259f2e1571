/-
  Small laws for the walk of the reference's Tokens.
-/
import Derived.Test.YtodmgaikhbmlnaaGreatDoorTw2
set_option maxRecDepth 100000
set_option maxHeartbeats 16000000
namespace Go.Proofs.YtodmgaikhbmlnaaGreatDoor
open Go.RowKit
abbrev F25 : Obj := .cells #[.int .i64 0, .int .i64 0] 25
theorem infoRT : (Tryz.prog.info? 68).map (fun i => (i.zero, i.size, i.bytes)) = some (some noTok, 4, 40) := by kernel_rfl
theorem own_below {E : TypeId} {wr w3 : World} {B : Nat} {v : Value} {n : Nat} {xs : List Value} (hb : Below wr.heap.size wr w3) (h : wr.ownsRow B E 4 v n xs) : w3.ownsRow B E 4 v n xs := by
 obtain ⟨hl, h0 | ⟨g, cap, cur, hv, hge, hh, hr⟩⟩ := h
 ·
  exact ⟨hl, Or.inl h0⟩
 ·
  exact ⟨hl, Or.inr ⟨g, cap, cur, hv, hge, by rw [hb.block g (Array.getElem?_eq_some_iff.1 hh).1]; exact hh, hr⟩⟩
theorem own_base {E : TypeId} {w : World} {B B' : Nat} {v : Value} {n : Nat} {xs : List Value} (hb : B' ≤ B) (h : w.ownsRow B E 4 v n xs) : w.ownsRow B' E 4 v n xs := by
 obtain ⟨hl, h0 | ⟨g, cap, cur, hv, hge, hr⟩⟩ := h
 ·
  exact ⟨hl, Or.inl h0⟩
 ·
  exact ⟨hl, Or.inr ⟨g, cap, cur, hv, by omega, hr⟩⟩
theorem own_grown {E : TypeId} {B : Nat} {W0 wx w1 : World} {v : Value} {n : Nat} {xs : List Value} (hB : Below B W0 wx) (hsz : B ≤ wx.heap.size) (hown : wx.ownsRow B E 4 v n xs) (hg : wx.grownBy w1 v.ownBlock) :
  Below B W0 w1 := hB.grown hg hsz (fun k hk => by
  obtain ⟨_, ⟨rfl, _⟩ | ⟨g, cap, cur, rfl, hge, _⟩⟩ := hown
  ·
   simp [Value.ownBlock] at hk
  ·
   simp [Value.ownBlock] at hk; omega)
structure RInv (w : World) (acc : List Tk) (v : Value) (wr : World) : Prop where
 own : wr.ownsRow (w.heap.size + 1) 68 4 v acc.length (tksCells acc)
 bel : Below (w.heap.size + 1) (w.alloc F25) wr
theorem RInv.size {w : World} {acc : List Tk} {v : Value} {wr : World} (h : RInv w acc v wr) : w.heap.size + 1 ≤ wr.heap.size := by
 have := h.bel.size; simp at this; exact this
theorem RInv.app {w : World} {acc : List Tk} {v v' : Value} {wr w1 : World} {t : Tk} (h : RInv w acc v wr) (o : Obj) (hown' : w1.ownsRow (w.heap.size + 1) 68 4 v' (acc.length + 1) (tksCells acc ++ tkCells t))
  (hg : (wr.alloc o).grownBy w1 v.ownBlock) : RInv w (acc ++ [t]) v' w1 := by
 have hz := h.size
 exact ⟨by rw [tksCells_snoc, List.length_append]; exact hown', own_grown (h.bel.alloc hz o) (by simp; omega) (h.own.alloc o) hg⟩
def UPost (r : TR) (w : World) (e : Ending) (w' : World) : Prop :=
 match r with
 | .ok l => ∃ v, e = .returned (.tuple #[v, .agg #[.int .i64 0, .int .i64 (-1)]]) ∧ w'.ownsRow w.heap.size 68 4 v l.length (tksCells l) ∧ Below w.heap.size w w'
 | .bad er p => e = .returned (.tuple #[.slice none 0 0, .agg #[.int .i64 er, .int .i64 (p : Int)]]) ∧ Below w.heap.size w w'
theorem RInv.out {w : World} {acc : List Tk} {v : Value} {wr : World} (h : RInv w acc v wr) (v0 v1 : Value) :
  Below w.heap.size w ((wr.setCell ⟨w.heap.size, 0, none⟩ v0).setCell ⟨w.heap.size, 1, none⟩ v1) := by
 have b0 : Below w.heap.size w (w.alloc F25) := (Below.refl _ _).alloc (Nat.le_refl _) _
 exact ((b0.trans (h.bel.mono (by omega))).setCell (Nat.le_refl _) _).setCell (Nat.le_refl _) _
theorem RInv.cells {w : World} {acc : List Tk} {v : Value} {wr : World} (h : RInv w acc v wr) :
  wr.cell? ⟨w.heap.size, 0, none⟩ = some (.int .i64 0) ∧ wr.cell? ⟨w.heap.size, 1, none⟩ = some (.int .i64 0) ∧ wr.frozen? ⟨w.heap.size, 0, none⟩ = false ∧ wr.frozen? ⟨w.heap.size, 1, none⟩ = false := by
 have c := fun o => h.bel.cell (p := ⟨w.heap.size, o, none⟩) (by simp)
 have f := fun o => h.bel.frozen (p := ⟨w.heap.size, o, none⟩) (by simp)
 refine ⟨?_, ?_, ?_, ?_⟩
 ·
  rw [c]; simp
 ·
  rw [c]; simp
 all_goals
  rw [f]; simp
theorem RInv.later {w : World} {acc : List Tk} {v : Value} {wr w3 : World} (h : RInv w acc v wr) (hb : Below wr.heap.size wr w3) : RInv w acc v w3 :=
 ⟨own_below hb h.own, h.bel.trans (hb.mono h.size)⟩
structure RefLists (ws : List ByteArray) (w : World) : Prop where
 lw : ws.length = 19
 hw : ∃ a cap, w.cell? ⟨3, 0, none⟩ = some (.slice (some a) 19 cap) ∧ ∀ i, i < ws.length → w.cell? (a.add i) = some (.string (ws.getD i ByteArray.empty))
 f0 : w.cell? ⟨0, 0, none⟩ = some (.int .i64 0)
 f1 : w.cell? ⟨0, 1, none⟩ = some (.int .i64 (-1))
theorem lt_of_cell' {w : World} {a : Addr} {v : Value} (h : w.cell? a = some v) : a.block < w.heap.size := by
 unfold World.cell? at h
 by_cases hb : a.block < w.heap.size
 ·
  exact hb
 ·
  rw [Array.getElem?_eq_none (by omega)] at h; simp at h
theorem RefLists.later {ws : List ByteArray} {w w' : World} (h : RefLists ws w) (hb : Below w.heap.size w w') : RefLists ws w' := by
 obtain ⟨a, cap, h2, h3⟩ := h.hw
 exact ⟨h.lw, ⟨a, cap, by rw [hb.cell (lt_of_cell' h2)]; exact h2, fun i hi => by rw [hb.cell (lt_of_cell' (h3 i hi))]; exact h3 i hi⟩, by rw [hb.cell (lt_of_cell' h.f0)]; exact h.f0, by rw [hb.cell (lt_of_cell' h.f1)]; exact h.f1⟩
theorem RefLists.word {ws : List ByteArray} {w : World} (h : RefLists ws w) (s : ByteArray) : Calls Tryz.prog 95 #[.string s] w fun e w' => e = .returned (.bool (isIn ws s)) ∧ w' = w := by
 obtain ⟨a, cap, h2, h3⟩ := h.hw
 exact refIsWord_any a cap ws s w h.lw h2 h3
theorem RInv.lists {ws : List ByteArray} {w : World} {acc : List Tk} {v : Value} {wr : World} (h : RInv w acc v wr) (hL : RefLists ws w) : RefLists ws wr := by
 have b0 : Below w.heap.size w (w.alloc F25) := (Below.refl _ _).alloc (Nat.le_refl _) _
 exact hL.later (b0.trans (h.bel.mono (by omega)))
def firstLoop : Code → Option Code
 | .loop c => some c
 | .seq a b => match firstLoop a with
  | some c => some c
  | none => firstLoop b
 | .block _ c => firstLoop c
 | .scope c => firstLoop c
 | .cond _ a b => match firstLoop a with
  | some c => some c
  | none => firstLoop b
 | _ => none
noncomputable def body6 : Code := ((Tryz.f45.body.bind firstLoop).getD .skip)
def fr (s : ByteArray) (H : Nat) (v i : Value) (f : Nat → Value) : Act := ⟨#[.string s, undef, f 2, .pointer (some ⟨H, 0, none⟩), v, i, f 6, f 7, f 8, f 9, f 10, f 11, f 12, f 13, undef, f 15, .string s, .int .i64 (s.size : Int), .bool (decide (3000 < (s.size : Int))), undef, f 20, f 21, f 22, f 23, f 24, f 25, f 26, f 27, f 28, f 29, f 30, f 31, f 32, f 33, f 34, f 35, f 36, f 37, f 38, f 39, f 40, f 41, f 42, f 43, f 44, f 45, f 46, f 47, f 48, f 49, f 50, f 51, f 52, f 53, f 54, f 55, f 56, f 57, f 58, f 59, f 60, f 61, f 62, f 63, f 64, f 65, f 66, f 67, f 68, f 69, f 70, f 71, f 72, f 73, f 74, f 75, f 76, f 77, f 78, f 79, f 80, f 81, f 82, f 83, f 84, f 85, f 86, f 87, f 88, f 89, f 90, f 91, f 92, f 93, f 94, f 95, f 96, f 97, f 98, f 99, f 100, f 101, f 102, f 103, f 104, f 105, f 106, f 107, f 108, f 109, f 110, f 111, f 112, f 113, f 114, f 115, f 116, f 117, f 118, f 119, f 120, f 121, f 122, f 123, f 124, f 125, f 126, f 127, f 128, f 129, f 130, f 131, f 132, f 133, f 134, f 135, f 136, f 137, f 138, f 139, f 140, f 141, f 142, f 143, f 144, f 145, f 146, f 147, f 148, f 149, f 150, f 151, f 152, f 153, f 154, f 155, f 156, f 157, f 158, f 159, f 160, f 161, f 162, f 163, f 164, f 165, f 166, f 167, f 168, f 169, f 170, f 171, f 172, f 173, f 174, f 175, f 176, f 177, f 178, f 179, f 180, f 181, f 182, f 183, f 184, f 185, f 186, f 187, f 188, f 189, f 190, f 191, f 192, f 193, f 194, f 195, f 196, f 197, f 198, f 199, f 200, f 201, f 202, f 203, f 204, f 205, f 206, f 207, f 208, f 209, f 210, f 211, f 212, f 213, f 214, f 215, f 216, f 217, f 218, f 219, f 220, f 221, f 222, f 223, f 224, f 225, f 226, f 227, f 228, f 229, f 230, f 231, f 232, f 233, f 234, f 235, undef, undef, undef, undef, undef, undef, undef], []⟩
def mu6 (s : ByteArray) (a : Act) (_w : World) : Nat := s.size - (intOf (a.tmps.getD 5 undef)).toNat
def WI (ws : List ByteArray) (s : ByteArray) (w : World) (r : TR) (a : Act) (wr : World) : Prop :=
 ∃ (j : Nat) (acc : List Tk) (v : Value) (f : Nat → Value), j ≤ s.size ∧ acc.length ≤ j ∧ toksR ws signsS s (pastN gapB s j) acc = r ∧ RInv w acc v wr ∧ a = fr s w.heap.size v (.int .i64 (j : Int)) f
theorem WI_mk {ws : List ByteArray} {s : ByteArray} {w : World} {r : TR} {a : Act} {wr : World} (j : Nat) (acc : List Tk) (v : Value) (h1 : j ≤ s.size) (h2 : acc.length ≤ j) (h3 : toksR ws signsS s (pastN gapB s j) acc = r) (h4 : RInv w acc v wr)
  (h5 : a = fr s w.heap.size v (.int .i64 (j : Int)) (fun k => a.tmps.getD k undef)) : WI ws s w r a wr := ⟨j, acc, v, _, h1, h2, h3, h4, h5⟩
abbrev Q6 (ws : List ByteArray) (s : ByteArray) (w : World) (r : TR) (K : Act → World → Prop) (n : Nat) : Exit → Act → World → Prop :=
 Exit.then (fun a' w'' => WI ws s w r a' w'' ∧ mu6 s a' w'' < n) (Exit.inBlock 0 (Exit.then K (bodyPost Tryz.prog Tryz.f45 (UPost r w))))
end Go.Proofs.YtodmgaikhbmlnaaGreatDoor
