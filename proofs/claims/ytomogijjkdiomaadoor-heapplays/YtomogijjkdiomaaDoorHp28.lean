/-
  The law's frame, its pieces, and what stands in a round.
-/
import Derived.Test.YtomogijjkdiomaaDoorHp27
set_option maxRecDepth 100000
set_option maxHeartbeats 16000000
namespace Go.Proofs.YtomogijjkdiomaaDoor
open Go.RowKit

def cl : Code → Code
  | .seq a _ => a
  | .block _ a => a
  | .loop a => a
  | .cond _ a _ => a
  | c => c
def cr : Code → Code
  | .seq _ b => b
  | .cond _ _ b => b
  | c => c
/-- The law's round, within its loop; the switch within it; what is held against one another behind the switch. -/
def RoundWp (Q : Exit → Act → World → Prop) (a : Act) (w : World) : Prop := Code.wp Tryd.prog (cl (cl (cr (cl (cr (cr (cr (cr (Tryd.f3.body.getD .skip))))))))) Q a w
def SwitchWp (Q : Exit → Act → World → Prop) (a : Act) (w : World) : Prop := Code.wp Tryd.prog (cl (cr (cr (cr (cl (cl (cr (cl (cl (cr (cl (cr (cr (cr (cr (Tryd.f3.body.getD .skip)))))))))))))))) Q a w
def TailWp (Q : Exit → Act → World → Prop) (a : Act) (w : World) : Prop := Code.wp Tryd.prog (cr (cr (cr (cr (cl (cl (cr (cl (cl (cr (cl (cr (cr (cr (cr (Tryd.f3.body.getD .skip)))))))))))))))) Q a w
/-- The temporaries: six that count, and the others. -/
def fr (l p3 p4 v5 v6 v7 : Value) (f : Nat → Value) : Act := ⟨#[l, f 1, f 2, p3, p4, v5, v6, v7, f 8, f 9, f 10, f 11, f 12, f 13, f 14, f 15, f 16, f 17, f 18, f 19, f 20, f 21, f 22, f 23, f 24, f 25, f 26, f 27, f 28, f 29, f 30, f 31, f 32, f 33, f 34, f 35, f 36, f 37, f 38, f 39, f 40, f 41, f 42, f 43, f 44, f 45, f 46, f 47, f 48, f 49, f 50, f 51, f 52, f 53, f 54, f 55, f 56, f 57, f 58, f 59, f 60, f 61, f 62, f 63, f 64, f 65, f 66, f 67, f 68, f 69, f 70, f 71, f 72, f 73, f 74, f 75, f 76, f 77, f 78, f 79, f 80, f 81, f 82, f 83, f 84, f 85, f 86, f 87, f 88, f 89, f 90, f 91, f 92, f 93, f 94, f 95, f 96, f 97, f 98, f 99, f 100, f 101, f 102, f 103, f 104, f 105, f 106, f 107, f 108, f 109, f 110, f 111, f 112, f 113, f 114, f 115, f 116, f 117, f 118, f 119, f 120, f 121, f 122, f 123, f 124, f 125, f 126, f 127, f 128, f 129, f 130, f 131, f 132, f 133, f 134, f 135, f 136, f 137, f 138, f 139, f 140, f 141, f 142, f 143, f 144, f 145, f 146, f 147, f 148, f 149, f 150, f 151, f 152, f 153, f 154, f 155, f 156, f 157, f 158, f 159, f 160, f 161, f 162, f 163, f 164, f 165, f 166, f 167, f 168, f 169, f 170, f 171, f 172, f 173, f 174, f 175, f 176, f 177, f 178, f 179, f 180, f 181, f 182, f 183, f 184, f 185, f 186, f 187, f 188, f 189, f 190, f 191, f 192, f 193, f 194, f 195, f 196, f 197, f 198, f 199, f 200, f 201, f 202, f 203, f 204, f 205, f 206, f 207, f 208, f 209, f 210, f 211, f 212, f 213, f 214, f 215, f 216, f 217, f 218, f 219, f 220, f 221, f 222, f 223, f 224, f 225, f 226, f 227, f 228, f 229, f 230, f 231, f 232, f 233, f 234, f 235, f 236, f 237, f 238, f 239, f 240, f 241, f 242, f 243, f 244, f 245, f 246, f 247, f 248, f 249, f 250, f 251, f 252, f 253, f 254, f 255, f 256, f 257, f 258, f 259, f 260, f 261, f 262, f 263, f 264, f 265, f 266, f 267, f 268, f 269, f 270, f 271, f 272, f 273, f 274, f 275, f 276, f 277, f 278, f 279, f 280, f 281, f 282, f 283, f 284, f 285, f 286, f 287, f 288, f 289, f 290, f 291, f 292, f 293, f 294, f 295, f 296, f 297, f 298, f 299, f 300, f 301, f 302, f 303, f 304, f 305, f 306, f 307, f 308, f 309, f 310, f 311, f 312, f 313, f 314, f 315, f 316, f 317, f 318, f 319, f 320, f 321, f 322, f 323, f 324, f 325, f 326, f 327, f 328, f 329, f 330, f 331, f 332, f 333, f 334, f 335, f 336, f 337, f 338, f 339, f 340, f 341, f 342, f 343, f 344, f 345, f 346, f 347, f 348, f 349, f 350, f 351, f 352, f 353, f 354, f 355, f 356, f 357, f 358, f 359, f 360, f 361, f 362, f 363, f 364, f 365, f 366, f 367, f 368, f 369, f 370, f 371, f 372, f 373, f 374, f 375, f 376, f 377, f 378, f 379, f 380, f 381, f 382, f 383, f 384, f 385, f 386, f 387, f 388, f 389, f 390, f 391, f 392, f 393, f 394, f 395, f 396, f 397, f 398, f 399, f 400, f 401, f 402, f 403, f 404, f 405, f 406, f 407, f 408, f 409, f 410, f 411, f 412, f 413, f 414, f 415, f 416, f 417, f 418, f 419, f 420, f 421, f 422, f 423, f 424, f 425, f 426, f 427, f 428, f 429, f 430, f 431, f 432, f 433, f 434, f 435, f 436, f 437, f 438, f 439, f 440, f 441, f 442, f 443, f 444, f 445, f 446, f 447, f 448, f 449, f 450, f 451, f 452, f 453, f 454, f 455, f 456, f 457, f 458, f 459, f 460, f 461, f 462, f 463, f 464, f 465, f 466, f 467, f 468, f 469], []⟩
set_option maxRecDepth 100000
theorem range_lit (g : Nat → Value) : (List.range 470).map g = [g 0, g 1, g 2, g 3, g 4, g 5, g 6, g 7, g 8, g 9, g 10, g 11, g 12, g 13, g 14, g 15, g 16, g 17, g 18, g 19, g 20, g 21, g 22, g 23, g 24, g 25, g 26, g 27, g 28, g 29, g 30, g 31, g 32, g 33, g 34, g 35, g 36, g 37, g 38, g 39, g 40, g 41, g 42, g 43, g 44, g 45, g 46, g 47, g 48, g 49, g 50, g 51, g 52, g 53, g 54, g 55, g 56, g 57, g 58, g 59, g 60, g 61, g 62, g 63, g 64, g 65, g 66, g 67, g 68, g 69, g 70, g 71, g 72, g 73, g 74, g 75, g 76, g 77, g 78, g 79, g 80, g 81, g 82, g 83, g 84, g 85, g 86, g 87, g 88, g 89, g 90, g 91, g 92, g 93, g 94, g 95, g 96, g 97, g 98, g 99, g 100, g 101, g 102, g 103, g 104, g 105, g 106, g 107, g 108, g 109, g 110, g 111, g 112, g 113, g 114, g 115, g 116, g 117, g 118, g 119, g 120, g 121, g 122, g 123, g 124, g 125, g 126, g 127, g 128, g 129, g 130, g 131, g 132, g 133, g 134, g 135, g 136, g 137, g 138, g 139, g 140, g 141, g 142, g 143, g 144, g 145, g 146, g 147, g 148, g 149, g 150, g 151, g 152, g 153, g 154, g 155, g 156, g 157, g 158, g 159, g 160, g 161, g 162, g 163, g 164, g 165, g 166, g 167, g 168, g 169, g 170, g 171, g 172, g 173, g 174, g 175, g 176, g 177, g 178, g 179, g 180, g 181, g 182, g 183, g 184, g 185, g 186, g 187, g 188, g 189, g 190, g 191, g 192, g 193, g 194, g 195, g 196, g 197, g 198, g 199, g 200, g 201, g 202, g 203, g 204, g 205, g 206, g 207, g 208, g 209, g 210, g 211, g 212, g 213, g 214, g 215, g 216, g 217, g 218, g 219, g 220, g 221, g 222, g 223, g 224, g 225, g 226, g 227, g 228, g 229, g 230, g 231, g 232, g 233, g 234, g 235, g 236, g 237, g 238, g 239, g 240, g 241, g 242, g 243, g 244, g 245, g 246, g 247, g 248, g 249, g 250, g 251, g 252, g 253, g 254, g 255, g 256, g 257, g 258, g 259, g 260, g 261, g 262, g 263, g 264, g 265, g 266, g 267, g 268, g 269, g 270, g 271, g 272, g 273, g 274, g 275, g 276, g 277, g 278, g 279, g 280, g 281, g 282, g 283, g 284, g 285, g 286, g 287, g 288, g 289, g 290, g 291, g 292, g 293, g 294, g 295, g 296, g 297, g 298, g 299, g 300, g 301, g 302, g 303, g 304, g 305, g 306, g 307, g 308, g 309, g 310, g 311, g 312, g 313, g 314, g 315, g 316, g 317, g 318, g 319, g 320, g 321, g 322, g 323, g 324, g 325, g 326, g 327, g 328, g 329, g 330, g 331, g 332, g 333, g 334, g 335, g 336, g 337, g 338, g 339, g 340, g 341, g 342, g 343, g 344, g 345, g 346, g 347, g 348, g 349, g 350, g 351, g 352, g 353, g 354, g 355, g 356, g 357, g 358, g 359, g 360, g 361, g 362, g 363, g 364, g 365, g 366, g 367, g 368, g 369, g 370, g 371, g 372, g 373, g 374, g 375, g 376, g 377, g 378, g 379, g 380, g 381, g 382, g 383, g 384, g 385, g 386, g 387, g 388, g 389, g 390, g 391, g 392, g 393, g 394, g 395, g 396, g 397, g 398, g 399, g 400, g 401, g 402, g 403, g 404, g 405, g 406, g 407, g 408, g 409, g 410, g 411, g 412, g 413, g 414, g 415, g 416, g 417, g 418, g 419, g 420, g 421, g 422, g 423, g 424, g 425, g 426, g 427, g 428, g 429, g 430, g 431, g 432, g 433, g 434, g 435, g 436, g 437, g 438, g 439, g 440, g 441, g 442, g 443, g 444, g 445, g 446, g 447, g 448, g 449, g 450, g 451, g 452, g 453, g 454, g 455, g 456, g 457, g 458, g 459, g 460, g 461, g 462, g 463, g 464, g 465, g 466, g 467, g 468, g 469] := by kernel_rfl
theorem getD_eq {l : List Value} {i : Nat} {v : Value} (h : l[i]? = some v) : l.getD i undef = v := by
  rw [List.getD_eq_getElem?_getD, h]; rfl
theorem list_range (l : List Value) (n : Nat) (h : l.length = n) : l = (List.range n).map fun i => l.getD i undef := by
  subst h
  apply List.ext_getElem?
  intro i
  by_cases hi : i < l.length
  · simp [hi]
  · simp [hi]
theorem fr_of (ts : List Value) {l p3 p4 v5 v6 v7 : Value} (hn : ts.length = 470) (h0 : ts[0]? = some l) (h3 : ts[3]? = some p3) (h4 : ts[4]? = some p4) (h5 : ts[5]? = some v5) (h6 : ts[6]? = some v6) (h7 : ts[7]? = some v7) :
    (⟨ts.toArray, []⟩ : Act) = fr l p3 p4 v5 v6 v7 fun i => ts.getD i undef := by
  have h := (list_range ts 470 hn).trans (range_lit _)
  rw [getD_eq h0, getD_eq h3, getD_eq h4, getD_eq h5, getD_eq h6, getD_eq h7] at h
  exact congrArg (fun x => (⟨List.toArray x, []⟩ : Act)) h

/-- One Do. -/
structure Dv where
  what : Int
  a : Int
  b : Int
  name : ByteArray
  kind : Int
  v : Int
  fixed : Bool
def Dv.cells (d : Dv) : List Value := [.int .i64 d.what, .int .i64 d.a, .int .i64 d.b, .string d.name, .int .i64 d.kind, .int .i64 d.v, .bool d.fixed]
def vOf (n : Int) : Obj := .cells #[.int .i64 3, .int .i64 n, .string ⟨#[]⟩] 36
/-- What stands in a round: the two heaps, the Do, its value; all else is as it was when the call began. -/
structure Rd (w0 W : World) (H R D V : Nat) (M N : Mo) (d : Dv) : Prop where
  hh : HeapH H W M
  hr : HeapR R W N
  db : W.heap[D]? = some (.cells d.cells.toArray 34 (0, 0))
  vb : W.heap[V]? = some (vOf d.v)
  fr : FrT (Th ++ Tr) w0.heap.size w0 W
  er : errType w0
  lh : w0.heap.size ≤ H
  lr : w0.heap.size ≤ R
section
variable {w0 W W' : World} {H R D V : Nat} {M N M' : Mo} {d : Dv}
theorem Rd.h (s : Rd w0 W H R D V M N d) (h : HeapH H W' M') (f : FrT Th H W W') : Rd w0 W' H R D V M' N d :=
  ⟨h, s.hr.keep f, f.rest _ _ 34 s.db (by decide), f.rest _ _ 36 s.vb (by decide), s.fr.trans (f.mono (fun _ h => List.mem_append_left _ h) s.lh), s.er, s.lh, s.lr⟩
theorem Rd.r (s : Rd w0 W H R D V M N d) (h : HeapR R W' M') (f : FrT Tr R W W') : Rd w0 W' H R D V M M' d :=
  ⟨s.hh.keep f, h, f.rest _ _ 34 s.db (by decide), f.rest _ _ 36 s.vb (by decide), s.fr.trans (f.mono (fun _ h => List.mem_append_right _ h) s.lr), s.er, s.lh, s.lr⟩
theorem Rd.b (s : Rd w0 W H R D V M N d) (f : Below W.heap.size W W') : Rd w0 W' H R D V M N d :=
  ⟨s.hh.later f, s.hr.later f, (f.block _ (lt_of_block s.db)).trans s.db, (f.block _ (lt_of_block s.vb)).trans s.vb, s.fr.trans (FrT.of f s.fr.below.size), s.er, s.lh, s.lr⟩
theorem Rd.err (s : Rd w0 W H R D V M N d) : errType W := errType_later s.er s.fr.below
theorem Rd.d0 (s : Rd w0 W H R D V M N d) : W.cell? ⟨D, 0, none⟩ = some (.int .i64 d.what) := by simp [World.cell?, s.db, Dv.cells]
theorem Rd.d1 (s : Rd w0 W H R D V M N d) : W.cell? ⟨D, 1, none⟩ = some (.int .i64 d.a) := by simp [World.cell?, s.db, Dv.cells]
theorem Rd.d2 (s : Rd w0 W H R D V M N d) : W.cell? ⟨D, 2, none⟩ = some (.int .i64 d.b) := by simp [World.cell?, s.db, Dv.cells]
theorem Rd.d3 (s : Rd w0 W H R D V M N d) : W.cell? ⟨D, 3, none⟩ = some (.string d.name) := by simp [World.cell?, s.db, Dv.cells]
theorem Rd.d4 (s : Rd w0 W H R D V M N d) : W.cell? ⟨D, 4, none⟩ = some (.int .i64 d.kind) := by simp [World.cell?, s.db, Dv.cells]
theorem Rd.d5 (s : Rd w0 W H R D V M N d) : W.cell? ⟨D, 5, none⟩ = some (.int .i64 d.v) := by simp [World.cell?, s.db, Dv.cells]
theorem Rd.d6 (s : Rd w0 W H R D V M N d) : W.cell? ⟨D, 6, none⟩ = some (.bool d.fixed) := by simp [World.cell?, s.db, Dv.cells]
theorem Rd.v0 (s : Rd w0 W H R D V M N d) : W.cell? ⟨V, 0, none⟩ = some (.int .i64 3) := by simp [World.cell?, s.vb, vOf]
theorem Rd.v1 (s : Rd w0 W H R D V M N d) : W.cell? ⟨V, 1, none⟩ = some (.int .i64 d.v) := by simp [World.cell?, s.vb, vOf]
theorem Rd.v2 (s : Rd w0 W H R D V M N d) : W.cell? ⟨V, 2, none⟩ = some (.string ⟨#[]⟩) := by simp [World.cell?, s.vb, vOf]
end

/-- What a drawn region reads of the Do and its value. -/
structure Dvs (D V : Nat) (d : Dv) (W : World) : Prop where
  d1 : W.cell? ⟨D, 1, none⟩ = some (.int .i64 d.a)
  d2 : W.cell? ⟨D, 2, none⟩ = some (.int .i64 d.b)
  d3 : W.cell? ⟨D, 3, none⟩ = some (.string d.name)
  d4 : W.cell? ⟨D, 4, none⟩ = some (.int .i64 d.kind)
  d5 : W.cell? ⟨D, 5, none⟩ = some (.int .i64 d.v)
  d6 : W.cell? ⟨D, 6, none⟩ = some (.bool d.fixed)
  v0 : W.cell? ⟨V, 0, none⟩ = some (.int .i64 3)
  v1 : W.cell? ⟨V, 1, none⟩ = some (.int .i64 d.v)
  v2 : W.cell? ⟨V, 2, none⟩ = some (.string ⟨#[]⟩)
theorem Rd.dvs {w0 W : World} {H R D V : Nat} {M N : Mo} {d : Dv} (s : Rd w0 W H R D V M N d) : Dvs D V d W := ⟨s.d1, s.d2, s.d3, s.d4, s.d5, s.d6, s.v0, s.v1, s.v2⟩
theorem fin (Q : Exit → Act → World → Prop) (e : Exit) (ts : List Value) {l p3 p4 v5 v6 v7 : Value} {W : World} (hn : ts.length = 470) (h0 : ts[0]? = some l) (h3 : ts[3]? = some p3) (h4 : ts[4]? = some p4) (h5 : ts[5]? = some v5) (h6 : ts[6]? = some v6) (h7 : ts[7]? = some v7)
    (h : Q e (fr l p3 p4 v5 v6 v7 fun i => ts.getD i undef) W) : Q e ⟨ts.toArray, []⟩ W := by
  rw [fr_of ts hn h0 h3 h4 h5 h6 h7]; exact h
theorem bare_same {W : World} (h : errType W) (e : Int) : Calls Tryd.prog 7 #[errW e, .int .i64 e] W fun x w' => x = .returned (.bool true) ∧ Below W.heap.size W w' := by
  have := bare_any W e e h
  rw [beq_self_eq_true] at this
  exact this

def regOps : Code → Array Oper
  | .region _ o _ => o
  | _ => #[]
def Reg58 (Q : Exit → Act → World → Prop) (S : World → Prop) (n : Nat) (listed : Array Bool) (a : Act) (w : World) : Prop := wpAnyH Tryd.prog .any (regOps (cl (cr (cr (cr (cr (cr (cr (cr (cr (cr (cr (cl (cl (cr (cl (cl (cr (cl (cr (cr (cr (cr (Tryd.f3.body.getD .skip)))))))))))))))))))))))) Q S n listed a w
theorem wpAnyH_same {P : Program} {md : Region.Mode} {ops : Array Oper} {Q : Exit → Act → World → Prop} {S : World → Prop} {n : Nat} {l l' : Array Bool} {ts : List Value} {a' : Act} {w : World} (h1 : l = l') (h2 : (⟨ts.toArray, []⟩ : Act) = a') (h : wpAnyH P md ops Q S n l' a' w) : wpAnyH P md ops Q S n l ⟨ts.toArray, []⟩ w := by
  subst h1
  rw [h2]; exact h
/-- What the test asks of both heaps, in a world that has grown out of W. -/
structure Ask (W : World) (H R D X : Nat) (M : Mo) (d : Dv) (b : Int) (pc pr : Option Addr) (cc cr : Nat) : Prop where
  f27 : ∀ W', Below W.heap.size W W' → Calls Tryd.prog 27 #[.pointer (some ⟨H, 0, none⟩), .int .i64 d.a, .string d.name] W' fun e w' => e = .returned (.bool (M.has d.a d.name)) ∧ Below W'.heap.size W' w'
  f28 : ∀ W', Below W.heap.size W W' → Calls Tryd.prog 28 #[.pointer (some ⟨R, 0, none⟩), .int .i64 d.a, .string d.name] W' fun e w' => e = .returned (.bool (M.has d.a d.name)) ∧ Below W'.heap.size W' w'
  f29 : ∀ W', Below W.heap.size W W' → Calls Tryd.prog 29 #[.pointer (some ⟨H, 0, none⟩), .int .i64 d.a, .string d.name] W' fun e w' => e = .returned (.int .i64 (M.kindOf d.a d.name)) ∧ Below W'.heap.size W' w'
  f30 : ∀ W', Below W.heap.size W W' → Calls Tryd.prog 30 #[.pointer (some ⟨R, 0, none⟩), .int .i64 d.a, .string d.name] W' fun e w' => e = .returned (.int .i64 (M.kindOf d.a d.name)) ∧ Below W'.heap.size W' w'
  f33 : ∀ W', Below W.heap.size W W' → Calls Tryd.prog 33 #[.pointer (some ⟨R, 0, none⟩), .int .i64 d.a] W' fun e w' => e = .returned (.string (joinS (M.names d.a))) ∧ Below W'.heap.size W' w'
  f34 : ∀ W', Below W.heap.size W W' → Calls Tryd.prog 34 #[.pointer (some ⟨H, 0, none⟩), .int .i64 d.a] W' fun e w' => e = .returned (.int .i64 (M.codeOf d.a)) ∧ Below W'.heap.size W' w'
  f35 : ∀ W', Below W.heap.size W W' → Calls Tryd.prog 35 #[.pointer (some ⟨H, 0, none⟩), .int .i64 d.a] W' fun e w' => e = .returned (.int .i64 (M.objOf d.a)) ∧ Below W'.heap.size W' w'
  f36 : ∀ W', Below W.heap.size W W' → Calls Tryd.prog 36 #[.pointer (some ⟨H, 0, none⟩), .int .i64 d.a] W' fun e w' => e = .returned (.int .i64 (M.outOf d.a)) ∧ Below W'.heap.size W' w'
  f32 : ∀ W', Below W.heap.size W W' → Calls Tryd.prog 32 #[.pointer (some ⟨H, 0, none⟩), .int .i64 d.a] W' fun e w' => ∃ v, e = .returned v ∧ RowS w' v (M.names d.a) ∧ Below W'.heap.size W' w'
  f31 : ∀ W' v, RowS W' v (M.names d.a) → Calls Tryd.prog 31 #[v, .string ⟨#[32]⟩] W' fun e w' => e = .returned (.string (joinS (M.names d.a))) ∧ Below W'.heap.size W' w'
  cD1 : ∀ W', Below W.heap.size W W' → W'.cell? ⟨D, 1, none⟩ = some (.int .i64 d.a)
  cD3 : ∀ W', Below W.heap.size W W' → W'.cell? ⟨D, 3, none⟩ = some (.string d.name)
  cR0 : ∀ W', Below W.heap.size W W' → W'.cell? ⟨R, 0, none⟩ = some (.slice pc M.objs.length cc)
  cR2 : ∀ W', Below W.heap.size W W' → W'.cell? ⟨R, 2, none⟩ = some (.slice pr M.rooms.length cr)
  cX1 : ∀ W', Below W.heap.size W W' → W'.cell? ⟨X, 1, none⟩ = some (.int .i64 b)
/-- The temporaries that the test reads. -/
structure Tmp (f : Nat → Value) (X : Nat) (M : Mo) (d : Dv) (b : Int) (ok : Bool) : Prop where
  f12 : f 12 = .pointer (some ⟨X, 0, none⟩)
  f13 : f 13 = .bool ok
  f14 : f 14 = .int .i64 b
  f15 : f 15 = .bool ok
  f16 : f 16 = .int .i64 (M.objs.length : Int)
  f17 : f 17 = .int .i64 (M.rooms.length : Int)
  f18 : f 18 = .int .i64 (M.codeOf d.a)
  f19 : f 19 = .int .i64 (M.objOf d.a)
  f20 : f 20 = .int .i64 (M.outOf d.a)

section
variable {W : World} {H R D V : Nat} {M : Mo} {d : Dv}
set_option maxRecDepth 100000
set_option maxHeartbeats 8000000
theorem seg8 (Q : Exit → Act → World → Prop) (l v5 : Value) (f : Nat → Value) (X : Nat) (b : Int) (ok : Bool) (pc pr : Option Addr) (cc cr : Nat) (hA : Ask W H R D X M d b pc pr cc cr) (hT : Tmp f X M d b ok) (W' : World) (hB : Below W.heap.size W W') (g0 : f 463 = .bool false)
    (hP : ∀ c a a' w, Q (.panic c) a w → Q (.panic c) a' w) (hQ : ∀ f' W', Below W.heap.size W W' → f' 469 = .bool false → Q .normal (fr l (pH H) (pH R) v5 (pH D) (pH V) f') W') :
    Reg58 Q (fun W' => Below W.heap.size W W') 6 #[true, true, true, true, true, true, true, true, true, true, true, true, true, true, true, true, true, true, true, true, true, true, true, true, true, true, true, true, true, true, true, true, true, true, true, true, true, true, true, true, true, true, true, true, true, true, true, true, true, true, true, true, true, true, true, true, true, true, true, true, true, true, true, true, true, true, true, true, true, true, true, true, true, true, true, true, true, true, true, true, true, false, false, false, false, false, false] (fr l (pH H) (pH R) v5 (pH D) (pH V) f) W' := by
  have HA := hide hA
  have HT := hide hT
  have HB0 := hide hB
  have HP := hide hP
  have HQ := hide hQ
  obtain ⟨f12, f13, f14, f15, f16, f17, f18, f19, f20⟩ := hT
  clear hA hB hP hQ
  unfold Reg58
  simp only [Go.Proofs.YtomogijjkdiomaaDoor.regOps, Go.Proofs.YtomogijjkdiomaaDoor.cl, Go.Proofs.YtomogijjkdiomaaDoor.cr, Tryd.f3, Option.getD_some]
  unfold pH fr
  rw [f12, f13, f14, f15, f16, f17, f18, f19, f20, g0]
  clear f12 f13 f14 f15 f16 f17 f18 f19 f20 g0
  refine wh 81 (.pointer (some ⟨D, 1, none⟩)) HB0.out ?_ (hQ := fun _ _ _ h => HP.out _ _ _ _ h)
  refine wg 82 (.int .i64 d.a) rfl (Or.inl ⟨by kernel_rfl, fun W hW => by have h0 := HA.out.cD1 W hW; clear hW; go_simp⟩) HB0.out ?_ (hQ := fun _ _ _ h => HP.out _ _ _ _ h)
  refine wh 84 (.int .i64 (M.outOf d.a)) HB0.out ?_ (hQ := fun _ _ _ h => HP.out _ _ _ _ h)
  refine wq1 83 fun K hK => ?_
  go_simp
  refine Calls.mono (HA.out.f36 _ HB0.out) ?_
  rintro e1 w1 ⟨rfl, hb1⟩
  have HB1 := hide (HB0.out.trans (hb1.mono HB0.out.size))
  refine hK.out _ _ HB1.out (fun _ => ?_)
  clear hK K hb1
  refine wh 85 (.bool false) HB1.out ?_ (hQ := fun _ _ _ h => HP.out _ _ _ _ h)
  refine wh 86 (.bool false) HB1.out ?_ (hQ := fun _ _ _ h => HP.out _ _ _ _ h)
  refine wpAnyH_done (by kernel_rfl) ?_ _
  go_simp
  exact fin Q .normal _ rfl rfl rfl rfl rfl rfl rfl (HQ.out _ _ HB1.out rfl)
end
end Go.Proofs.YtomogijjkdiomaaDoor
