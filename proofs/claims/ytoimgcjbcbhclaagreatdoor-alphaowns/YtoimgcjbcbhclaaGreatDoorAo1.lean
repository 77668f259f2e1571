/-
  Walks of the small functions that tell a byte's kind: letters, digits, sets; a teller is a closure; 'Tells' says what it answers in every later world.
-/
import Derived.Test.YtoimgcjbcbhclaaGreatDoorAo0
import Derived.Test.YtoimgcjbcbhclaaGreatDoorProg
import Derived.WalkKit
import Derived.WalkSpells
import Derived.WalkLawsBesides
import Derived.Lib.Bytealg
import Derived.Laws.Rows
import Derived.ProofKit
import Derived.OpenShut
import Derived.Stop.Joined
import Derived.Test.YtoimgcjbcbhclaaGreatDoorRows
import Derived.LaidMore
import Derived.RegionTactic
import Derived.Deep.RegionHeld
set_option maxRecDepth 100000
set_option maxHeartbeats 16000000
namespace Go.Proofs.YtoimgcjbcbhclaaGreatDoor
open Go.RowKit
def btwB (lo hi c : Int) : Bool := decide (lo ≤ c) && decide (c ≤ hi)
def letB (c : Int) : Bool := btwB 97 122 c || c == 95
def digB (c : Int) : Bool := btwB 48 57 c
def lodB (c : Int) : Bool := letB c || digB c
def inB (s : List UInt8) (c : Int) : Bool := decide (0 ≤ Lib.indexByte s c.toNat.toUInt8)
theorem hide {p : Prop} (h : p) : Hid p := h
theorem unhide {p : Prop} (h : Hid p) : p := h
theorem ret_bool {a b : Bool} (h : a = b) : Ending.returned (.bool a) = .returned (.bool b) := by rw [h]
theorem isLetter_any (c : Int) (w : World) :
  Calls Tryz.prog 133 #[.int .u8 c] w fun e w' => e = .returned (.bool (letB c)) ∧ w' = w := by
 go_enter Tryz.func133, Tryz.ntmps133
 go_wp2
 all_goals go_ret
 all_goals refine ⟨ret_bool ?_, rfl⟩
 all_goals simp [letB, btwB, *]
 all_goals omega
theorem isDigit_any (c : Int) (w : World) :
  Calls Tryz.prog 134 #[.int .u8 c] w fun e w' => e = .returned (.bool (digB c)) ∧ w' = w := by
 go_enter Tryz.func134, Tryz.ntmps134
 go_wp2
 all_goals go_ret
 all_goals refine ⟨ret_bool ?_, rfl⟩
 all_goals (simp [digB, btwB, *]; try omega)
theorem between1_any (c lo hi : Int) (p q : Addr) (w : World) (h1 : w.cell? p = some (.int .u8 lo)) (h2 : w.cell? q = some (.int .u8 hi)) :
  Calls Tryz.prog 278 #[.int .u8 c, .pointer (some p), .pointer (some q)] w fun e w' => e = .returned (.bool (btwB lo hi c)) ∧ w' = w := by
 go_enter Tryz.func278, Tryz.ntmps278
 go_wp2
 all_goals go_ret
 all_goals refine ⟨ret_bool ?_, rfl⟩
 all_goals (simp [btwB, *]; try omega)
theorem ib_run (s : ByteArray) (c : Int) (w : World) : (callFunc 276 #[.string s, .int .u8 c]).run Tryz.prog w = .ok (.value (.int .i64 (Lib.indexByte s.data.toList c.toNat.toUInt8))) w := by
 rw [run_callFunc_extern Tryz.func276 (by kernel_rfl) (by kernel_rfl) (by kernel_rfl) (e := Extern.BytealgIndexByte.indexByte) (by kernel_rfl), Lib.run_indexByteString]
 rfl
theorem among1_any (c : Int) (p : Addr) (s : ByteArray) (w : World) (h1 : w.cell? p = some (.string s)) :
  Calls Tryz.prog 154 #[.int .u8 c, .pointer (some p)] w fun e w' => e = .returned (.bool (inB s.data.toList c)) ∧ w' = w := by
 have hib := ib_run s c
 go_enter Tryz.func154, Tryz.ntmps154
 go_wp2
 go_ret
 exact ⟨ret_bool (by simp [inB]), rfl⟩
theorem en29 : ∀ args W, (callFunc 154 args).run Tryz.prog W = .ok (.enter 154 args) W := fun _ _ => by kernel_rfl
theorem en48 : ∀ args W, (callFunc 277 args).run Tryz.prog W = .ok (.enter 277 args) W := fun _ _ => by kernel_rfl
theorem en49 : ∀ args W, (callFunc 278 args).run Tryz.prog W = .ok (.enter 278 args) W := fun _ _ => by kernel_rfl
/-- A value is a teller of p: in every later world it is a function that answers so and leaves the world as it was. -/
def Tells (w : World) (v : Value) (p : Int → Bool) : Prop :=
 ∃ f caps, v = .func (.func f) #[] caps ∧ (∀ args W, (callFunc f args).run Tryz.prog W = .ok (.enter f args) W) ∧ ∀ W, Below w.heap.size w W → ∀ b : UInt8, Calls Tryz.prog f (#[.int .u8 (b.toNat : Int)] ++ caps) W fun e W' => e = .returned (.bool (p (b.toNat : Int))) ∧ W' = W
theorem Tells.later {w w' : World} {v : Value} {p : Int → Bool} (h : Tells w v p) (hb : Below w.heap.size w w') : Tells w' v p := by
 obtain ⟨f, caps, rfl, he, h⟩ := h
 exact ⟨f, caps, rfl, he, fun W hW c => h W (hb.trans (hW.mono hb.size)) c⟩
theorem cell_later2 {w W : World} {b o : Nat} {v : Value} (hb : Below w.heap.size w W) (h : w.cell? ⟨b, o, none⟩ = some v) (hlt : b < w.heap.size) : W.cell? ⟨b, o, none⟩ = some v := by
 rw [hb.cell (p := ⟨b, o, none⟩) hlt]; exact h
theorem mf_run : ∀ (fn : Fn) (first cap : Array Value) (w : World), (Instr.makeFunc fn first cap).run Tryz.prog w = .ok (.func fn first cap) w := fun _ _ _ _ => rfl
theorem between_any (lo hi : Int) (w : World) :
  Calls Tryz.prog 233 #[.int .u8 lo, .int .u8 hi] w fun e w' => ∃ v, e = .returned v ∧ Tells w' v (btwB lo hi) ∧ Below w.heap.size w w' := by
 have hmf := mf_run
 go_enter Tryz.func233, Tryz.ntmps233
 go_wp2
 go_ret
 refine ⟨_, rfl, ⟨278, _, rfl, en49, fun W hW c => ?_⟩, ((Below.refl _ _).alloc (Nat.le_refl _) _).alloc (by simp) _⟩
 refine between1_any _ lo hi _ _ W ?_ ?_
 ·
  exact cell_later2 hW (by simp [World.cell?_alloc_past, World.cell?_alloc_at]) (by simp; omega)
 ·
  exact cell_later2 hW (by simp [World.cell?_alloc_at]) (by simp)
theorem among_any (s : ByteArray) (w : World) :
  Calls Tryz.prog 98 #[.string s] w fun e w' => ∃ v, e = .returned v ∧ Tells w' v (inB s.data.toList) ∧ Below w.heap.size w w' := by
 have hmf := mf_run
 go_enter Tryz.func98, Tryz.ntmps98
 go_wp2
 go_ret
 refine ⟨_, rfl, ⟨154, _, rfl, en29, fun W hW c => ?_⟩, (Below.refl _ _).alloc (Nat.le_refl _) _⟩
 refine among1_any _ _ s W ?_
 exact cell_later2 hW (by simp [World.cell?_alloc_at]) (by simp)
theorem either1_any (c : Int) (p q : Addr) (f g : Nat) (cf cg : Array Value) (P Q : Int → Bool) (w : World) (ef : ∀ args W, (callFunc f args).run Tryz.prog W = .ok (.enter f args) W) (eg : ∀ args W, (callFunc g args).run Tryz.prog W = .ok (.enter g args) W) (h1 : w.cell? p = some (.func (.func f) #[] cf)) (h2 : w.cell? q = some (.func (.func g) #[] cg))
  (hf : Calls Tryz.prog f (#[.int .u8 c] ++ cf) w fun e w' => e = .returned (.bool (P c)) ∧ w' = w)
  (hg : Calls Tryz.prog g (#[.int .u8 c] ++ cg) w fun e w' => e = .returned (.bool (Q c)) ∧ w' = w) :
  Calls Tryz.prog 277 #[.int .u8 c, .pointer (some p), .pointer (some q)] w fun e w' => e = .returned (.bool (P c || Q c)) ∧ w' = w := by
 have Hf : Hid _ := hf
 have Hg : Hid _ := hg
 clear hf hg
 cases hP : P c
 ·
  go_enter Tryz.func277, Tryz.ntmps277; go_wp2_with fail; refine Calls.mono Hf.out ?_; rw [hP]; rintro e w' ⟨rfl, rfl⟩; go_wp2_with fail; refine Calls.mono Hg.out ?_; rintro e w' ⟨rfl, rfl⟩; go_wp2_with fail; go_ret
  exact ⟨ret_bool (by simp), rfl⟩
 ·
  go_enter Tryz.func277, Tryz.ntmps277; go_wp2_with fail; refine Calls.mono Hf.out ?_; rw [hP]; rintro e w' ⟨rfl, rfl⟩; go_wp2_with fail; go_ret; exact ⟨ret_bool (by simp), rfl⟩
theorem either_any (u v : Value) (P Q : Int → Bool) (w : World) (hu : Tells w u P) (hv : Tells w v Q) :
  Calls Tryz.prog 232 #[u, v] w fun e w' => ∃ x, e = .returned x ∧ Tells w' x (fun c => P c || Q c) ∧ Below w.heap.size w w' := by
 have hmf := mf_run
 obtain ⟨f, cf, rfl, ef, hf⟩ := hu
 obtain ⟨g, cg, rfl, eg, hg⟩ := hv
 have Hf := hide hf
 have Hg := hide hg
 clear hf hg
 go_enter Tryz.func232, Tryz.ntmps232
 go_wp2
 go_ret
 have hb : Below w.heap.size w ((w.alloc (.cells #[.func (.func f) #[] cf] 134)).alloc (.cells #[.func (.func g) #[] cg] 134)) := ((Below.refl _ _).alloc (Nat.le_refl _) _).alloc (by simp) _
 refine ⟨_, rfl, ⟨277, _, rfl, en48, fun W hW c => ?_⟩, hb⟩
 have hWw := hb.trans (hW.mono hb.size)
 refine either1_any _ _ _ f g cf cg P Q W ef eg ?_ ?_ (unhide Hf W hWw c) (unhide Hg W hWw c)
 ·
  exact cell_later2 hW (by simp [World.cell?_alloc_past, World.cell?_alloc_at]) (by simp; omega)
 ·
  exact cell_later2 hW (by simp [World.cell?_alloc_at]) (by simp)
theorem digit_any (w : World) : Calls Tryz.prog 158 #[] w fun e w' => ∃ x, e = .returned x ∧ Tells w' x digB ∧ Below w.heap.size w w' := by
 go_enter Tryz.func158, Tryz.ntmps158
 go_wp2_with fail
 refine (between_any 48 57 _).mono ?_
 rintro e w' ⟨x, rfl, hx, hb⟩
 have HX := hide hx
 have HB := hide hb
 clear hx hb
 go_wp2_with fail
 go_ret
 exact ⟨x, rfl, HX.out, HB.out⟩
theorem Tells.congr {w : World} {v : Value} {p q : Int → Bool} (h : Tells w v p) (e : ∀ b : UInt8, p (b.toNat : Int) = q (b.toNat : Int)) : Tells w v q := by
 obtain ⟨f, caps, rfl, he, h⟩ := h
 exact ⟨f, caps, rfl, he, fun W hW b => by rw [← e b]; exact h W hW b⟩
theorem inB_under (b : UInt8) : inB [95] (b.toNat : Int) = ((b.toNat : Int) == 95) := by
 have key : ∀ m : Fin 256, inB [95] ((m.val : Nat) : Int) = (((m.val : Nat) : Int) == 95) := by decide +kernel
 exact key ⟨b.toNat, b.toNat_lt⟩
def gapB (c : Int) : Bool := c == 32 || c == 10
theorem inB_gap (b : UInt8) : inB [32, 10] (b.toNat : Int) = gapB (b.toNat : Int) := by
 have key : ∀ m : Fin 256, inB [32, 10] ((m.val : Nat) : Int) = gapB ((m.val : Nat) : Int) := by decide +kernel
 exact key ⟨b.toNat, b.toNat_lt⟩
theorem letter_any (w : World) : Calls Tryz.prog 156 #[] w fun e w' => ∃ x, e = .returned x ∧ Tells w' x letB ∧ Below w.heap.size w w' := by
 go_enter Tryz.func156, Tryz.ntmps156
 go_wp2_with fail
 refine (between_any 97 122 _).mono ?_
 rintro e w1 ⟨x, rfl, hx, hb⟩
 have HX := hide hx
 have HB := hide hb
 clear hx hb
 go_wp2_with fail
 refine (among_any _ _).mono ?_
 rintro e w2 ⟨y, rfl, hy, hb2⟩
 have HY := hide hy
 have HB2 := hide hb2
 clear hy hb2
 go_wp2_with fail
 refine (either_any x y _ _ _ (HX.out.later HB2.out) HY.out).mono ?_
 rintro e w3 ⟨z, rfl, hz, hb3⟩
 have HZ := hide hz
 have HB3 := hide hb3
 clear hz hb3
 go_wp2_with fail
 go_ret
 refine ⟨z, rfl, HZ.out.congr (fun b => by show (_ || inB [95] _) = _; rw [inB_under]; rfl), ?_⟩
 exact zbfi
theorem lod_any (w : World) : Calls Tryz.prog 234 #[] w fun e w' => ∃ x, e = .returned x ∧ Tells w' x lodB ∧ Below w.heap.size w w' := by
 go_enter Tryz.func234, Tryz.ntmps234
 go_wp2_with fail
 refine (letter_any _).mono ?_
 rintro e w1 ⟨x, rfl, hx, hb⟩
 have HX := hide hx
 have HB := hide hb
 clear hx hb
 go_wp2_with fail
 refine (digit_any _).mono ?_
 rintro e w2 ⟨y, rfl, hy, hb2⟩
 have HY := hide hy
 have HB2 := hide hb2
 clear hy hb2
 go_wp2_with fail
 refine (either_any x y _ _ _ (HX.out.later HB2.out) HY.out).mono ?_
 rintro e w3 ⟨z, rfl, hz, hb3⟩
 have HZ := hide hz
 have HB3 := hide hb3
 clear hz hb3
 go_wp2_with fail
 go_ret
 refine ⟨z, rfl, HZ.out.congr (fun b => rfl), ?_⟩
 exact zbfi
/-- The first place from k on whose byte is of another kind, or the end. -/
def pastN (p : Int → Bool) (s : ByteArray) (k : Nat) : Nat := k + ((s.data.toList.drop k).takeWhile (fun b => p (b.toNat : Int))).length
section
variable (p : Int → Bool) (s : ByteArray) (k : Nat)
include p s k
theorem pastN_le (h : k ≤ s.size) : pastN p s k ≤ s.size := by
 unfold pastN
 have h1 := ((List.takeWhile_prefix (l := s.data.toList.drop k) (fun b => p (b.toNat : Int))).length_le)
 have h2 : (s.data.toList.drop k).length = s.size - k := by simp
 omega
theorem pastN_go (h : k < s.size) (hp : p (s[k].toNat : Int) = true) : pastN p s (k + 1) = pastN p s k := by
 unfold pastN
 have hk : k < s.data.toList.length := by simpa using h
 have e : s.data.toList.drop k = s[k] :: s.data.toList.drop (k + 1) := List.drop_eq_getElem_cons hk
 rw [e, List.takeWhile_cons, if_pos hp, List.length_cons]; omega
theorem pastN_stop (h : k < s.size) (hp : p (s[k].toNat : Int) = false) : pastN p s k = k := by
 unfold pastN
 have hk : k < s.data.toList.length := by simpa using h
 have e : s.data.toList.drop k = s[k] :: s.data.toList.drop (k + 1) := List.drop_eq_getElem_cons hk
 rw [e, List.takeWhile_cons, if_neg (by rw [hp]; simp)]; rfl
theorem pastN_end (h : s.size ≤ k) : pastN p s k = k := by
 unfold pastN
 rw [List.drop_of_length_le (by simpa using h)]; rfl
end
theorem ret_int {k : IntKind} {a b : Int} (h : a = b) : Ending.returned (.int k a) = .returned (.int k b) := by rw [h]
theorem past_any (s : ByteArray) (k0 : Nat) (v : Value) (p : Int → Bool) (w : World) (hs : s.size ≤ maxLen) (hk0 : k0 ≤ s.size) (hv : Tells w v p) :
  Calls Tryz.prog 99 #[.string s, .int .i64 (k0 : Int), v] w fun e w' => e = .returned (.int .i64 (pastN p s k0 : Nat)) ∧ w' = w := by
 unfold maxLen at hs
 obtain ⟨f, caps, rfl, ef, hf⟩ := hv
 have hf := hf w (Below.refl _ _)
 have Hf := hide hf
 clear hf
 go_enter Tryz.func99, Tryz.ntmps99
 go_wp2
 go_loopw [1] (fun i wr => ∃ k : Nat, k ≤ s.size ∧ i = .int .i64 k ∧ pastN p s k = pastN p s k0 ∧ wr = w) (fun i _ => s.size - (intOf i).toNat)
 case atStart => exact ⟨k0, hk0, rfl, rfl, rfl⟩
 case round =>
  obtain ⟨k, hk, rfl, he, rfl⟩ := hrel; have HE := hide he; clear he
  by_cases hlt : k < s.size
  ·
   cases hp : p (s[k].toNat : Int)
   ·
    have hst := hide (pastN_stop p s k hlt hp); have HP := hide hp; clear hp; go_wp2_with fail; refine Calls.mono (unhide Hf _) ?_; rw [HP.out]; rintro e w' ⟨rfl, rfl⟩; go_wp2_with fail; go_ret
    exact ⟨ret_int (by rw [← HE.out, hst.out]), rfl⟩
   ·
    have hst := hide (pastN_go p s k hlt hp); have HP := hide hp; clear hp; go_wp2_with fail; refine Calls.mono (unhide Hf _) ?_; rw [HP.out]; rintro e w' ⟨rfl, rfl⟩; go_wp2_with fail
    go_roundw
    case rel => exact ⟨k + 1, by omega, by go_num, by rw [hst.out, HE.out], by trivial⟩
    case measure => simp [intOf]; omega
  ·
   have hst := hide (pastN_end p s k (by omega)); go_wp2_with fail; go_ret; exact ⟨ret_int (by rw [← HE.out, hst.out]), rfl⟩
def isIn (ws : List ByteArray) (s : ByteArray) : Bool := ws.any (fun x => x.toList == s.toList)
section
variable (ws : List ByteArray) (s : ByteArray) (k : Nat) (h : k < ws.length)
include ws s k h
theorem isIn_take_succ (h0 : isIn (ws.take k) s = false) (h1 : (ws[k].toList == s.toList) = false) : isIn (ws.take (k + 1)) s = false := by
 unfold isIn at *
 rw [List.take_succ_eq_append_getElem h, List.any_append, h0]
 simpa using h1
theorem isIn_hit (h1 : (ws[k].toList == s.toList) = true) : isIn ws s = true := by
 unfold isIn
 exact List.any_eq_true.2 ⟨ws[k], List.getElem_mem h, h1⟩
end
theorem has_any (a : Addr) (cap : Nat) (ws : List ByteArray) (s : ByteArray) (w : World) (hn : ws.length ≤ 1000)
  (hc : ∀ i, i < ws.length → w.cell? (a.add i) = some (.string (ws.getD i ByteArray.empty))) :
  Calls Tryz.prog 53 #[.slice (some a) ws.length cap, .string s] w fun e w' => e = .returned (.bool (isIn ws s)) ∧ w' = w := by
 go_enter Tryz.func53, Tryz.ntmps53
 go_wp2
 go_loop [6, 9] (fun _ i => ∃ k : Nat, k ≤ ws.length ∧ i = .int .i64 k ∧ isIn (ws.take k) s = false) (fun _ i => ws.length - (intOf i).toNat)
 case atStart => exact ⟨0, Nat.zero_le _, rfl, rfl⟩
 case round =>
  obtain ⟨k, hk, rfl, he⟩ := hrel; have HE := hide he; clear he
  by_cases hlt : k < ws.length
  ·
   have hck := hc k hlt; clear hc
   go_wp2
   ·
    go_ret; exact ⟨ret_bool (isIn_hit ws s k hlt ‹_›).symm, rfl⟩
   ·
    exact ⟨⟨k + 1, by omega, by go_num, isIn_take_succ ws s k hlt HE.out ‹_›⟩, by simp [intOf]; omega⟩
  ·
   clear hc; exact zbfz
theorem idx53 (cs : Array Value) (k : Nat) (hk : k < 19) (x : ByteArray) (hx : cs[k]? = some (.string x)) (w : World) :
  (Instr.index 257 (.agg cs) (.int .i64 (k : Int))).run Tryz.prog w = .ok (.string x) w := by
 simp [Instr.index, run_underlying Tryz.underlying257, asIntOf, go_sem, hk, hx]
theorem isWord_any (ws : List ByteArray) (s : ByteArray) (w : World) (hn : ws.length = 19) (t : TypeId) (fr : Nat × Nat)
  (hg : w.heap[6]? = some (.cells (ws.map Value.string).toArray t fr)) :
  Calls Tryz.prog 235 #[.string s] w fun e w' => e = .returned (.bool (isIn ws s)) ∧ w' = w := by
 obtain ⟨cs, hcs⟩ : ∃ cs, cs = (ws.map Value.string).toArray := ⟨_, rfl⟩
 rw [← hcs] at hg
 have hsz : cs.size = 19 := by rw [hcs]; simpa using hn
 have hix : ∀ k : Nat, k < 19 → ∀ W, (Instr.index 257 (.agg cs) (.int .i64 (k : Int))).run Tryz.prog W = .ok (.string (ws.getD k ByteArray.empty)) W := fun k hk W =>
  idx53 cs k hk _ (by rw [hcs]; simp [hn, hk]) W
 have HIX := hide hix
 have Hcs := hide hcs
 have Hsz := hide hsz
 have Hg := hide hg
 clear hix hcs hsz hg
 go_enter Tryz.func235, Tryz.ntmps235
 go_wp2_with (refine wpList_load_row rfl 257 _ rfl 6 rfl t cs fr _ Hg.out Tryz.underlying257 rfl (by rw [Hsz.out]; kernel_rfl) ?_)
 go_loop [4, 6] (fun _ i => ∃ k : Nat, k ≤ 19 ∧ i = .int .i64 k ∧ isIn (ws.take k) s = false) (fun _ i => 19 - (intOf i).toNat)
 case atStart => exact ⟨0, Nat.zero_le _, rfl, rfl⟩
 case round =>
  obtain ⟨k, hk, rfl, he⟩ := hrel; have HE := hide he; clear he
  by_cases hlt : k < 19
  ·
   have hck := unhide HIX k hlt
   go_wp2
   ·
    go_ret; exact ⟨ret_bool (isIn_hit ws s k (by omega) (by rw [BEq.comm]; assumption)).symm, rfl⟩
   ·
    exact ⟨⟨k + 1, by omega, by go_num, isIn_take_succ ws s k (by omega) HE.out (by rw [BEq.comm]; assumption)⟩, by simp [intOf]; omega⟩
  ·
   exact zbfz
theorem refIsWord_any (a : Addr) (cap : Nat) (ws : List ByteArray) (s : ByteArray) (w : World) (hn : ws.length = 19)
  (hg : w.cell? ⟨4, 0, none⟩ = some (.slice (some a) 19 cap))
  (hc : ∀ i, i < ws.length → w.cell? (a.add i) = some (.string (ws.getD i ByteArray.empty))) :
  Calls Tryz.prog 135 #[.string s] w fun e w' => e = .returned (.bool (isIn ws s)) ∧ w' = w := by
 have HC := hide hc
 have HN := hide hn
 clear hc hn
 go_enter Tryz.func135, Tryz.ntmps135
 go_wp2_with fail
 have hh := has_any a cap ws s w (by rw [HN.out]; omega) HC.out
 rw [HN.out] at hh
 refine hh.mono ?_
 rintro e w' ⟨rfl, rfl⟩
 go_wp2_with fail
 go_ret
 exact ⟨rfl, rfl⟩
end Go.Proofs.YtoimgcjbcbhclaaGreatDoor
namespace Go.Proofs.YtoimgcjbcbhclaaGreatDoor
open Go.ChangeShapes Go.WideShapes Go.ChangeAt Go.WideMaps Go.WideElems Go.RowKit
def ofBytes (l : List UInt8) : ByteArray := ⟨l.toArray⟩
def wordsL : List (List UInt8) := [[118, 97, 114], [108, 101, 116], [99, 111, 110, 115, 116], [102, 117, 110, 99, 116, 105, 111, 110], [105, 102], [101, 108, 115, 101], [119, 104, 105, 108, 101], [119, 105, 116, 104], [114, 101, 116, 117, 114, 110], [116, 104, 114, 111, 119], [116, 114, 121], [99, 97, 116, 99, 104], [102, 105, 110, 97, 108, 108, 121], [116, 121, 112, 101, 111, 102], [100, 101, 108, 101, 116, 101], [116, 114, 117, 101], [102, 97, 108, 115, 101], [110, 117, 108, 108], [117, 110, 100, 101, 102, 105, 110, 101, 100]]
def wordsS : List ByteArray := wordsL.map ofBytes
def signsL : List (List UInt8) := [[61, 61, 61], [38, 38], [124, 124], [40], [41], [123], [125], [91], [93], [59], [58], [44], [46], [61], [43], [45], [42], [60], [33]]
def signsS : List ByteArray := signsL.map ofBytes
theorem wordsS_len : wordsS.length = 19 := rfl
theorem signsS_len : signsS.length = 19 := rfl
theorem ofBytes_eq {s : ByteArray} {l : List UInt8} (h : s.data.toList = l) : s = ofBytes l := bytes_inj (by rw [h]; rfl)
theorem at_eq (s : ByteArray) (i : Nat) (h : i < s.size) : s.data.toList.getD i 0 = s[i] := by
 have h3 : i < s.data.toList.length := by (have h4 : s.data.toList.length = s.size := by simp); omega
 rw [List.getD_eq_getElem?_getD, List.getElem?_eq_getElem h3]; rfl
end Go.Proofs.YtoimgcjbcbhclaaGreatDoor
namespace Go.Proofs.YtoimgcjbcbhclaaGreatDoor
open Go.ChangeShapes Go.WideShapes Go.ChangeAt Go.WideMaps Go.WideElems Go.RowKit
theorem ownK : ownKnob Tryz.prog.godebug = none := by kernel_rfl
theorem gWords : Tryz.prog.globalNamed "sloppyscope/lex.words" = some 6 := by kernel_rfl
theorem gRefWords : Tryz.prog.globalNamed "sloppyscope/sloppyref.words" = some 4 := by kernel_rfl
theorem gSigns : Tryz.prog.globalNamed "sloppyscope/lex.signs" = some 5 := by kernel_rfl
theorem tWords : (Tryz.prog.globals[6]?).map (·.type) = some 257 := by kernel_rfl
theorem tRefWords : (Tryz.prog.globals[4]?).map (·.type) = some 38 := by kernel_rfl
theorem tSigns : (Tryz.prog.globals[5]?).map (·.type) = some 257 := by kernel_rfl
theorem cells9 : Tryz.prog.cellsOf 9 = 1 := by kernel_rfl
theorem cells53 : Tryz.prog.cellsOf 257 = 19 := by kernel_rfl
theorem array_of_trod {W : World} {fuel : Nat} {cs : List Value} {p : List MemPlace} (L : List (List UInt8)) (hL : L.length = 19)
  (h : DataW.trod (fun _ => ()) Tryz.prog W 0 (fun _ => true) false fuel 257 cs = some (.agg (L.map fun l => .lit (.string l)), p)) : cs = (L.map ofBytes).map Value.string := by
 obtain ⟨xs, m, rfl, hx, hlen, hn, hel⟩ := DataW.trod_array Tryz.underlying257 h
 simp only [Prod.mk.injEq, DataW.agg.injEq] at hx
 rw [cells53] at hlen
 refine List.ext_getElem (by simp [hL, hlen]) fun i h1 h2 => ?_
 have hi : i < 19 := by omega
 have he := hel i hi
 rw [cells9, Nat.mul_one, List.getElem?_eq_getElem (by omega)] at he
 obtain ⟨s, e1, e2, _⟩ := DataW.trod_string Tryz.underlying9 he
 have e3 : (xs.map (·.1))[i]'(by simp [hn]; omega) = .lit (.string (L[i]'(by omega))) := by
  have e4 : (xs.map (·.1))[i]? = (L.map fun l => (DataW.lit (.string l) : DataW Unit))[i]? := by rw [hx.1]
  rw [List.getElem?_eq_getElem (by simp [hn]; omega), List.getElem?_eq_getElem (by simp; omega)] at e4
  simpa using e4
 rw [List.getElem_map, e2] at e3
 have e5 : s.data.toList = L[i]'(by omega) := by simpa using e3
 have e6 : (cs.drop i)[0]? = some (.string s) := by
  have : ((cs.drop i).take 1)[0]? = some (.string s) := by rw [e1]; rfl
  simpa using this
 rw [List.getElem?_drop, Nat.add_zero, List.getElem?_eq_getElem h1] at e6
 rw [Option.some.inj e6]
 simp [ofBytes_eq e5]
theorem heap_of_var {W : World} {n : String} {g : Nat} {cs : Array Value} (hg : Tryz.prog.globalNamed n = some g) (h : W.var? Tryz.prog n = some cs) : ∃ t fr, W.heap[g]? = some (.cells cs t fr) := by
 simp only [World.var?, hg, Option.bind_some] at h
 split at h
 ·
  rename_i cs' t fr hh
  cases h; exact ⟨t, fr, hh⟩
 ·
  cases h
theorem slice_of_trod {W : World} {fuel : Nat} {cs : List Value} {p : List MemPlace} (L : List (List UInt8))
  (h : DataW.trod (fun _ => ()) Tryz.prog W 0 (fun _ => true) false fuel 38 cs = some (.slice (L.map fun l => .lit (.string l)) [], p)) :
  ∃ a cap, cs = [.slice (some a) L.length cap] ∧ ∀ i, i < (L.map ofBytes).length → W.cell? (a.add i) = some (.string ((L.map ofBytes).getD i ByteArray.empty)) := by
 rcases open_strings Tryz.underlying38 Tryz.underlying9 cells9 h with ⟨_, hx⟩ | ⟨a, len, cap, ss, hcs, _, hl, _, hz, hx, hcell, _⟩
 ·
  simp at hx
 simp only [if_true] at hz
 simp only [Prod.mk.injEq, DataW.slice.injEq] at hx
 obtain ⟨⟨hx1, hx2⟩, _⟩ := hx
 have hsl : ss.length = len := by
  have : (strs (H := Unit) (ss.drop len)).length = 0 := by rw [← hx2]; rfl
  simp [strs] at this; omega
 rw [List.take_of_length_le (by omega)] at hx1
 have hss : ss = L.map ofBytes := by
  refine List.ext_getElem (by have := congrArg List.length hx1; simpa [strs] using this.symm) fun i h1 h2 => ?_
  have e4 : (L.map fun l => (DataW.lit (.string l) : DataW Unit))[i]? = (strs ss)[i]? := by rw [hx1]
  simp only [List.length_map] at h2; simp [strs, h1, h2] at e4; rw [List.getElem_map]; exact ofBytes_eq e4.symm
 refine ⟨a, cap, ?_, ?_⟩
 ·
  rw [hcs]; have : L.length = len := by have := congrArg List.length hss; simp at this; omega
  rw [this]
 ·
  intro i hi; rw [← hss]; exact hcell i (by rw [hss]; exact hi)
end Go.Proofs.YtoimgcjbcbhclaaGreatDoor
namespace Go.Proofs.YtoimgcjbcbhclaaGreatDoor
open Go.RowKit
section
variable {P : Program} {md : Region.Mode} {ops : Array Oper} {Q : Exit → Act → World → Prop} {S : World → Prop} {fuel : Nat} {listed : Array Bool} {a : Act} {w : World}
theorem wt {oi : Oper} (i : Nat) (v : Value)
    (h : wpAny P md ops Q fuel (listed.setIfInBounds i true) (a.put oi.dst v) w) (hi : ops[i]? = some oi := by rfl)
    (hs : Region.noSelect ops = true := by kernel_rfl) (hf : Region.free md ops listed i = true := by kernel_rfl) (hr : (Region.ready md ops listed).contains i = true := by kernel_rfl)
    (hQ : ∀ c a w, Q (.panic c) (a.put oi.dst v) w → Q (.panic c) a w := by exact fun _ _ _ h => h) (hy : Yields P ops oi v a := by exact Or.inl ⟨by kernel_rfl, fun w => by go_simp⟩) : wpAny P md ops Q (fuel + 1) listed a w :=
  wpAny_take hi hs hf hr hQ hy h
theorem wg {oi : Oper} (i : Nat) (v : Value) (hi : ops[i]? = some oi) (hy : YieldsIf P ops S oi v a) (hS : S w)
    (h : wpAnyH P md ops Q S fuel (listed.setIfInBounds i true) (a.put oi.dst v) w)
    (hs : Region.noSelect ops = true := by kernel_rfl) (hf : Region.free md ops listed i = true := by kernel_rfl) (hr : (Region.ready md ops listed).contains i = true := by kernel_rfl)
    (hQ : ∀ c a w, Q (.panic c) (a.put oi.dst v) w → Q (.panic c) a w := by exact fun _ _ _ h => h) : wpAnyH P md ops Q S (fuel + 1) listed a w :=
  wpAnyH_take hi hs hf hr hQ hy hS h
theorem wh {oi : Oper} (i : Nat) (v : Value) (hS : S w)
    (h : wpAnyH P md ops Q S fuel (listed.setIfInBounds i true) (a.put oi.dst v) w) (hi : ops[i]? = some oi := by rfl)
    (hs : Region.noSelect ops = true := by kernel_rfl) (hf : Region.free md ops listed i = true := by kernel_rfl) (hr : (Region.ready md ops listed).contains i = true := by kernel_rfl)
    (hQ : ∀ c a w, Q (.panic c) (a.put oi.dst v) w → Q (.panic c) a w := by exact fun _ _ _ h => h) (hy : YieldsIf P ops S oi v a := by exact Or.inl ⟨by kernel_rfl, fun _ _ => by go_simp⟩) : wpAnyH P md ops Q S (fuel + 1) listed a w :=
  wpAnyH_take hi hs hf hr hQ hy hS h
theorem wr1 {o : Oper} (i : Nat)
    (h : ∀ K' : Act → World → Prop, (∀ a w, wpAny P md ops Q fuel (listed.setIfInBounds i true) a w → K' a w) → if Region.wanted o (yielded ops a.tmps) = true then Oper.wp P o a w K' Q else K' (a.put o.dst undef) w)
    (ho : ops[i]? = some o := by rfl) (hr : Region.ready md ops listed = [i] := by kernel_rfl) : wpAny P md ops Q (fuel + 1) listed a w :=
  wpAny_ready hr (by simp) (AllReady.cons ho h AllReady.nil)
theorem wr2 {o o' : Oper} (i j : Nat)
    (h : ∀ K' : Act → World → Prop, (∀ a w, wpAny P md ops Q fuel (listed.setIfInBounds i true) a w → K' a w) → if Region.wanted o (yielded ops a.tmps) = true then Oper.wp P o a w K' Q else K' (a.put o.dst undef) w)
    (h' : ∀ K' : Act → World → Prop, (∀ a w, wpAny P md ops Q fuel (listed.setIfInBounds j true) a w → K' a w) → if Region.wanted o' (yielded ops a.tmps) = true then Oper.wp P o' a w K' Q else K' (a.put o'.dst undef) w)
    (ho : ops[i]? = some o := by rfl) (ho' : ops[j]? = some o' := by rfl) (hr : Region.ready md ops listed = [i, j] := by kernel_rfl) : wpAny P md ops Q (fuel + 1) listed a w :=
  wpAny_ready hr (by simp) (AllReady.cons ho h (AllReady.cons ho' h' AllReady.nil))
theorem wq1 {o : Oper} (i : Nat)
    (h : ∀ K' : Act → World → Prop, Shut (∀ a w, S w → (S w → wpAnyH P md ops Q S fuel (listed.setIfInBounds i true) a w) → K' a w) → if Region.wanted o (yielded ops a.tmps) = true then Oper.wp P o a w K' Q else K' (a.put o.dst undef) w)
    (ho : ops[i]? = some o := by rfl) (hr : Region.ready md ops listed = [i] := by kernel_rfl) : wpAnyH P md ops Q S (fuel + 1) listed a w :=
  wpAnyH_ready hr (by simp) (AllReadyH.cons ho h AllReadyH.nil)
theorem via2 {H G : World → Nat → Prop} {goal : Prop} (h1 : (∀ wc pc, H wc pc → G wc pc) → goal) (h2 : ∀ wc pc, H wc pc → G wc pc) : goal := h1 h2
theorem wpAny_same {listed' : Array Bool} {a' : Act} (h1 : listed = listed') (h2 : a = a') (h : wpAny P md ops Q fuel listed' a' w) : wpAny P md ops Q fuel listed a w := by
  subst h1 h2; exact h
def tf (n m : Nat) : Array Bool := Array.replicate n true ++ Array.replicate m false
theorem wz {a' : Act} (n m : Nat) (h : wpAny P md ops Q fuel (tf n m) a' w) (h1 : listed = tf n m := by kernel_rfl) (h2 : a = a' := by kernel_rfl) : wpAny P md ops Q fuel listed a w := wpAny_same h1 h2 h
theorem cm {f : FuncId} {args : Array Value} {R R' : Ending → World → Prop} (h : Calls P f args w R) (hr : ∀ e w', R e w' → R' e w') : Calls P f args w R' := h.mono hr
end
theorem bcell {W w1 : World} (hb : Below W.heap.size W w1) : (∀ b o, b < W.heap.size → w1.cell? ⟨b, o, none⟩ = W.cell? ⟨b, o, none⟩) ∧ (∀ b o, b < W.heap.size → w1.frozen? ⟨b, o, none⟩ = W.frozen? ⟨b, o, none⟩) :=
 ⟨fun b o h => hb.cell (p := ⟨b, o, none⟩) h, fun b o h => hb.frozen (p := ⟨b, o, none⟩) h⟩
inductive Rd where
 | tok (kd : Int) (tx : ByteArray) (n : Int) (e : Nat)
 | bad (er : Int) (p : Nat)
abbrev noTok : Value := .agg #[.int .i64 0, .string ⟨#[]⟩, .int .i64 0, .int .i64 0]
def RPost (k : Nat) (r : Rd) (w : World) (e : Ending) (w' : World) : Prop :=
 match r with
 | .tok kd tx n e' => e = .returned (.tuple #[.agg #[.int .i64 kd, .string tx, .int .i64 n, .int .i64 (k : Int)], .int .i64 (e' : Int), .nilIface]) ∧ Below w.heap.size w w'
 | .bad er p => ∃ b, e = .returned (.tuple #[noTok, .int .i64 0, .iface 144 (.pointer (some ⟨b, 0, none⟩))]) ∧ w'.heap[b]? = some (.cells #[.int .i64 er, .int .i64 (p : Int)] 145 (0, 0)) ∧ w.heap.size ≤ b ∧ Below w.heap.size w w'
theorem bad_end {w w1 : World} {b : Nat} {o X : Obj} (hbel : Below (w.alloc o).heap.size (w.alloc o) w1) (hlb : (w.alloc o).heap.size ≤ b) (hb : w1.heap[b]? = some X) (v0 v1 v2 v3 : Value) :
  ((((w1.setCell ⟨w.heap.size, 0, none⟩ v0).setCell ⟨w.heap.size, 1, none⟩ v1).setCell ⟨w.heap.size, 2, none⟩ v2).setCell ⟨w.heap.size, 3, none⟩ v3).heap[b]? = some X ∧ w.heap.size ≤ b ∧
   Below w.heap.size w ((((w1.setCell ⟨w.heap.size, 0, none⟩ v0).setCell ⟨w.heap.size, 1, none⟩ v1).setCell ⟨w.heap.size, 2, none⟩ v2).setCell ⟨w.heap.size, 3, none⟩ v3) := by
 have hz : (w.alloc o).heap.size = w.heap.size + 1 := by simp
 have hne : b ≠ w.heap.size := by omega
 have b0 : Below w.heap.size w (w.alloc o) := (Below.refl _ _).alloc (Nat.le_refl _) _
 have b1 : Below w.heap.size w w1 := b0.trans (hbel.mono (by omega))
 refine ⟨?_, by omega, (((b1.setCell (Nat.le_refl _) _).setCell (Nat.le_refl _) _).setCell (Nat.le_refl _) _).setCell (Nat.le_refl _) _⟩
 rw [Below.heap_setCell _ _ _ _ hne, Below.heap_setCell _ _ _ _ hne, Below.heap_setCell _ _ _ _ hne, Below.heap_setCell _ _ _ _ hne]
 exact hb
theorem fail_any (er p : Int) (w : World) : Calls Tryz.prog 236 #[.int .i64 er, .int .i64 p] w fun e w' =>
  ∃ b, e = .returned (.tuple #[noTok, .int .i64 0, .iface 144 (.pointer (some ⟨b, 0, none⟩))]) ∧ w'.heap[b]? = some (.cells #[.int .i64 er, .int .i64 p] 145 (0, 0)) ∧ w.heap.size ≤ b ∧ Below w.heap.size w w' := by
 go_enter Tryz.func236, Tryz.ntmps236
 go_wp2
 refine bodyPost_ret (v := .tuple #[noTok, .int .i64 0, .iface 144 (.pointer (some ⟨w.heap.size + 1, 0, none⟩))]) (by simp [results, Tryz.results236, go_sem]) rfl ⟨_, rfl, ?_, by omega, ((Below.refl _ _).alloc (Nat.le_refl _) _).alloc (by simp) _⟩
 simpa using heap_alloc_new (w.alloc (.cells #[.int .i64 0, .string ⟨#[]⟩, .int .i64 0, .int .i64 0] 138)) (.cells #[.int .i64 er, .int .i64 p] 145)
def pfxB (x p : ByteArray) : Bool := decide (p.size ≤ x.size) && ((x.extract 0 p.size).toList == p.toList)
theorem hasPrefix_any (x p : ByteArray) (w : World) (_hx : x.size ≤ maxLen) (_hp : p.size ≤ maxLen) :
  Calls Tryz.prog 183 #[.string x, .string p] w fun e w' => e = .returned (.bool (pfxB x p)) ∧ w' = w := by
 unfold maxLen at _hx _hp
 by_cases h : p.size ≤ x.size
 all_goals
  go_enter Tryz.func183, Tryz.ntmps183
  go_wp2
  go_ret; exact ⟨ret_bool (by simp [pfxB, h]), rfl⟩
def rdSign (gs : List ByteArray) (s : ByteArray) (k : Nat) : Rd :=
 match gs.find? (fun g => pfxB (s.extract k s.size) g) with
 | some g => .tok 5 g 0 (k + g.size)
 | none => .bad 3 k
section
variable {gs : List ByteArray} {f : ByteArray → Bool}
include gs f
theorem find_hit {i : Nat} (hi : i < gs.length) (h0 : ∀ j, (hj : j < i) → f (gs[j]'(by omega)) = false) (h : f gs[i] = true) : gs.find? f = some gs[i] := by
 rw [List.find?_eq_some_iff_getElem]
 exact ⟨h, i, hi, rfl, fun j hj => by rw [h0 j hj]; rfl⟩
theorem find_none (h0 : ∀ j, (hj : j < gs.length) → f gs[j] = false) : gs.find? f = none := by
 rw [List.find?_eq_none]
 intro x hx
 obtain ⟨j, hj, rfl⟩ := List.getElem_of_mem hx
 rw [h0 j hj]; simp
end
theorem extract_size (s : ByteArray) (a b : Nat) (h1 : a ≤ b) (h2 : b ≤ s.size) : (s.extract a b).size = b - a := by
 simp; omega
theorem readSign_any (gs : List ByteArray) (s : ByteArray) (k : Nat) (w : World) (hs : s.size ≤ 3000) (hk : k < s.size) (hn : gs.length = 19) (hsz : ∀ i, i < 19 → (gs.getD i ByteArray.empty).size ≤ 3) (t : TypeId) (fr : Nat × Nat)
  (hg : w.heap[5]? = some (.cells (gs.map Value.string).toArray t fr)) :
  Calls Tryz.prog 161 #[.string s, .int .i64 (k : Int)] w (RPost k (rdSign gs s k) w) := by
 obtain ⟨cs, hcs⟩ : ∃ cs, cs = (gs.map Value.string).toArray := ⟨_, rfl⟩
 rw [← hcs] at hg
 have hsz1 : cs.size = 19 := by rw [hcs]; simpa using hn
 have hix : ∀ k : Nat, k < 19 → ∀ W, (Instr.index 257 (.agg cs) (.int .i64 (k : Int))).run Tryz.prog W = .ok (.string (gs.getD k ByteArray.empty)) W := fun k hk W =>
  idx53 cs k hk _ (by rw [hcs]; simp [hn, hk]) W
 have HIX := hide hix
 have Hcs := hide hcs
 have Hsz := hide hsz
 have Hsz1 := hide hsz1
 have Hn := hide hn
 have Hg : Hid ((w.alloc (.cells #[.int .i64 0, .string ⟨#[]⟩, .int .i64 0, .int .i64 0] 138)).heap[5]? = some (.cells cs t fr)) := by
  have hlt : 5 < w.heap.size := (Array.getElem?_eq_some_iff.1 hg).1
  show _ = _
  rw [Below.heap_alloc w _ 5 hlt]; exact hg
 clear hix hcs hsz hg hn hsz1
 go_enter Tryz.func161, Tryz.ntmps161
 go_wp2_with (refine wpList_load_row rfl 257 _ rfl 5 rfl t cs fr _ Hg.out Tryz.underlying257 rfl (by rw [Hsz1.out]; kernel_rfl) ?_)
 go_loopw [8, 10] (fun _ i wr => ∃ j : Nat, j ≤ 19 ∧ i = .int .i64 j ∧ (∀ q, q < j → pfxB (s.extract k s.size) (gs.getD q ByteArray.empty) = false) ∧ wr = w.alloc (.cells #[.int .i64 0, .string ⟨#[]⟩, .int .i64 0, .int .i64 0] 138)) (fun _ i _ => 19 - (intOf i).toNat)
 case atStart => exact ⟨0, Nat.zero_le _, rfl, fun q hq => absurd hq (Nat.not_lt_zero _), rfl⟩
 case round =>
  obtain ⟨j, hj, rfl, he, rfl⟩ := hrel; have HE := hide he; clear he
  by_cases hlt : j < 19
  ·
   have hck := unhide HIX j hlt; have hgz := unhide Hsz j hlt; obtain ⟨g, hg⟩ : ∃ g, g = gs.getD j ByteArray.empty := ⟨_, rfl⟩; rw [← hg] at hck hgz; have HGJ := hide hg; clear hg
   cases hp : pfxB (s.extract k s.size) g
   ·
    have HP := hide hp; clear hp; go_wp2_with fail; refine (hasPrefix_any _ _ _ (by unfold maxLen; simp; omega) (by unfold maxLen; omega)).mono ?_
    rw [HP.out]; rintro e w' ⟨rfl, rfl⟩; go_wp2_with fail
    go_roundw
    case rel => exact ⟨j + 1, by omega, by go_num, fun q hq => by (by_cases hqj : q = j); (rw [hqj, ← HGJ.out]; exact HP.out); exact unhide HE q (by omega), by trivial⟩
    case measure => simp [intOf]; omega
   ·
    have HP := hide hp; clear hp; go_wp2_with fail; refine (hasPrefix_any _ _ _ (by unfold maxLen; simp; omega) (by unfold maxLen; omega)).mono ?_
    rw [HP.out]; rintro e w' ⟨rfl, rfl⟩; go_wp2_with fail; have hr : rdSign gs s k = .tok 5 g 0 (k + g.size) := by
     unfold rdSign; have hgj : g = gs[j]'(by rw [Hn.out]; exact hlt) := by rw [HGJ.out, List.getD_eq_getElem?_getD, List.getElem?_eq_getElem (by rw [Hn.out]; exact hlt)]; rfl
     rw [find_hit (i := j) (by rw [Hn.out]; exact hlt) (fun q hq => by
      have := unhide HE q hq; rw [List.getD_eq_getElem?_getD, List.getElem?_eq_getElem (by rw [Hn.out]; omega)] at this
      exact this) (by rw [← hgj]; exact HP.out), ← hgj]
    rw [hr]
    exact bodyPost_ret (v := .tuple #[.agg #[.int .i64 5, .string g, .int .i64 0, .int .i64 (k : Int)], .int .i64 ((k : Int) + (g.size : Int)), .nilIface]) (by simp [results, Tryz.results161, go_sem]) rfl ⟨by simp, (Below.refl _ _).alloc (Nat.le_refl _) _⟩
  ·
   go_wp2_with fail; refine (fail_any _ _ _).mono ?_; rintro e w1 ⟨b, rfl, hb, hlb, hbel⟩; obtain ⟨hc, hf⟩ := bcell hbel; have HB := hide hb; have HBEL := hide hbel; clear hb hbel; go_wp2_with fail
   have hr : rdSign gs s k = .bad 3 k := by
    unfold rdSign; rw [find_none (fun q hq => by
     have := unhide HE q (by rw [Hn.out] at hq; omega)
     rw [List.getD_eq_getElem?_getD, List.getElem?_eq_getElem hq] at this; exact this)]
   rw [hr]; exact bodyPost_ret (v := .tuple #[noTok, .int .i64 0, .iface 144 (.pointer (some ⟨b, 0, none⟩))]) (by simp [results, Tryz.results161, go_sem, hc]) rfl ⟨b, rfl, bad_end HBEL.out hlb HB.out _ _ _ _⟩
end Go.Proofs.YtoimgcjbcbhclaaGreatDoor
