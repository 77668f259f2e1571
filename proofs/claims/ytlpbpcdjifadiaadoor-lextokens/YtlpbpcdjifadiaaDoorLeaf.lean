/-
  Walks of the small functions that tell a byte's kind: letters, digits, sets; a teller is a closure; 'Tells' says what it answers in every later world.
-/
import Derived.Test.YtlpbpcdjifadiaaDoorProg
import Derived.WalkKit
import Derived.WalkSpells
import Derived.WalkLawsBesides
import Derived.Lib.Bytealg
namespace Go.Proofs.YtlpbpcdjifadiaaDoor
open Go.RowKit

def btwB (lo hi c : Int) : Bool := decide (lo ≤ c) && decide (c ≤ hi)
def letB (c : Int) : Bool := btwB 97 122 c || c == 95
def digB (c : Int) : Bool := btwB 48 57 c
def lodB (c : Int) : Bool := letB c || digB c
def inB (s : List UInt8) (c : Int) : Bool := decide (0 ≤ Lib.indexByte s c.toNat.toUInt8)

theorem hide {p : Prop} (h : p) : Hid p := h
theorem unhide {p : Prop} (h : Hid p) : p := h
theorem ret_bool {a b : Bool} (h : a = b) : Ending.returned (.bool a) = .returned (.bool b) := by rw [h]

set_option maxHeartbeats 400000 in
theorem isLetter_any (c : Int) (w : World) :
    Calls Tryd.prog 15 #[.int .u8 c] w fun e w' => e = .returned (.bool (letB c)) ∧ w' = w := by
  go_enter Tryd.func15, Tryd.ntmps15
  go_wp2
  all_goals go_ret
  all_goals refine ⟨ret_bool ?_, rfl⟩
  all_goals simp [letB, btwB, *]
  all_goals omega

set_option maxHeartbeats 400000 in
theorem isDigit_any (c : Int) (w : World) :
    Calls Tryd.prog 16 #[.int .u8 c] w fun e w' => e = .returned (.bool (digB c)) ∧ w' = w := by
  go_enter Tryd.func16, Tryd.ntmps16
  go_wp2
  all_goals go_ret
  all_goals refine ⟨ret_bool ?_, rfl⟩
  all_goals (simp [digB, btwB, *]; try omega)

set_option maxHeartbeats 400000 in
theorem between1_any (c lo hi : Int) (p q : Addr) (w : World) (h1 : w.cell? p = some (.int .u8 lo)) (h2 : w.cell? q = some (.int .u8 hi)) :
    Calls Tryd.prog 49 #[.int .u8 c, .pointer (some p), .pointer (some q)] w fun e w' => e = .returned (.bool (btwB lo hi c)) ∧ w' = w := by
  go_enter Tryd.func49, Tryd.ntmps49
  go_wp2
  all_goals go_ret
  all_goals refine ⟨ret_bool ?_, rfl⟩
  all_goals (simp [btwB, *]; try omega)

theorem ib_run (s : ByteArray) (c : Int) (w : World) : (callFunc 54 #[.string s, .int .u8 c]).run Tryd.prog w = .ok (.value (.int .i64 (Lib.indexByte s.data.toList c.toNat.toUInt8))) w := by
  rw [run_callFunc_extern Tryd.func54 (by kernel_rfl) (by kernel_rfl) (by kernel_rfl) (e := Extern.BytealgIndexByte.indexByte) (by kernel_rfl), Lib.run_indexByteString]
  rfl

set_option maxHeartbeats 400000 in
theorem among1_any (c : Int) (p : Addr) (s : ByteArray) (w : World) (h1 : w.cell? p = some (.string s)) :
    Calls Tryd.prog 29 #[.int .u8 c, .pointer (some p)] w fun e w' => e = .returned (.bool (inB s.data.toList c)) ∧ w' = w := by
  have hib := ib_run s c
  go_enter Tryd.func29, Tryd.ntmps29
  go_wp2
  go_ret
  exact ⟨ret_bool (by simp [inB]), rfl⟩

theorem en29 : ∀ args W, (callFunc 29 args).run Tryd.prog W = .ok (.enter 29 args) W := fun _ _ => by kernel_rfl
theorem en48 : ∀ args W, (callFunc 48 args).run Tryd.prog W = .ok (.enter 48 args) W := fun _ _ => by kernel_rfl
theorem en49 : ∀ args W, (callFunc 49 args).run Tryd.prog W = .ok (.enter 49 args) W := fun _ _ => by kernel_rfl

/-- A value is a teller of p: in every later world it is a function that answers so and leaves the world as it was. -/
def Tells (w : World) (v : Value) (p : Int → Bool) : Prop :=
  ∃ f caps, v = .func (.func f) #[] caps ∧ (∀ args W, (callFunc f args).run Tryd.prog W = .ok (.enter f args) W) ∧ ∀ W, Below w.heap.size w W → ∀ b : UInt8, Calls Tryd.prog f (#[.int .u8 (b.toNat : Int)] ++ caps) W fun e W' => e = .returned (.bool (p (b.toNat : Int))) ∧ W' = W

theorem Tells.later {w w' : World} {v : Value} {p : Int → Bool} (h : Tells w v p) (hb : Below w.heap.size w w') : Tells w' v p := by
  obtain ⟨f, caps, rfl, he, h⟩ := h
  exact ⟨f, caps, rfl, he, fun W hW c => h W (hb.trans (hW.mono hb.size)) c⟩

theorem cell_later2 {w W : World} {b o : Nat} {v : Value} (hb : Below w.heap.size w W) (h : w.cell? ⟨b, o, none⟩ = some v) (hlt : b < w.heap.size) : W.cell? ⟨b, o, none⟩ = some v := by
  rw [hb.cell (p := ⟨b, o, none⟩) hlt]; exact h

theorem mf_run : ∀ (fn : Fn) (first cap : Array Value) (w : World), (Instr.makeFunc fn first cap).run Tryd.prog w = .ok (.func fn first cap) w := fun _ _ _ _ => rfl

set_option maxHeartbeats 400000 in
theorem between_any (lo hi : Int) (w : World) :
    Calls Tryd.prog 38 #[.int .u8 lo, .int .u8 hi] w fun e w' => ∃ v, e = .returned v ∧ Tells w' v (btwB lo hi) ∧ Below w.heap.size w w' := by
  have hmf := mf_run
  go_enter Tryd.func38, Tryd.ntmps38
  go_wp2
  go_ret
  refine ⟨_, rfl, ⟨49, _, rfl, en49, fun W hW c => ?_⟩, ((Below.refl _ _).alloc (Nat.le_refl _) _).alloc (by simp) _⟩
  refine between1_any _ lo hi _ _ W ?_ ?_
  · exact cell_later2 hW (by simp [World.cell?_alloc_past, World.cell?_alloc_at]) (by simp; omega)
  · exact cell_later2 hW (by simp [World.cell?_alloc_at]) (by simp)

set_option maxHeartbeats 400000 in
theorem among_any (s : ByteArray) (w : World) :
    Calls Tryd.prog 19 #[.string s] w fun e w' => ∃ v, e = .returned v ∧ Tells w' v (inB s.data.toList) ∧ Below w.heap.size w w' := by
  have hmf := mf_run
  go_enter Tryd.func19, Tryd.ntmps19
  go_wp2
  go_ret
  refine ⟨_, rfl, ⟨29, _, rfl, en29, fun W hW c => ?_⟩, (Below.refl _ _).alloc (Nat.le_refl _) _⟩
  refine among1_any _ _ s W ?_
  exact cell_later2 hW (by simp [World.cell?_alloc_at]) (by simp)

set_option maxHeartbeats 400000 in
theorem either1_any (c : Int) (p q : Addr) (f g : Nat) (cf cg : Array Value) (P Q : Int → Bool) (w : World) (ef : ∀ args W, (callFunc f args).run Tryd.prog W = .ok (.enter f args) W) (eg : ∀ args W, (callFunc g args).run Tryd.prog W = .ok (.enter g args) W) (h1 : w.cell? p = some (.func (.func f) #[] cf)) (h2 : w.cell? q = some (.func (.func g) #[] cg))
    (hf : Calls Tryd.prog f (#[.int .u8 c] ++ cf) w fun e w' => e = .returned (.bool (P c)) ∧ w' = w)
    (hg : Calls Tryd.prog g (#[.int .u8 c] ++ cg) w fun e w' => e = .returned (.bool (Q c)) ∧ w' = w) :
    Calls Tryd.prog 48 #[.int .u8 c, .pointer (some p), .pointer (some q)] w fun e w' => e = .returned (.bool (P c || Q c)) ∧ w' = w := by
  have Hf : Hid _ := hf
  have Hg : Hid _ := hg
  clear hf hg
  cases hP : P c
  · go_enter Tryd.func48, Tryd.ntmps48
    go_wp2_with fail
    refine Calls.mono Hf.out ?_
    rw [hP]
    rintro e w' ⟨rfl, rfl⟩
    go_wp2_with fail
    refine Calls.mono Hg.out ?_
    rintro e w' ⟨rfl, rfl⟩
    go_wp2_with fail
    go_ret
    exact ⟨ret_bool (by simp), rfl⟩
  · go_enter Tryd.func48, Tryd.ntmps48
    go_wp2_with fail
    refine Calls.mono Hf.out ?_
    rw [hP]
    rintro e w' ⟨rfl, rfl⟩
    go_wp2_with fail
    go_ret
    exact ⟨ret_bool (by simp), rfl⟩

set_option maxHeartbeats 400000 in
theorem either_any (u v : Value) (P Q : Int → Bool) (w : World) (hu : Tells w u P) (hv : Tells w v Q) :
    Calls Tryd.prog 37 #[u, v] w fun e w' => ∃ x, e = .returned x ∧ Tells w' x (fun c => P c || Q c) ∧ Below w.heap.size w w' := by
  have hmf := mf_run
  obtain ⟨f, cf, rfl, ef, hf⟩ := hu
  obtain ⟨g, cg, rfl, eg, hg⟩ := hv
  have Hf := hide hf
  have Hg := hide hg
  clear hf hg
  go_enter Tryd.func37, Tryd.ntmps37
  go_wp2
  go_ret
  have hb : Below w.heap.size w ((w.alloc (.cells #[.func (.func f) #[] cf] 45)).alloc (.cells #[.func (.func g) #[] cg] 45)) := ((Below.refl _ _).alloc (Nat.le_refl _) _).alloc (by simp) _
  refine ⟨_, rfl, ⟨48, _, rfl, en48, fun W hW c => ?_⟩, hb⟩
  have hWw := hb.trans (hW.mono hb.size)
  refine either1_any _ _ _ f g cf cg P Q W ef eg ?_ ?_ (unhide Hf W hWw c) (unhide Hg W hWw c)
  · exact cell_later2 hW (by simp [World.cell?_alloc_past, World.cell?_alloc_at]) (by simp; omega)
  · exact cell_later2 hW (by simp [World.cell?_alloc_at]) (by simp)

set_option maxHeartbeats 400000 in
theorem digit_any (w : World) : Calls Tryd.prog 32 #[] w fun e w' => ∃ x, e = .returned x ∧ Tells w' x digB ∧ Below w.heap.size w w' := by
  go_enter Tryd.func32, Tryd.ntmps32
  go_wp2_with fail
  refine (between_any 48 57 _).mono ?_
  rintro e w' ⟨x, rfl, hx, hb⟩
  have HX := hide hx
  have HB := hide hb
  clear hx hb
  go_wp2_with fail
  go_ret
  exact ⟨x, rfl, unhide HX, unhide HB⟩

theorem Tells.congr {w : World} {v : Value} {p q : Int → Bool} (h : Tells w v p) (e : ∀ b : UInt8, p (b.toNat : Int) = q (b.toNat : Int)) : Tells w v q := by
  obtain ⟨f, caps, rfl, he, h⟩ := h
  exact ⟨f, caps, rfl, he, fun W hW b => by rw [← e b]; exact h W hW b⟩

theorem inB_under (b : UInt8) : inB [95] (b.toNat : Int) = ((b.toNat : Int) == 95) := by
  have key : ∀ m : Fin 256, inB [95] ((m.val : Nat) : Int) = (((m.val : Nat) : Int) == 95) := by decide +kernel
  exact key ⟨b.toNat, b.toNat_lt⟩

def gapB (c : Int) : Bool := c == 32 || c == 10
theorem inB_gap (b : UInt8) : inB [32, 10] (b.toNat : Int) = gapB (b.toNat : Int) := by
  have key : ∀ m : Fin 256, inB [32, 10] ((m.val : Nat) : Int) = gapB ((m.val : Nat) : Int) := by decide +kernel
  exact key ⟨b.toNat, b.toNat_lt⟩

set_option maxHeartbeats 400000 in
theorem letter_any (w : World) : Calls Tryd.prog 23 #[] w fun e w' => ∃ x, e = .returned x ∧ Tells w' x letB ∧ Below w.heap.size w w' := by
  go_enter Tryd.func23, Tryd.ntmps23
  go_wp2_with fail
  refine (between_any 97 122 _).mono ?_
  rintro e w1 ⟨x, rfl, hx, hb⟩
  have HX := hide hx
  have HB := hide hb
  clear hx hb
  go_wp2_with fail
  refine (among_any _ _).mono ?_
  rintro e w2 ⟨y, rfl, hy, hb2⟩
  have HY := hide hy
  have HB2 := hide hb2
  clear hy hb2
  go_wp2_with fail
  refine (either_any x y _ _ _ ((unhide HX).later (unhide HB2)) (unhide HY)).mono ?_
  rintro e w3 ⟨z, rfl, hz, hb3⟩
  have HZ := hide hz
  have HB3 := hide hb3
  clear hz hb3
  go_wp2_with fail
  go_ret
  refine ⟨z, rfl, (unhide HZ).congr (fun b => by show (_ || inB [95] _) = _; rw [inB_under]; rfl), ?_⟩
  have b1 := unhide HB
  have b2 := unhide HB2
  have b3 := unhide HB3
  exact (b1.trans (b2.mono b1.size)).trans (b3.mono (Nat.le_trans b1.size b2.size))

set_option maxHeartbeats 400000 in
theorem lod_any (w : World) : Calls Tryd.prog 24 #[] w fun e w' => ∃ x, e = .returned x ∧ Tells w' x lodB ∧ Below w.heap.size w w' := by
  go_enter Tryd.func24, Tryd.ntmps24
  go_wp2_with fail
  refine (letter_any _).mono ?_
  rintro e w1 ⟨x, rfl, hx, hb⟩
  have HX := hide hx
  have HB := hide hb
  clear hx hb
  go_wp2_with fail
  refine (digit_any _).mono ?_
  rintro e w2 ⟨y, rfl, hy, hb2⟩
  have HY := hide hy
  have HB2 := hide hb2
  clear hy hb2
  go_wp2_with fail
  refine (either_any x y _ _ _ ((unhide HX).later (unhide HB2)) (unhide HY)).mono ?_
  rintro e w3 ⟨z, rfl, hz, hb3⟩
  have HZ := hide hz
  have HB3 := hide hb3
  clear hz hb3
  go_wp2_with fail
  go_ret
  refine ⟨z, rfl, (unhide HZ).congr (fun b => rfl), ?_⟩
  have b1 := unhide HB
  have b2 := unhide HB2
  have b3 := unhide HB3
  exact (b1.trans (b2.mono b1.size)).trans (b3.mono (Nat.le_trans b1.size b2.size))

/-- The first place from k on whose byte is of another kind, or the end. -/
def pastN (p : Int → Bool) (s : ByteArray) (k : Nat) : Nat := k + ((s.data.toList.drop k).takeWhile (fun b => p (b.toNat : Int))).length

theorem pastN_le (p : Int → Bool) (s : ByteArray) (k : Nat) (h : k ≤ s.size) : pastN p s k ≤ s.size := by
  unfold pastN
  have h1 := ((List.takeWhile_prefix (l := s.data.toList.drop k) (fun b => p (b.toNat : Int))).length_le)
  have h2 : (s.data.toList.drop k).length = s.size - k := by simp
  omega

theorem pastN_go (p : Int → Bool) (s : ByteArray) (k : Nat) (h : k < s.size) (hp : p (s[k].toNat : Int) = true) : pastN p s (k + 1) = pastN p s k := by
  unfold pastN
  have hk : k < s.data.toList.length := by simpa using h
  have e : s.data.toList.drop k = s[k] :: s.data.toList.drop (k + 1) := List.drop_eq_getElem_cons hk
  rw [e, List.takeWhile_cons, if_pos hp, List.length_cons]; omega

theorem pastN_stop (p : Int → Bool) (s : ByteArray) (k : Nat) (h : k < s.size) (hp : p (s[k].toNat : Int) = false) : pastN p s k = k := by
  unfold pastN
  have hk : k < s.data.toList.length := by simpa using h
  have e : s.data.toList.drop k = s[k] :: s.data.toList.drop (k + 1) := List.drop_eq_getElem_cons hk
  rw [e, List.takeWhile_cons, if_neg (by rw [hp]; simp)]; rfl

theorem pastN_end (p : Int → Bool) (s : ByteArray) (k : Nat) (h : s.size ≤ k) : pastN p s k = k := by
  unfold pastN
  rw [List.drop_of_length_le (by simpa using h)]; rfl

theorem ret_int {k : IntKind} {a b : Int} (h : a = b) : Ending.returned (.int k a) = .returned (.int k b) := by rw [h]

set_option maxHeartbeats 400000 in
theorem past_any (s : ByteArray) (k0 : Nat) (v : Value) (p : Int → Bool) (w : World) (hs : s.size ≤ maxLen) (hk0 : k0 ≤ s.size) (hv : Tells w v p) :
    Calls Tryd.prog 20 #[.string s, .int .i64 (k0 : Int), v] w fun e w' => e = .returned (.int .i64 (pastN p s k0 : Nat)) ∧ w' = w := by
  unfold maxLen at hs
  obtain ⟨f, caps, rfl, ef, hf⟩ := hv
  have hf := hf w (Below.refl _ _)
  have Hf := hide hf
  clear hf
  go_enter Tryd.func20, Tryd.ntmps20
  go_wp2
  go_loopw [1] (fun i wr => ∃ k : Nat, k ≤ s.size ∧ i = .int .i64 k ∧ pastN p s k = pastN p s k0 ∧ wr = w) (fun i _ => s.size - (intOf i).toNat)
  case atStart => exact ⟨k0, hk0, rfl, rfl, rfl⟩
  case round =>
    obtain ⟨k, hk, rfl, he, rfl⟩ := hrel
    have HE := hide he
    clear he
    by_cases hlt : k < s.size
    · cases hp : p (s[k].toNat : Int)
      · have hst := hide (pastN_stop p s k hlt hp)
        have HP := hide hp
        clear hp
        go_wp2_with fail
        refine Calls.mono (unhide Hf _) ?_
        rw [unhide HP]
        rintro e w' ⟨rfl, rfl⟩
        go_wp2_with fail
        go_ret
        exact ⟨ret_int (by rw [← unhide HE, unhide hst]), rfl⟩
      · have hst := hide (pastN_go p s k hlt hp)
        have HP := hide hp
        clear hp
        go_wp2_with fail
        refine Calls.mono (unhide Hf _) ?_
        rw [unhide HP]
        rintro e w' ⟨rfl, rfl⟩
        go_wp2_with fail
        go_roundw
        case rel => exact ⟨k + 1, by omega, by go_num, by rw [unhide hst, unhide HE], by trivial⟩
        case measure => simp [intOf]; omega
    · have hst := hide (pastN_end p s k (by omega))
      go_wp2_with fail
      go_ret
      exact ⟨ret_int (by rw [← unhide HE, unhide hst]), rfl⟩

end Go.Proofs.YtlpbpcdjifadiaaDoor
