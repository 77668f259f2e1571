/-
  Joined out of Leaf, Word, Pre, Laid, Read, ReadA, Atoi, ReadB, Str, ReadS.
-/
import Derived.Test.YtoliilffjojfcaaGreatDoorProg
import Derived.WalkKit
import Derived.WalkSpells
import Derived.WalkLawsBesides
import Derived.Lib.Bytealg
import Derived.Laws.Rows
import Derived.ProofKit
import Derived.OpenShut
import Derived.Stop.Joined
import Derived.Test.YtoliilffjojfcaaGreatDoorRows
import Derived.LaidMore
import Derived.Laws.IdiomStrings
import Derived.Laws.BytesArg
/-
  Leaf: Walks of the small functions that tell a byte's kind: letters, digits, sets; a teller is a closure; 'Tells' says what it answers in every later world.
-/
namespace Go.Proofs.YtoliilffjojfcaaGreatDoor
open Go.RowKit

def btwB (lo hi c : Int) : Bool := decide (lo ≤ c) && decide (c ≤ hi)
def letB (c : Int) : Bool := btwB 97 122 c || c == 95
def digB (c : Int) : Bool := btwB 48 57 c
def lodB (c : Int) : Bool := letB c || digB c
def inB (s : List UInt8) (c : Int) : Bool := decide (0 ≤ Lib.indexByte s c.toNat.toUInt8)

theorem hide {p : Prop} (h : p) : Hid p := h
theorem unhide {p : Prop} (h : Hid p) : p := h
theorem ret_bool {a b : Bool} (h : a = b) : Ending.returned (.bool a) = .returned (.bool b) := by rw [h]

set_option maxHeartbeats 400000 in
theorem isLetter_any (c : Int) (w : World) :
    Calls Tryz.prog 69 #[.int .u8 c] w fun e w' => e = .returned (.bool (letB c)) ∧ w' = w := by
  go_enter Tryz.func69, Tryz.ntmps69
  go_wp2
  all_goals go_ret
  all_goals refine ⟨ret_bool ?_, rfl⟩
  all_goals simp [letB, btwB, *]
  all_goals omega

set_option maxHeartbeats 400000 in
theorem isDigit_any (c : Int) (w : World) :
    Calls Tryz.prog 70 #[.int .u8 c] w fun e w' => e = .returned (.bool (digB c)) ∧ w' = w := by
  go_enter Tryz.func70, Tryz.ntmps70
  go_wp2
  all_goals go_ret
  all_goals refine ⟨ret_bool ?_, rfl⟩
  all_goals (simp [digB, btwB, *]; try omega)

set_option maxHeartbeats 400000 in
theorem between1_any (c lo hi : Int) (p q : Addr) (w : World) (h1 : w.cell? p = some (.int .u8 lo)) (h2 : w.cell? q = some (.int .u8 hi)) :
    Calls Tryz.prog 214 #[.int .u8 c, .pointer (some p), .pointer (some q)] w fun e w' => e = .returned (.bool (btwB lo hi c)) ∧ w' = w := by
  go_enter Tryz.func214, Tryz.ntmps214
  go_wp2
  all_goals go_ret
  all_goals refine ⟨ret_bool ?_, rfl⟩
  all_goals (simp [btwB, *]; try omega)

theorem ib_run (s : ByteArray) (c : Int) (w : World) : (callFunc 212 #[.string s, .int .u8 c]).run Tryz.prog w = .ok (.value (.int .i64 (Lib.indexByte s.data.toList c.toNat.toUInt8))) w := by
  rw [run_callFunc_extern Tryz.func212 (by kernel_rfl) (by kernel_rfl) (by kernel_rfl) (e := Extern.BytealgIndexByte.indexByte) (by kernel_rfl), Lib.run_indexByteString]
  rfl

set_option maxHeartbeats 400000 in
theorem among1_any (c : Int) (p : Addr) (s : ByteArray) (w : World) (h1 : w.cell? p = some (.string s)) :
    Calls Tryz.prog 118 #[.int .u8 c, .pointer (some p)] w fun e w' => e = .returned (.bool (inB s.data.toList c)) ∧ w' = w := by
  have hib := ib_run s c
  go_enter Tryz.func118, Tryz.ntmps118
  go_wp2
  go_ret
  exact ⟨ret_bool (by simp [inB]), rfl⟩

theorem en29 : ∀ args W, (callFunc 118 args).run Tryz.prog W = .ok (.enter 118 args) W := fun _ _ => by kernel_rfl
theorem en48 : ∀ args W, (callFunc 213 args).run Tryz.prog W = .ok (.enter 213 args) W := fun _ _ => by kernel_rfl
theorem en49 : ∀ args W, (callFunc 214 args).run Tryz.prog W = .ok (.enter 214 args) W := fun _ _ => by kernel_rfl

/-- A value is a teller of p: in every later world it is a function that answers so and leaves the world as it was. -/
def Tells (w : World) (v : Value) (p : Int → Bool) : Prop :=
  ∃ f caps, v = .func (.func f) #[] caps ∧ (∀ args W, (callFunc f args).run Tryz.prog W = .ok (.enter f args) W) ∧ ∀ W, Below w.heap.size w W → ∀ b : UInt8, Calls Tryz.prog f (#[.int .u8 (b.toNat : Int)] ++ caps) W fun e W' => e = .returned (.bool (p (b.toNat : Int))) ∧ W' = W

theorem Tells.later {w w' : World} {v : Value} {p : Int → Bool} (h : Tells w v p) (hb : Below w.heap.size w w') : Tells w' v p := by
  obtain ⟨f, caps, rfl, he, h⟩ := h
  exact ⟨f, caps, rfl, he, fun W hW c => h W (hb.trans (hW.mono hb.size)) c⟩

theorem cell_later2 {w W : World} {b o : Nat} {v : Value} (hb : Below w.heap.size w W) (h : w.cell? ⟨b, o, none⟩ = some v) (hlt : b < w.heap.size) : W.cell? ⟨b, o, none⟩ = some v := by
  rw [hb.cell (p := ⟨b, o, none⟩) hlt]; exact h

theorem mf_run : ∀ (fn : Fn) (first cap : Array Value) (w : World), (Instr.makeFunc fn first cap).run Tryz.prog w = .ok (.func fn first cap) w := fun _ _ _ _ => rfl

set_option maxHeartbeats 400000 in
theorem between_any (lo hi : Int) (w : World) :
    Calls Tryz.prog 169 #[.int .u8 lo, .int .u8 hi] w fun e w' => ∃ v, e = .returned v ∧ Tells w' v (btwB lo hi) ∧ Below w.heap.size w w' := by
  have hmf := mf_run
  go_enter Tryz.func169, Tryz.ntmps169
  go_wp2
  go_ret
  refine ⟨_, rfl, ⟨214, _, rfl, en49, fun W hW c => ?_⟩, ((Below.refl _ _).alloc (Nat.le_refl _) _).alloc (by simp) _⟩
  refine between1_any _ lo hi _ _ W ?_ ?_
  · exact cell_later2 hW (by simp [World.cell?_alloc_past, World.cell?_alloc_at]) (by simp; omega)
  · exact cell_later2 hW (by simp [World.cell?_alloc_at]) (by simp)

set_option maxHeartbeats 400000 in
theorem among_any (s : ByteArray) (w : World) :
    Calls Tryz.prog 84 #[.string s] w fun e w' => ∃ v, e = .returned v ∧ Tells w' v (inB s.data.toList) ∧ Below w.heap.size w w' := by
  have hmf := mf_run
  go_enter Tryz.func84, Tryz.ntmps84
  go_wp2
  go_ret
  refine ⟨_, rfl, ⟨118, _, rfl, en29, fun W hW c => ?_⟩, (Below.refl _ _).alloc (Nat.le_refl _) _⟩
  refine among1_any _ _ s W ?_
  exact cell_later2 hW (by simp [World.cell?_alloc_at]) (by simp)

set_option maxHeartbeats 400000 in
theorem either1_any (c : Int) (p q : Addr) (f g : Nat) (cf cg : Array Value) (P Q : Int → Bool) (w : World) (ef : ∀ args W, (callFunc f args).run Tryz.prog W = .ok (.enter f args) W) (eg : ∀ args W, (callFunc g args).run Tryz.prog W = .ok (.enter g args) W) (h1 : w.cell? p = some (.func (.func f) #[] cf)) (h2 : w.cell? q = some (.func (.func g) #[] cg))
    (hf : Calls Tryz.prog f (#[.int .u8 c] ++ cf) w fun e w' => e = .returned (.bool (P c)) ∧ w' = w)
    (hg : Calls Tryz.prog g (#[.int .u8 c] ++ cg) w fun e w' => e = .returned (.bool (Q c)) ∧ w' = w) :
    Calls Tryz.prog 213 #[.int .u8 c, .pointer (some p), .pointer (some q)] w fun e w' => e = .returned (.bool (P c || Q c)) ∧ w' = w := by
  have Hf : Hid _ := hf
  have Hg : Hid _ := hg
  clear hf hg
  cases hP : P c
  · go_enter Tryz.func213, Tryz.ntmps213
    go_wp2_with fail
    refine Calls.mono Hf.out ?_
    rw [hP]
    rintro e w' ⟨rfl, rfl⟩
    go_wp2_with fail
    refine Calls.mono Hg.out ?_
    rintro e w' ⟨rfl, rfl⟩
    go_wp2_with fail
    go_ret
    exact ⟨ret_bool (by simp), rfl⟩
  · go_enter Tryz.func213, Tryz.ntmps213
    go_wp2_with fail
    refine Calls.mono Hf.out ?_
    rw [hP]
    rintro e w' ⟨rfl, rfl⟩
    go_wp2_with fail
    go_ret
    exact ⟨ret_bool (by simp), rfl⟩

set_option maxHeartbeats 400000 in
theorem either_any (u v : Value) (P Q : Int → Bool) (w : World) (hu : Tells w u P) (hv : Tells w v Q) :
    Calls Tryz.prog 168 #[u, v] w fun e w' => ∃ x, e = .returned x ∧ Tells w' x (fun c => P c || Q c) ∧ Below w.heap.size w w' := by
  have hmf := mf_run
  obtain ⟨f, cf, rfl, ef, hf⟩ := hu
  obtain ⟨g, cg, rfl, eg, hg⟩ := hv
  have Hf := hide hf
  have Hg := hide hg
  clear hf hg
  go_enter Tryz.func168, Tryz.ntmps168
  go_wp2
  go_ret
  have hb : Below w.heap.size w ((w.alloc (.cells #[.func (.func f) #[] cf] 110)).alloc (.cells #[.func (.func g) #[] cg] 110)) := ((Below.refl _ _).alloc (Nat.le_refl _) _).alloc (by simp) _
  refine ⟨_, rfl, ⟨213, _, rfl, en48, fun W hW c => ?_⟩, hb⟩
  have hWw := hb.trans (hW.mono hb.size)
  refine either1_any _ _ _ f g cf cg P Q W ef eg ?_ ?_ (unhide Hf W hWw c) (unhide Hg W hWw c)
  · exact cell_later2 hW (by simp [World.cell?_alloc_past, World.cell?_alloc_at]) (by simp; omega)
  · exact cell_later2 hW (by simp [World.cell?_alloc_at]) (by simp)

set_option maxHeartbeats 400000 in
theorem digit_any (w : World) : Calls Tryz.prog 122 #[] w fun e w' => ∃ x, e = .returned x ∧ Tells w' x digB ∧ Below w.heap.size w w' := by
  go_enter Tryz.func122, Tryz.ntmps122
  go_wp2_with fail
  refine (between_any 48 57 _).mono ?_
  rintro e w' ⟨x, rfl, hx, hb⟩
  have HX := hide hx
  have HB := hide hb
  clear hx hb
  go_wp2_with fail
  go_ret
  exact ⟨x, rfl, unhide HX, unhide HB⟩

theorem Tells.congr {w : World} {v : Value} {p q : Int → Bool} (h : Tells w v p) (e : ∀ b : UInt8, p (b.toNat : Int) = q (b.toNat : Int)) : Tells w v q := by
  obtain ⟨f, caps, rfl, he, h⟩ := h
  exact ⟨f, caps, rfl, he, fun W hW b => by rw [← e b]; exact h W hW b⟩

theorem inB_under (b : UInt8) : inB [95] (b.toNat : Int) = ((b.toNat : Int) == 95) := by
  have key : ∀ m : Fin 256, inB [95] ((m.val : Nat) : Int) = (((m.val : Nat) : Int) == 95) := by decide +kernel
  exact key ⟨b.toNat, b.toNat_lt⟩

def gapB (c : Int) : Bool := c == 32 || c == 10
theorem inB_gap (b : UInt8) : inB [32, 10] (b.toNat : Int) = gapB (b.toNat : Int) := by
  have key : ∀ m : Fin 256, inB [32, 10] ((m.val : Nat) : Int) = gapB ((m.val : Nat) : Int) := by decide +kernel
  exact key ⟨b.toNat, b.toNat_lt⟩

set_option maxHeartbeats 400000 in
theorem letter_any (w : World) : Calls Tryz.prog 120 #[] w fun e w' => ∃ x, e = .returned x ∧ Tells w' x letB ∧ Below w.heap.size w w' := by
  go_enter Tryz.func120, Tryz.ntmps120
  go_wp2_with fail
  refine (between_any 97 122 _).mono ?_
  rintro e w1 ⟨x, rfl, hx, hb⟩
  have HX := hide hx
  have HB := hide hb
  clear hx hb
  go_wp2_with fail
  refine (among_any _ _).mono ?_
  rintro e w2 ⟨y, rfl, hy, hb2⟩
  have HY := hide hy
  have HB2 := hide hb2
  clear hy hb2
  go_wp2_with fail
  refine (either_any x y _ _ _ ((unhide HX).later (unhide HB2)) (unhide HY)).mono ?_
  rintro e w3 ⟨z, rfl, hz, hb3⟩
  have HZ := hide hz
  have HB3 := hide hb3
  clear hz hb3
  go_wp2_with fail
  go_ret
  refine ⟨z, rfl, (unhide HZ).congr (fun b => by show (_ || inB [95] _) = _; rw [inB_under]; rfl), ?_⟩
  have b1 := unhide HB
  have b2 := unhide HB2
  have b3 := unhide HB3
  exact (b1.trans (b2.mono b1.size)).trans (b3.mono (Nat.le_trans b1.size b2.size))

set_option maxHeartbeats 400000 in
theorem lod_any (w : World) : Calls Tryz.prog 170 #[] w fun e w' => ∃ x, e = .returned x ∧ Tells w' x lodB ∧ Below w.heap.size w w' := by
  go_enter Tryz.func170, Tryz.ntmps170
  go_wp2_with fail
  refine (letter_any _).mono ?_
  rintro e w1 ⟨x, rfl, hx, hb⟩
  have HX := hide hx
  have HB := hide hb
  clear hx hb
  go_wp2_with fail
  refine (digit_any _).mono ?_
  rintro e w2 ⟨y, rfl, hy, hb2⟩
  have HY := hide hy
  have HB2 := hide hb2
  clear hy hb2
  go_wp2_with fail
  refine (either_any x y _ _ _ ((unhide HX).later (unhide HB2)) (unhide HY)).mono ?_
  rintro e w3 ⟨z, rfl, hz, hb3⟩
  have HZ := hide hz
  have HB3 := hide hb3
  clear hz hb3
  go_wp2_with fail
  go_ret
  refine ⟨z, rfl, (unhide HZ).congr (fun b => rfl), ?_⟩
  have b1 := unhide HB
  have b2 := unhide HB2
  have b3 := unhide HB3
  exact (b1.trans (b2.mono b1.size)).trans (b3.mono (Nat.le_trans b1.size b2.size))

/-- The first place from k on whose byte is of another kind, or the end. -/
def pastN (p : Int → Bool) (s : ByteArray) (k : Nat) : Nat := k + ((s.data.toList.drop k).takeWhile (fun b => p (b.toNat : Int))).length

theorem pastN_le (p : Int → Bool) (s : ByteArray) (k : Nat) (h : k ≤ s.size) : pastN p s k ≤ s.size := by
  unfold pastN
  have h1 := ((List.takeWhile_prefix (l := s.data.toList.drop k) (fun b => p (b.toNat : Int))).length_le)
  have h2 : (s.data.toList.drop k).length = s.size - k := by simp
  omega

theorem pastN_go (p : Int → Bool) (s : ByteArray) (k : Nat) (h : k < s.size) (hp : p (s[k].toNat : Int) = true) : pastN p s (k + 1) = pastN p s k := by
  unfold pastN
  have hk : k < s.data.toList.length := by simpa using h
  have e : s.data.toList.drop k = s[k] :: s.data.toList.drop (k + 1) := List.drop_eq_getElem_cons hk
  rw [e, List.takeWhile_cons, if_pos hp, List.length_cons]; omega

theorem pastN_stop (p : Int → Bool) (s : ByteArray) (k : Nat) (h : k < s.size) (hp : p (s[k].toNat : Int) = false) : pastN p s k = k := by
  unfold pastN
  have hk : k < s.data.toList.length := by simpa using h
  have e : s.data.toList.drop k = s[k] :: s.data.toList.drop (k + 1) := List.drop_eq_getElem_cons hk
  rw [e, List.takeWhile_cons, if_neg (by rw [hp]; simp)]; rfl

theorem pastN_end (p : Int → Bool) (s : ByteArray) (k : Nat) (h : s.size ≤ k) : pastN p s k = k := by
  unfold pastN
  rw [List.drop_of_length_le (by simpa using h)]; rfl

theorem ret_int {k : IntKind} {a b : Int} (h : a = b) : Ending.returned (.int k a) = .returned (.int k b) := by rw [h]

set_option maxHeartbeats 400000 in
theorem past_any (s : ByteArray) (k0 : Nat) (v : Value) (p : Int → Bool) (w : World) (hs : s.size ≤ maxLen) (hk0 : k0 ≤ s.size) (hv : Tells w v p) :
    Calls Tryz.prog 85 #[.string s, .int .i64 (k0 : Int), v] w fun e w' => e = .returned (.int .i64 (pastN p s k0 : Nat)) ∧ w' = w := by
  unfold maxLen at hs
  obtain ⟨f, caps, rfl, ef, hf⟩ := hv
  have hf := hf w (Below.refl _ _)
  have Hf := hide hf
  clear hf
  go_enter Tryz.func85, Tryz.ntmps85
  go_wp2
  go_loopw [1] (fun i wr => ∃ k : Nat, k ≤ s.size ∧ i = .int .i64 k ∧ pastN p s k = pastN p s k0 ∧ wr = w) (fun i _ => s.size - (intOf i).toNat)
  case atStart => exact ⟨k0, hk0, rfl, rfl, rfl⟩
  case round =>
    obtain ⟨k, hk, rfl, he, rfl⟩ := hrel
    have HE := hide he
    clear he
    by_cases hlt : k < s.size
    · cases hp : p (s[k].toNat : Int)
      · have hst := hide (pastN_stop p s k hlt hp)
        have HP := hide hp
        clear hp
        go_wp2_with fail
        refine Calls.mono (unhide Hf _) ?_
        rw [unhide HP]
        rintro e w' ⟨rfl, rfl⟩
        go_wp2_with fail
        go_ret
        exact ⟨ret_int (by rw [← unhide HE, unhide hst]), rfl⟩
      · have hst := hide (pastN_go p s k hlt hp)
        have HP := hide hp
        clear hp
        go_wp2_with fail
        refine Calls.mono (unhide Hf _) ?_
        rw [unhide HP]
        rintro e w' ⟨rfl, rfl⟩
        go_wp2_with fail
        go_roundw
        case rel => exact ⟨k + 1, by omega, by go_num, by rw [unhide hst, unhide HE], by trivial⟩
        case measure => simp [intOf]; omega
    · have hst := hide (pastN_end p s k (by omega))
      go_wp2_with fail
      go_ret
      exact ⟨ret_int (by rw [← unhide HE, unhide hst]), rfl⟩

end Go.Proofs.YtoliilffjojfcaaGreatDoor

/-
  Word: Walks of IsWord (the project's, an array's loop) and of IsWord and has (the reference's, a slice's loop): each answers whether the text is on the list.
-/
namespace Go.Proofs.YtoliilffjojfcaaGreatDoor
open Go.RowKit

def isIn (ws : List ByteArray) (s : ByteArray) : Bool := ws.any (fun x => x.toList == s.toList)

theorem isIn_take_zero (ws : List ByteArray) (s : ByteArray) : isIn (ws.take 0) s = false := rfl
theorem isIn_take_succ (ws : List ByteArray) (s : ByteArray) (k : Nat) (h : k < ws.length) (h0 : isIn (ws.take k) s = false) (h1 : (ws[k].toList == s.toList) = false) : isIn (ws.take (k + 1)) s = false := by
  unfold isIn at *
  rw [List.take_succ_eq_append_getElem h, List.any_append, h0]
  simpa using h1
theorem isIn_hit (ws : List ByteArray) (s : ByteArray) (k : Nat) (h : k < ws.length) (h1 : (ws[k].toList == s.toList) = true) : isIn ws s = true := by
  unfold isIn
  exact List.any_eq_true.2 ⟨ws[k], List.getElem_mem h, h1⟩

set_option maxHeartbeats 400000 in
theorem has_any (a : Addr) (cap : Nat) (ws : List ByteArray) (s : ByteArray) (w : World) (hn : ws.length ≤ 1000)
    (hc : ∀ i, i < ws.length → w.cell? (a.add i) = some (.string (ws.getD i ByteArray.empty))) :
    Calls Tryz.prog 61 #[.slice (some a) ws.length cap, .string s] w fun e w' => e = .returned (.bool (isIn ws s)) ∧ w' = w := by
  go_enter Tryz.func61, Tryz.ntmps61
  go_wp2
  go_loop [6, 9] (fun _ i => ∃ k : Nat, k ≤ ws.length ∧ i = .int .i64 k ∧ isIn (ws.take k) s = false) (fun _ i => ws.length - (intOf i).toNat)
  case atStart => exact ⟨0, Nat.zero_le _, rfl, rfl⟩
  case round =>
    obtain ⟨k, hk, rfl, he⟩ := hrel
    have HE := hide he
    clear he
    by_cases hlt : k < ws.length
    · have hck := hc k hlt
      clear hc
      go_wp2
      · go_ret
        exact ⟨ret_bool (isIn_hit ws s k hlt ‹_›).symm, rfl⟩
      · exact ⟨⟨k + 1, by omega, by go_num, isIn_take_succ ws s k hlt (unhide HE) ‹_›⟩, by simp [intOf]; omega⟩
    · clear hc
      go_wp2
      go_ret
      exact ⟨ret_bool (by have := unhide HE; rw [List.take_of_length_le (by omega)] at this; exact this.symm), rfl⟩

theorem idx53 (cs : Array Value) (k : Nat) (hk : k < 19) (x : ByteArray) (hx : cs[k]? = some (.string x)) (w : World) :
    (Instr.index 197 (.agg cs) (.int .i64 (k : Int))).run Tryz.prog w = .ok (.string x) w := by
  simp [Instr.index, run_underlying Tryz.underlying197, asIntOf, go_sem, hk, hx]

set_option maxHeartbeats 400000 in
theorem isWord_any (ws : List ByteArray) (s : ByteArray) (w : World) (hn : ws.length = 19) (t : TypeId) (fr : Nat × Nat)
    (hg : w.heap[8]? = some (.cells (ws.map Value.string).toArray t fr)) :
    Calls Tryz.prog 171 #[.string s] w fun e w' => e = .returned (.bool (isIn ws s)) ∧ w' = w := by
  obtain ⟨cs, hcs⟩ : ∃ cs, cs = (ws.map Value.string).toArray := ⟨_, rfl⟩
  rw [← hcs] at hg
  have hsz : cs.size = 19 := by rw [hcs]; simpa using hn
  have hix : ∀ k : Nat, k < 19 → ∀ W, (Instr.index 197 (.agg cs) (.int .i64 (k : Int))).run Tryz.prog W = .ok (.string (ws.getD k ByteArray.empty)) W := fun k hk W =>
    idx53 cs k hk _ (by rw [hcs]; simp [hn, hk]) W
  have HIX := hide hix
  have Hcs := hide hcs
  have Hsz := hide hsz
  have Hg := hide hg
  clear hix hcs hsz hg
  go_enter Tryz.func171, Tryz.ntmps171
  go_wp2_with (refine wpList_load_row rfl 197 _ rfl 8 rfl t cs fr _ (unhide Hg) Tryz.underlying197 rfl (by rw [unhide Hsz]; kernel_rfl) ?_)
  go_loop [4, 6] (fun _ i => ∃ k : Nat, k ≤ 19 ∧ i = .int .i64 k ∧ isIn (ws.take k) s = false) (fun _ i => 19 - (intOf i).toNat)
  case atStart => exact ⟨0, Nat.zero_le _, rfl, rfl⟩
  case round =>
    obtain ⟨k, hk, rfl, he⟩ := hrel
    have HE := hide he
    clear he
    by_cases hlt : k < 19
    · have hck := unhide HIX k hlt
      go_wp2
      · go_ret
        exact ⟨ret_bool (isIn_hit ws s k (by omega) (by rw [BEq.comm]; assumption)).symm, rfl⟩
      · exact ⟨⟨k + 1, by omega, by go_num, isIn_take_succ ws s k (by omega) (unhide HE) (by rw [BEq.comm]; assumption)⟩, by simp [intOf]; omega⟩
    · go_wp2
      go_ret
      exact ⟨ret_bool (by have := unhide HE; rw [List.take_of_length_le (by omega)] at this; exact this.symm), rfl⟩

set_option maxHeartbeats 400000 in
theorem refIsWord_any (a : Addr) (cap : Nat) (ws : List ByteArray) (s : ByteArray) (w : World) (hn : ws.length = 19)
    (hg : w.cell? ⟨2, 0, none⟩ = some (.slice (some a) 19 cap))
    (hc : ∀ i, i < ws.length → w.cell? (a.add i) = some (.string (ws.getD i ByteArray.empty))) :
    Calls Tryz.prog 71 #[.string s] w fun e w' => e = .returned (.bool (isIn ws s)) ∧ w' = w := by
  have HC := hide hc
  have HN := hide hn
  clear hc hn
  go_enter Tryz.func71, Tryz.ntmps71
  go_wp2_with fail
  have hh := has_any a cap ws s w (by rw [unhide HN]; omega) (unhide HC)
  rw [unhide HN] at hh
  refine hh.mono ?_
  rintro e w' ⟨rfl, rfl⟩
  go_wp2_with fail
  go_ret
  exact ⟨rfl, rfl⟩

end Go.Proofs.YtoliilffjojfcaaGreatDoor

/-
  Pre: The words and signs of the language, byte by byte.
-/
namespace Go.Proofs.YtoliilffjojfcaaGreatDoor
open Go.ChangeShapes Go.WideShapes Go.ChangeAt Go.WideMaps Go.WideElems Go.RowKit

def ofBytes (l : List UInt8) : ByteArray := ⟨l.toArray⟩
def wordsL : List (List UInt8) := [[118, 97, 114], [108, 101, 116], [99, 111, 110, 115, 116], [102, 117, 110, 99, 116, 105, 111, 110], [105, 102], [101, 108, 115, 101], [119, 104, 105, 108, 101], [119, 105, 116, 104], [114, 101, 116, 117, 114, 110], [116, 104, 114, 111, 119], [116, 114, 121], [99, 97, 116, 99, 104], [102, 105, 110, 97, 108, 108, 121], [116, 121, 112, 101, 111, 102], [100, 101, 108, 101, 116, 101], [116, 114, 117, 101], [102, 97, 108, 115, 101], [110, 117, 108, 108], [117, 110, 100, 101, 102, 105, 110, 101, 100]]
def wordsS : List ByteArray := wordsL.map ofBytes
def signsL : List (List UInt8) := [[61, 61, 61], [38, 38], [124, 124], [40], [41], [123], [125], [91], [93], [59], [58], [44], [46], [61], [43], [45], [42], [60], [33]]
def signsS : List ByteArray := signsL.map ofBytes
theorem wordsS_len : wordsS.length = 19 := rfl
theorem signsS_len : signsS.length = 19 := rfl

theorem ofBytes_eq {s : ByteArray} {l : List UInt8} (h : s.data.toList = l) : s = ofBytes l := bytes_inj (by rw [h]; rfl)

theorem at_eq (s : ByteArray) (i : Nat) (h : i < s.size) : s.data.toList.getD i 0 = s[i] := by
  have h3 : i < s.data.toList.length := by (have h4 : s.data.toList.length = s.size := by simp); omega
  rw [List.getD_eq_getElem?_getD, List.getElem?_eq_getElem h3]; rfl

end Go.Proofs.YtoliilffjojfcaaGreatDoor

/-
  Laid: What the row's list of package variables gives the walks: the two lists of words, cell by cell.
-/
namespace Go.Proofs.YtoliilffjojfcaaGreatDoor
open Go.ChangeShapes Go.WideShapes Go.ChangeAt Go.WideMaps Go.WideElems Go.RowKit

theorem ownK : ownKnob Tryz.prog.godebug = none := by kernel_rfl
theorem gWords : Tryz.prog.globalNamed "sloppyscope/lex.words" = some 8 := by kernel_rfl
theorem gRefWords : Tryz.prog.globalNamed "sloppyscope/sloppyref.words" = some 2 := by kernel_rfl
theorem gSigns : Tryz.prog.globalNamed "sloppyscope/lex.signs" = some 5 := by kernel_rfl
theorem tWords : (Tryz.prog.globals[8]?).map (·.type) = some 197 := by kernel_rfl
theorem tRefWords : (Tryz.prog.globals[2]?).map (·.type) = some 54 := by kernel_rfl
theorem tSigns : (Tryz.prog.globals[5]?).map (·.type) = some 197 := by kernel_rfl
theorem cells9 : Tryz.prog.cellsOf 9 = 1 := by kernel_rfl
theorem cells53 : Tryz.prog.cellsOf 197 = 19 := by kernel_rfl

/-- An array of 19 texts that reads as listed: its cells. -/
theorem array_of_trod {W : World} {fuel : Nat} {cs : List Value} {p : List MemPlace} (L : List (List UInt8)) (hL : L.length = 19)
    (h : DataW.trod (fun _ => ()) Tryz.prog W 0 (fun _ => true) false fuel 197 cs = some (.agg (L.map fun l => .lit (.string l)), p)) : cs = (L.map ofBytes).map Value.string := by
  obtain ⟨xs, m, rfl, hx, hlen, hn, hel⟩ := DataW.trod_array Tryz.underlying197 h
  simp only [Prod.mk.injEq, DataW.agg.injEq] at hx
  rw [cells53] at hlen
  refine List.ext_getElem (by simp [hL, hlen]) fun i h1 h2 => ?_
  have hi : i < 19 := by omega
  have he := hel i hi
  rw [cells9, Nat.mul_one, List.getElem?_eq_getElem (by omega)] at he
  obtain ⟨s, e1, e2, _⟩ := DataW.trod_string Tryz.underlying9 he
  have e3 : (xs.map (·.1))[i]'(by simp [hn]; omega) = .lit (.string (L[i]'(by omega))) := by
    have e4 : (xs.map (·.1))[i]? = (L.map fun l => (DataW.lit (.string l) : DataW Unit))[i]? := by rw [hx.1]
    rw [List.getElem?_eq_getElem (by simp [hn]; omega), List.getElem?_eq_getElem (by simp; omega)] at e4
    simpa using e4
  rw [List.getElem_map, e2] at e3
  have e5 : s.data.toList = L[i]'(by omega) := by simpa using e3
  have e6 : (cs.drop i)[0]? = some (.string s) := by
    have : ((cs.drop i).take 1)[0]? = some (.string s) := by rw [e1]; rfl
    simpa using this
  rw [List.getElem?_drop, Nat.add_zero, List.getElem?_eq_getElem h1] at e6
  rw [Option.some.inj e6]
  simp [ofBytes_eq e5]

theorem heap_of_var {W : World} {n : String} {g : Nat} {cs : Array Value} (hg : Tryz.prog.globalNamed n = some g) (h : W.var? Tryz.prog n = some cs) : ∃ t fr, W.heap[g]? = some (.cells cs t fr) := by
  simp only [World.var?, hg, Option.bind_some] at h
  split at h
  · rename_i cs' t fr hh
    cases h
    exact ⟨t, fr, hh⟩
  · cases h

/-- A slice of texts that reads as listed: its cell and its row. -/
theorem slice_of_trod {W : World} {fuel : Nat} {cs : List Value} {p : List MemPlace} (L : List (List UInt8))
    (h : DataW.trod (fun _ => ()) Tryz.prog W 0 (fun _ => true) false fuel 54 cs = some (.slice (L.map fun l => .lit (.string l)) [], p)) :
    ∃ a cap, cs = [.slice (some a) L.length cap] ∧ ∀ i, i < (L.map ofBytes).length → W.cell? (a.add i) = some (.string ((L.map ofBytes).getD i ByteArray.empty)) := by
  rcases open_strings Tryz.underlying54 Tryz.underlying9 cells9 h with ⟨_, hx⟩ | ⟨a, len, cap, ss, hcs, _, hl, _, hz, hx, hcell, _⟩
  · simp at hx
  simp only [if_true] at hz
  simp only [Prod.mk.injEq, DataW.slice.injEq] at hx
  obtain ⟨⟨hx1, hx2⟩, _⟩ := hx
  have hsl : ss.length = len := by
    have : (strs (H := Unit) (ss.drop len)).length = 0 := by rw [← hx2]; rfl
    simp [strs] at this; omega
  rw [List.take_of_length_le (by omega)] at hx1
  have hss : ss = L.map ofBytes := by
    refine List.ext_getElem (by have := congrArg List.length hx1; simpa [strs] using this.symm) fun i h1 h2 => ?_
    have e4 : (L.map fun l => (DataW.lit (.string l) : DataW Unit))[i]? = (strs ss)[i]? := by rw [hx1]
    simp only [List.length_map] at h2
    simp [strs, h1, h2] at e4
    rw [List.getElem_map]
    exact ofBytes_eq e4.symm
  refine ⟨a, cap, ?_, ?_⟩
  · rw [hcs]
    have : L.length = len := by have := congrArg List.length hss; simp at this; omega
    rw [this]
  · intro i hi
    rw [← hss]
    exact hcell i (by rw [hss]; exact hi)

end Go.Proofs.YtoliilffjojfcaaGreatDoor

/-
  Read: Walks of the readers of package lex: fail, escaped, HasPrefix; what a reader hands back ('RPost').
-/
namespace Go.Proofs.YtoliilffjojfcaaGreatDoor
open Go.RowKit

theorem bcell {W w1 : World} (hb : Below W.heap.size W w1) : (∀ b o, b < W.heap.size → w1.cell? ⟨b, o, none⟩ = W.cell? ⟨b, o, none⟩) ∧ (∀ b o, b < W.heap.size → w1.frozen? ⟨b, o, none⟩ = W.frozen? ⟨b, o, none⟩) :=
  ⟨fun b o h => hb.cell (p := ⟨b, o, none⟩) h, fun b o h => hb.frozen (p := ⟨b, o, none⟩) h⟩

/-- What is read at a place: a token and the place behind it, or an error and its place. -/
inductive Rd where
  | tok (kd : Int) (tx : ByteArray) (n : Int) (e : Nat)
  | bad (er : Int) (p : Nat)

abbrev noTok : Value := .agg #[.int .i64 0, .string ⟨#[]⟩, .int .i64 0, .int .i64 0]

def RPost (k : Nat) (r : Rd) (w : World) (e : Ending) (w' : World) : Prop :=
  match r with
  | .tok kd tx n e' => e = .returned (.tuple #[.agg #[.int .i64 kd, .string tx, .int .i64 n, .int .i64 (k : Int)], .int .i64 (e' : Int), .nilIface]) ∧ Below w.heap.size w w'
  | .bad er p => ∃ b, e = .returned (.tuple #[noTok, .int .i64 0, .iface 119 (.pointer (some ⟨b, 0, none⟩))]) ∧ w'.heap[b]? = some (.cells #[.int .i64 er, .int .i64 (p : Int)] 120 (0, 0)) ∧ w.heap.size ≤ b ∧ Below w.heap.size w w'

/-- Behind a failure the reader's own result cell is written once more. -/
theorem bad_end {w w1 : World} {b : Nat} {o X : Obj} (hbel : Below (w.alloc o).heap.size (w.alloc o) w1) (hlb : (w.alloc o).heap.size ≤ b) (hb : w1.heap[b]? = some X) (v0 v1 v2 v3 : Value) :
    ((((w1.setCell ⟨w.heap.size, 0, none⟩ v0).setCell ⟨w.heap.size, 1, none⟩ v1).setCell ⟨w.heap.size, 2, none⟩ v2).setCell ⟨w.heap.size, 3, none⟩ v3).heap[b]? = some X ∧ w.heap.size ≤ b ∧
      Below w.heap.size w ((((w1.setCell ⟨w.heap.size, 0, none⟩ v0).setCell ⟨w.heap.size, 1, none⟩ v1).setCell ⟨w.heap.size, 2, none⟩ v2).setCell ⟨w.heap.size, 3, none⟩ v3) := by
  have hz : (w.alloc o).heap.size = w.heap.size + 1 := by simp
  have hne : b ≠ w.heap.size := by omega
  have b0 : Below w.heap.size w (w.alloc o) := (Below.refl _ _).alloc (Nat.le_refl _) _
  have b1 : Below w.heap.size w w1 := b0.trans (hbel.mono (by omega))
  refine ⟨?_, by omega, (((b1.setCell (Nat.le_refl _) _).setCell (Nat.le_refl _) _).setCell (Nat.le_refl _) _).setCell (Nat.le_refl _) _⟩
  rw [Below.heap_setCell _ _ _ _ hne, Below.heap_setCell _ _ _ _ hne, Below.heap_setCell _ _ _ _ hne, Below.heap_setCell _ _ _ _ hne]
  exact hb

set_option maxHeartbeats 400000 in
theorem fail_any (er p : Int) (w : World) : Calls Tryz.prog 172 #[.int .i64 er, .int .i64 p] w fun e w' =>
    ∃ b, e = .returned (.tuple #[noTok, .int .i64 0, .iface 119 (.pointer (some ⟨b, 0, none⟩))]) ∧ w'.heap[b]? = some (.cells #[.int .i64 er, .int .i64 p] 120 (0, 0)) ∧ w.heap.size ≤ b ∧ Below w.heap.size w w' := by
  go_enter Tryz.func172, Tryz.ntmps172
  go_wp2
  refine bodyPost_ret (v := .tuple #[noTok, .int .i64 0, .iface 119 (.pointer (some ⟨w.heap.size + 1, 0, none⟩))]) (by simp [results, Tryz.results172, go_sem]) rfl ⟨_, rfl, ?_, by omega, ((Below.refl _ _).alloc (Nat.le_refl _) _).alloc (by simp) _⟩
  simpa using heap_alloc_new (w.alloc (.cells #[.int .i64 0, .string ⟨#[]⟩, .int .i64 0, .int .i64 0] 113)) (.cells #[.int .i64 er, .int .i64 p] 120)

/-- A text begins with another. -/
def pfxB (x p : ByteArray) : Bool := decide (p.size ≤ x.size) && ((x.extract 0 p.size).toList == p.toList)

set_option maxHeartbeats 400000 in
theorem hasPrefix_any (x p : ByteArray) (w : World) (_hx : x.size ≤ maxLen) (_hp : p.size ≤ maxLen) :
    Calls Tryz.prog 73 #[.string x, .string p] w fun e w' => e = .returned (.bool (pfxB x p)) ∧ w' = w := by
  unfold maxLen at _hx _hp
  by_cases h : p.size ≤ x.size
  · go_enter Tryz.func73, Tryz.ntmps73
    go_wp2
    go_ret
    exact ⟨ret_bool (by simp [pfxB, h]), rfl⟩
  · go_enter Tryz.func73, Tryz.ntmps73
    go_wp2
    go_ret
    exact ⟨ret_bool (by simp [pfxB, h]), rfl⟩

/-- The sign at a place: the first of the list with which the rest of the text begins. -/
def rdSign (gs : List ByteArray) (s : ByteArray) (k : Nat) : Rd :=
  match gs.find? (fun g => pfxB (s.extract k s.size) g) with
  | some g => .tok 5 g 0 (k + g.size)
  | none => .bad 3 k

theorem find_hit {gs : List ByteArray} {f : ByteArray → Bool} {i : Nat} (hi : i < gs.length) (h0 : ∀ j, (hj : j < i) → f (gs[j]'(by omega)) = false) (h : f gs[i] = true) : gs.find? f = some gs[i] := by
  rw [List.find?_eq_some_iff_getElem]
  exact ⟨h, i, hi, rfl, fun j hj => by rw [h0 j hj]; rfl⟩
theorem find_none {gs : List ByteArray} {f : ByteArray → Bool} (h0 : ∀ j, (hj : j < gs.length) → f gs[j] = false) : gs.find? f = none := by
  rw [List.find?_eq_none]
  intro x hx
  obtain ⟨j, hj, rfl⟩ := List.getElem_of_mem hx
  rw [h0 j hj]; simp

theorem extract_size (s : ByteArray) (a b : Nat) (h1 : a ≤ b) (h2 : b ≤ s.size) : (s.extract a b).size = b - a := by
  simp; omega

set_option maxRecDepth 100000 in
set_option maxHeartbeats 1000000 in
theorem readSign_any (gs : List ByteArray) (s : ByteArray) (k : Nat) (w : World) (hs : s.size ≤ 3000) (hk : k < s.size) (hn : gs.length = 19) (hsz : ∀ i, i < 19 → (gs.getD i ByteArray.empty).size ≤ 3) (t : TypeId) (fr : Nat × Nat)
    (hg : w.heap[5]? = some (.cells (gs.map Value.string).toArray t fr)) :
    Calls Tryz.prog 125 #[.string s, .int .i64 (k : Int)] w (RPost k (rdSign gs s k) w) := by
  obtain ⟨cs, hcs⟩ : ∃ cs, cs = (gs.map Value.string).toArray := ⟨_, rfl⟩
  rw [← hcs] at hg
  have hsz1 : cs.size = 19 := by rw [hcs]; simpa using hn
  have hix : ∀ k : Nat, k < 19 → ∀ W, (Instr.index 197 (.agg cs) (.int .i64 (k : Int))).run Tryz.prog W = .ok (.string (gs.getD k ByteArray.empty)) W := fun k hk W =>
    idx53 cs k hk _ (by rw [hcs]; simp [hn, hk]) W
  have HIX := hide hix
  have Hcs := hide hcs
  have Hsz := hide hsz
  have Hsz1 := hide hsz1
  have Hn := hide hn
  have Hg : Hid ((w.alloc (.cells #[.int .i64 0, .string ⟨#[]⟩, .int .i64 0, .int .i64 0] 113)).heap[5]? = some (.cells cs t fr)) := by
    have hlt : 5 < w.heap.size := (Array.getElem?_eq_some_iff.1 hg).1
    show _ = _
    rw [Below.heap_alloc w _ 5 hlt]; exact hg
  clear hix hcs hsz hg hn hsz1
  go_enter Tryz.func125, Tryz.ntmps125
  go_wp2_with (refine wpList_load_row rfl 197 _ rfl 5 rfl t cs fr _ (unhide Hg) Tryz.underlying197 rfl (by rw [unhide Hsz1]; kernel_rfl) ?_)
  go_loopw [8, 10] (fun _ i wr => ∃ j : Nat, j ≤ 19 ∧ i = .int .i64 j ∧ (∀ q, q < j → pfxB (s.extract k s.size) (gs.getD q ByteArray.empty) = false) ∧ wr = w.alloc (.cells #[.int .i64 0, .string ⟨#[]⟩, .int .i64 0, .int .i64 0] 113)) (fun _ i _ => 19 - (intOf i).toNat)
  case atStart => exact ⟨0, Nat.zero_le _, rfl, fun q hq => absurd hq (Nat.not_lt_zero _), rfl⟩
  case round =>
    obtain ⟨j, hj, rfl, he, rfl⟩ := hrel
    have HE := hide he
    clear he
    by_cases hlt : j < 19
    · have hck := unhide HIX j hlt
      have hgz := unhide Hsz j hlt
      obtain ⟨g, hg⟩ : ∃ g, g = gs.getD j ByteArray.empty := ⟨_, rfl⟩
      rw [← hg] at hck hgz
      have HGJ := hide hg
      clear hg
      cases hp : pfxB (s.extract k s.size) g
      · have HP := hide hp
        clear hp
        go_wp2_with fail
        refine (hasPrefix_any _ _ _ (by unfold maxLen; simp; omega) (by unfold maxLen; omega)).mono ?_
        rw [unhide HP]
        rintro e w' ⟨rfl, rfl⟩
        go_wp2_with fail
        go_roundw
        case rel => exact ⟨j + 1, by omega, by go_num, fun q hq => by (by_cases hqj : q = j); (rw [hqj, ← unhide HGJ]; exact unhide HP); exact unhide HE q (by omega), by trivial⟩
        case measure => simp [intOf]; omega
      · have HP := hide hp
        clear hp
        go_wp2_with fail
        refine (hasPrefix_any _ _ _ (by unfold maxLen; simp; omega) (by unfold maxLen; omega)).mono ?_
        rw [unhide HP]
        rintro e w' ⟨rfl, rfl⟩
        go_wp2_with fail
        have hr : rdSign gs s k = .tok 5 g 0 (k + g.size) := by
          unfold rdSign
          have hgj : g = gs[j]'(by rw [unhide Hn]; exact hlt) := by rw [unhide HGJ, List.getD_eq_getElem?_getD, List.getElem?_eq_getElem (by rw [unhide Hn]; exact hlt)]; rfl
          rw [find_hit (i := j) (by rw [unhide Hn]; exact hlt) (fun q hq => by
            have := unhide HE q hq
            rw [List.getD_eq_getElem?_getD, List.getElem?_eq_getElem (by rw [unhide Hn]; omega)] at this
            exact this) (by rw [← hgj]; exact unhide HP), ← hgj]
        rw [hr]
        exact bodyPost_ret (v := .tuple #[.agg #[.int .i64 5, .string g, .int .i64 0, .int .i64 (k : Int)], .int .i64 ((k : Int) + (g.size : Int)), .nilIface]) (by simp [results, Tryz.results125, go_sem]) rfl ⟨by simp, (Below.refl _ _).alloc (Nat.le_refl _) _⟩
    · go_wp2_with fail
      refine (fail_any _ _ _).mono ?_
      rintro e w1 ⟨b, rfl, hb, hlb, hbel⟩
      obtain ⟨hc, hf⟩ := bcell hbel
      have HB := hide hb
      have HBEL := hide hbel
      clear hb hbel
      go_wp2_with fail
      have hr : rdSign gs s k = .bad 3 k := by
        unfold rdSign
        rw [find_none (fun q hq => by
          have := unhide HE q (by rw [unhide Hn] at hq; omega)
          rw [List.getD_eq_getElem?_getD, List.getElem?_eq_getElem hq] at this
          exact this)]
      rw [hr]
      exact bodyPost_ret (v := .tuple #[noTok, .int .i64 0, .iface 119 (.pointer (some ⟨b, 0, none⟩))]) (by simp [results, Tryz.results125, go_sem, hc]) rfl ⟨b, rfl, bad_end (unhide HBEL) hlb (unhide HB) _ _ _ _⟩

end Go.Proofs.YtoliilffjojfcaaGreatDoor

/-
  ReadA: The walk of readName: a word, a name, or a name that is too long.
-/
namespace Go.Proofs.YtoliilffjojfcaaGreatDoor
open Go.RowKit

theorem pastN_ge (p : Int → Bool) (s : ByteArray) (k : Nat) : k ≤ pastN p s k := by unfold pastN; omega

theorem good_end {w w1 : World} {o : Obj} (hbel : Below (w.alloc o).heap.size (w.alloc o) w1) (v0 v1 v2 v3 : Value) :
      Below w.heap.size w ((((w1.setCell ⟨w.heap.size, 0, none⟩ v0).setCell ⟨w.heap.size, 1, none⟩ v1).setCell ⟨w.heap.size, 2, none⟩ v2).setCell ⟨w.heap.size, 3, none⟩ v3) := by
  have hz : (w.alloc o).heap.size = w.heap.size + 1 := by simp
  have b0 : Below w.heap.size w (w.alloc o) := (Below.refl _ _).alloc (Nat.le_refl _) _
  have b1 : Below w.heap.size w w1 := b0.trans (hbel.mono (by omega))
  exact (((b1.setCell (Nat.le_refl _) _).setCell (Nat.le_refl _) _).setCell (Nat.le_refl _) _).setCell (Nat.le_refl _) _

/-- The word or name at a place. -/
def rdName (ws : List ByteArray) (s : ByteArray) (k : Nat) : Rd :=
  if isIn ws (s.extract k (pastN lodB s k)) = true then .tok 2 (s.extract k (pastN lodB s k)) 0 (pastN lodB s k)
  else if 20 < pastN lodB s k - k then .bad 4 k
  else .tok 1 (s.extract k (pastN lodB s k)) 0 (pastN lodB s k)

abbrev O35 : Obj := .cells #[.int .i64 0, .string ⟨#[]⟩, .int .i64 0, .int .i64 0] 113

set_option maxRecDepth 100000 in
set_option maxHeartbeats 1000000 in
theorem readName_word (ws : List ByteArray) (s : ByteArray) (k e : Nat) (w : World) (hs : s.size ≤ 3000) (hk : k < s.size) (he : pastN lodB s k = e) (hke : k ≤ e) (hes : e ≤ s.size) (hw : isIn ws (s.extract k e) = true) (hn : ws.length = 19) (t : TypeId) (fr : Nat × Nat)
    (hg : w.heap[8]? = some (.cells (ws.map Value.string).toArray t fr)) :
    Calls Tryz.prog 121 #[.string s, .int .i64 (k : Int)] w (RPost k (.tok 2 (s.extract k e) 0 e) w) := by
  have hlt : 8 < w.heap.size := (Array.getElem?_eq_some_iff.1 hg).1
  have HE := hide he
  have HG := hide hg
  have HN := hide hn
  have HW := hide hw
  clear hg hn he hw
  go_enter Tryz.func121, Tryz.ntmps121
  go_wp2_with fail
  refine (lod_any _).mono ?_
  rintro e1 w1 ⟨x, rfl, hx, hbel⟩
  obtain ⟨hc, hf⟩ := bcell hbel
  have HBEL := hide hbel
  have HX := hide hx
  clear hx hbel
  go_wp2_with fail
  have hpast := past_any s k x lodB w1 (by unfold maxLen; omega) (by omega) (unhide HX)
  rw [unhide HE] at hpast
  refine hpast.mono ?_
  clear hpast
  rintro e2 w2 ⟨rfl, rfl⟩
  have HG2 : Hid (w2.heap[8]? = some (.cells (ws.map Value.string).toArray t fr)) := by
    show _ = _
    rw [(unhide HBEL).block 8 (by simp; omega), Below.heap_alloc w _ 8 hlt]; exact unhide HG
  go_wp2_with fail
  refine (isWord_any ws (s.extract k e) w2 (unhide HN) t fr (unhide HG2)).mono ?_
  rw [unhide HW]
  rintro e3 w3 ⟨rfl, rfl⟩
  go_wp2_with fail
  exact bodyPost_ret (v := .tuple #[.agg #[.int .i64 2, .string (s.extract k e), .int .i64 0, .int .i64 (k : Int)], .int .i64 (e : Int), .nilIface]) (by simp [results, Tryz.results121, go_sem, hc]) rfl ⟨rfl, good_end (unhide HBEL) _ _ _ _⟩

set_option maxRecDepth 100000 in
set_option maxHeartbeats 1000000 in
theorem readName_name (ws : List ByteArray) (s : ByteArray) (k e : Nat) (w : World) (hs : s.size ≤ 3000) (hk : k < s.size) (he : pastN lodB s k = e) (hke : k ≤ e) (hes : e ≤ s.size) (hw : isIn ws (s.extract k e) = false) (h20 : ¬ 20 < e - k) (hn : ws.length = 19) (t : TypeId) (fr : Nat × Nat)
    (hg : w.heap[8]? = some (.cells (ws.map Value.string).toArray t fr)) :
    Calls Tryz.prog 121 #[.string s, .int .i64 (k : Int)] w (RPost k (.tok 1 (s.extract k e) 0 e) w) := by
  have hlt : 8 < w.heap.size := (Array.getElem?_eq_some_iff.1 hg).1
  have HE := hide he
  have HG := hide hg
  have HN := hide hn
  have HW := hide hw
  clear hg hn he hw
  go_enter Tryz.func121, Tryz.ntmps121
  go_wp2_with fail
  refine (lod_any _).mono ?_
  rintro e1 w1 ⟨x, rfl, hx, hbel⟩
  obtain ⟨hc, hf⟩ := bcell hbel
  have HBEL := hide hbel
  have HX := hide hx
  clear hx hbel
  go_wp2_with fail
  have hpast := past_any s k x lodB w1 (by unfold maxLen; omega) (by omega) (unhide HX)
  rw [unhide HE] at hpast
  refine hpast.mono ?_
  clear hpast
  rintro e2 w2 ⟨rfl, rfl⟩
  have HG2 : Hid (w2.heap[8]? = some (.cells (ws.map Value.string).toArray t fr)) := by
    show _ = _
    rw [(unhide HBEL).block 8 (by simp; omega), Below.heap_alloc w _ 8 hlt]; exact unhide HG
  go_wp2_with fail
  refine (isWord_any ws (s.extract k e) w2 (unhide HN) t fr (unhide HG2)).mono ?_
  rw [unhide HW]
  rintro e3 w3 ⟨rfl, rfl⟩
  go_wp2_with fail
  exact bodyPost_ret (v := .tuple #[.agg #[.int .i64 1, .string (s.extract k e), .int .i64 0, .int .i64 (k : Int)], .int .i64 (e : Int), .nilIface]) (by simp [results, Tryz.results121, go_sem, hc]) rfl ⟨rfl, good_end (unhide HBEL) _ _ _ _⟩

set_option maxRecDepth 100000 in
set_option maxHeartbeats 1000000 in
theorem readName_long (ws : List ByteArray) (s : ByteArray) (k e : Nat) (w : World) (hs : s.size ≤ 3000) (hk : k < s.size) (he : pastN lodB s k = e) (hke : k ≤ e) (hes : e ≤ s.size) (hw : isIn ws (s.extract k e) = false) (h20 : 20 < e - k) (hn : ws.length = 19) (t : TypeId) (fr : Nat × Nat)
    (hg : w.heap[8]? = some (.cells (ws.map Value.string).toArray t fr)) :
    Calls Tryz.prog 121 #[.string s, .int .i64 (k : Int)] w (RPost k (.bad 4 k) w) := by
  have hlt : 8 < w.heap.size := (Array.getElem?_eq_some_iff.1 hg).1
  have HE := hide he
  have HG := hide hg
  have HN := hide hn
  have HW := hide hw
  clear hg hn he hw
  go_enter Tryz.func121, Tryz.ntmps121
  go_wp2_with fail
  refine (lod_any _).mono ?_
  rintro e1 w1 ⟨x, rfl, hx, hbel⟩
  obtain ⟨hc, hf⟩ := bcell hbel
  have HBEL := hide hbel
  have HX := hide hx
  clear hx hbel
  go_wp2_with fail
  have hpast := past_any s k x lodB w1 (by unfold maxLen; omega) (by omega) (unhide HX)
  rw [unhide HE] at hpast
  refine hpast.mono ?_
  clear hpast
  rintro e2 w2 ⟨rfl, rfl⟩
  have HG2 : Hid (w2.heap[8]? = some (.cells (ws.map Value.string).toArray t fr)) := by
    show _ = _
    rw [(unhide HBEL).block 8 (by simp; omega), Below.heap_alloc w _ 8 hlt]; exact unhide HG
  go_wp2_with fail
  refine (isWord_any ws (s.extract k e) w2 (unhide HN) t fr (unhide HG2)).mono ?_
  rw [unhide HW]
  rintro e3 w3 ⟨rfl, rfl⟩
  go_wp2_with fail
  refine (fail_any _ _ _).mono ?_
  rintro e4 w4 ⟨b, rfl, hb, hlb, hbel2⟩
  have hbel := (unhide HBEL).trans (hbel2.mono (unhide HBEL).size)
  have hlb2 := Nat.le_trans (unhide HBEL).size hlb
  clear hc hf
  obtain ⟨hc, hf⟩ := bcell hbel
  have HB := hide hb
  have HBEL2 := hide hbel
  clear hb hbel hbel2 hlb
  go_wp2_with fail
  exact bodyPost_ret (v := .tuple #[noTok, .int .i64 0, .iface 119 (.pointer (some ⟨b, 0, none⟩))]) (by simp [results, Tryz.results121, go_sem, hc]) rfl ⟨b, rfl, bad_end (unhide HBEL2) hlb2 (unhide HB) _ _ _ _⟩

theorem readName_any (ws : List ByteArray) (s : ByteArray) (k : Nat) (w : World) (hs : s.size ≤ 3000) (hk : k < s.size) (hn : ws.length = 19) (t : TypeId) (fr : Nat × Nat)
    (hg : w.heap[8]? = some (.cells (ws.map Value.string).toArray t fr)) :
    Calls Tryz.prog 121 #[.string s, .int .i64 (k : Int)] w (RPost k (rdName ws s k) w) := by
  have hke := pastN_ge lodB s k
  have hes := pastN_le lodB s k (by omega)
  cases hw : isIn ws (s.extract k (pastN lodB s k))
  · by_cases h20 : 20 < pastN lodB s k - k
    · have hr : rdName ws s k = .bad 4 k := by unfold rdName; rw [hw]; simp [h20]
      rw [hr]; exact readName_long ws s k _ w hs hk rfl hke hes hw h20 hn t fr hg
    · have hr : rdName ws s k = .tok 1 (s.extract k (pastN lodB s k)) 0 (pastN lodB s k) := by unfold rdName; rw [hw]; simp [h20]
      rw [hr]; exact readName_name ws s k _ w hs hk rfl hke hes hw h20 hn t fr hg
  · have hr : rdName ws s k = .tok 2 (s.extract k (pastN lodB s k)) 0 (pastN lodB s k) := by unfold rdName; rw [hw]; simp
    rw [hr]; exact readName_word ws s k _ w hs hk rfl hke hes hw hn t fr hg

end Go.Proofs.YtoliilffjojfcaaGreatDoor

/-
  Atoi: The walk of strconv.Atoi over one to ten digits.
-/
namespace Go.Proofs.YtoliilffjojfcaaGreatDoor
open Go.RowKit

/-- The number that digits write. -/
def numL (l : List UInt8) : Int := l.foldl (fun n b => n * 10 + ((b.toNat : Int) - 48)) 0

theorem numL_snoc (l : List UInt8) (b : UInt8) : numL (l ++ [b]) = numL l * 10 + ((b.toNat : Int) - 48) := by simp [numL, List.foldl_append]

theorem num_from (l : List UInt8) : ∀ (n : Int), 0 ≤ n → (∀ b ∈ l, digB (b.toNat : Int) = true) →
    0 ≤ l.foldl (fun n b => n * 10 + ((b.toNat : Int) - 48)) n ∧ l.foldl (fun n b => n * 10 + ((b.toNat : Int) - 48)) n < (n + 1) * 10 ^ l.length := by
  induction l with
  | nil => intro n h0 _; simp; omega
  | cons b l ih =>
    intro n h0 h
    have hb := h b (by simp)
    simp [digB, btwB] at hb
    have h1 := ih (n * 10 + ((b.toNat : Int) - 48)) (by omega) (fun c hc => h c (by simp [hc]))
    refine ⟨h1.1, Int.lt_of_lt_of_le h1.2 ?_⟩
    rw [List.length_cons, Int.pow_succ, Int.mul_comm ((10 : Int) ^ l.length) 10, ← Int.mul_assoc]
    exact Int.mul_le_mul_of_nonneg_right (by omega) (Int.pow_nonneg (by omega))

theorem numL_bound (l : List UInt8) (h : ∀ b ∈ l, digB (b.toNat : Int) = true) : 0 ≤ numL l ∧ numL l < 10 ^ l.length := by
  have h1 := num_from l 0 (Int.le_refl _) h
  refine ⟨h1.1, ?_⟩
  have h2 := h1.2
  rw [Int.zero_add, Int.one_mul] at h2
  exact h2

theorem digit_take (x : ByteArray) (hd : ∀ i, (hi : i < x.size) → digB (x[i].toNat : Int) = true) (k : Nat) : ∀ b ∈ x.data.toList.take k, digB (b.toNat : Int) = true := by
  intro b hb
  obtain ⟨i, hi, rfl⟩ := List.getElem_of_mem hb
  have hi' : i < x.data.toList.length := by simp at hi; simp; omega
  have hs : i < x.size := by have h4 : x.data.toList.length = x.size := by simp
                             omega
  rw [List.getElem_take]
  exact hd i hs

theorem take_snoc (s : ByteArray) (k : Nat) (h : k < s.size) : s.data.toList.take (k + 1) = s.data.toList.take k ++ [s[k]] := by
  rw [List.take_succ_eq_append_getElem (by simpa using h)]; rfl

theorem conv_bytes (x : ByteArray) (w : World) : ∃ cap W1, (convert 9 82 (.string x)).run Tryz.prog w = .ok (.slice (some ⟨w.heap.size, 0, none⟩) x.size cap) W1 ∧ Below w.heap.size w W1 ∧
    ∀ i, (hi : i < x.size) → W1.cell? ⟨w.heap.size, i, none⟩ = some (.int .u8 (x[i].toNat : Int)) := by
  refine ⟨_, _, run_bytes_of_string w 9 82 5 x Tryz.underlying9 Tryz.underlying82 Tryz.underlying5, ((Below.refl _ _).drew.alloc (Nat.le_refl _) _), ?_⟩
  intro i hi
  have hh := heap_alloc_new w.drew (.cells (bytesRow x (grownCap w x.size 0 5)) 5 ((bytesRow x (grownCap w x.size 0 5)).size, (bytesRow x (grownCap w x.size 0 5)).size + 1))
  have hh2 : (w.drew.alloc (.cells (bytesRow x (grownCap w x.size 0 5)) 5 ((bytesRow x (grownCap w x.size 0 5)).size, (bytesRow x (grownCap w x.size 0 5)).size + 1))).heap[w.heap.size]? = some (.cells (bytesRow x (grownCap w x.size 0 5)) 5 ((bytesRow x (grownCap w x.size 0 5)).size, (bytesRow x (grownCap w x.size 0 5)).size + 1)) := hh
  have hi2 : i < x.data.size := hi
  simp only [World.cell?, hh2]
  have h3 : (bytesRow x (grownCap w x.size 0 5))[i]? = some (.int .u8 (x[i].toNat : Int)) := by
    unfold bytesRow
    rw [Array.getElem?_append_left (by simpa using hi2), Array.getElem?_map, Array.getElem?_eq_getElem hi2]
    rfl
  simpa using h3

theorem pow10_le {n : Nat} (h : n ≤ 10) : (10 : Int) ^ n ≤ 10000000000 := by
  have : ∀ m : Fin 11, (10 : Int) ^ m.val ≤ 10000000000 := by decide
  exact this ⟨n, by omega⟩

set_option maxRecDepth 100000 in
set_option maxHeartbeats 1000000 in
theorem iatoi_any (x : ByteArray) (w : World) (h1 : 1 ≤ x.size) (h2 : x.size ≤ 10) (hd : ∀ i, (hi : i < x.size) → digB (x[i].toNat : Int) = true) :
    Calls Tryz.prog 112 #[.string x] w fun e w' => e = .returned (.tuple #[.int .i64 (numL x.data.toList), .nilIface]) ∧ Below w.heap.size w w' := by
  obtain ⟨cap, W1, hcv, hbel, hcell⟩ := conv_bytes x w
  have h0 := hd 0 h1
  simp [digB, btwB] at h0
  obtain ⟨h0a, h0b⟩ := h0
  have e45 : (((x[0].toNat : Nat) : Int) == 45) = false := beq_eq_false_iff_ne.2 (by omega)
  have e43 : (((x[0].toNat : Nat) : Int) == 43) = false := beq_eq_false_iff_ne.2 (by omega)
  have HBEL := hide hbel
  have HCELL := hide hcell
  have HD := hide hd
  clear hbel hcell hd
  go_enter Tryz.func112, Tryz.ntmps112
  go_wp2
  go_loop [6, 8, 49] (fun n _ i => ∃ k : Nat, k ≤ x.size ∧ i = .int .i64 k ∧ n = .int .i64 (numL (x.data.toList.take k))) (fun _ _ i => x.size - (intOf i).toNat)
  case atStart => exact ⟨0, Nat.zero_le _, rfl, rfl⟩
  case round =>
    obtain ⟨k, hk, rfl, rfl⟩ := hrel
    by_cases hlt : k < x.size
    · have hck := unhide HCELL k hlt
      have hdk := unhide HD k hlt
      simp [digB, btwB] at hdk
      obtain ⟨ha, hb⟩ := hdk
      have hnb := numL_bound _ (digit_take x (unhide HD) k)
      have hl : (x.data.toList.take k).length ≤ 10 := by simp; omega
      have hp := pow10_le hl
      obtain ⟨hn0, hn1⟩ := hnb
      have hn2 : numL (x.data.toList.take k) < 10000000000 := by omega
      have HS := hide (numL_snoc (x.data.toList.take k) x[k])
      have HT := hide (take_snoc x k hlt)
      obtain ⟨N, hN⟩ : ∃ N, N = numL (x.data.toList.take k) := ⟨_, rfl⟩
      rw [← hN] at hn0 hn2 ⊢
      have HN := hide hN
      clear hN hn1 hp hl
      go_wp2
      exact ⟨⟨k + 1, by omega, by go_num, by rw [unhide HT, unhide HS, ← unhide HN]⟩, by simp [intOf]; omega⟩
    · have HT : Hid (x.data.toList.take k = x.data.toList) := List.take_of_length_le (by simp; omega)
      go_wp2
      go_ret2
      refine ⟨?_, unhide HBEL⟩
      rw [unhide HT]
      rfl

end Go.Proofs.YtoliilffjojfcaaGreatDoor

/-
  ReadB: The walk of readNumber.
-/
namespace Go.Proofs.YtoliilffjojfcaaGreatDoor
open Go.RowKit

set_option maxHeartbeats 400000 in
theorem atoi_any (x : ByteArray) (w : World) (h1 : 1 ≤ x.size) (h2 : x.size ≤ 10) (hd : ∀ i, (hi : i < x.size) → digB (x[i].toNat : Int) = true) :
    Calls Tryz.prog 72 #[.string x] w fun e w' => e = .returned (.tuple #[.int .i64 (numL x.data.toList), .nilIface]) ∧ Below w.heap.size w w' := by
  have HD := hide hd
  clear hd
  go_enter Tryz.func72, Tryz.ntmps72
  go_wp2_with fail
  refine (iatoi_any x w h1 h2 (unhide HD)).mono ?_
  rintro e w1 ⟨rfl, hb⟩
  have HB := hide hb
  clear hb
  go_wp2_with fail
  go_ret2
  exact ⟨rfl, unhide HB⟩

theorem data_len (x : ByteArray) : x.data.toList.length = x.size := by simp

theorem past_in (p : Int → Bool) (s : ByteArray) : ∀ n k, n + k = s.size → ∀ i, k ≤ i → i < pastN p s k → (hi : i < s.size) → p (s[i].toNat : Int) = true
  | 0, k, e, i, h1, h2, hi => by omega
  | n + 1, k, e, i, h1, h2, hi => by
    cases hk : p ((s[k]'(by omega)).toNat : Int)
    · rw [pastN_stop p s k (by omega) hk] at h2; omega
    · by_cases hik : i = k
      · subst hik; exact hk
      · rw [← pastN_go p s k (by omega) hk] at h2
        exact past_in p s n (k + 1) (by omega) i (by omega) h2 hi

theorem extract_at (s : ByteArray) (a b i : Nat) (h1 : b ≤ s.size) (hi : i < (s.extract a b).size) : (s.extract a b)[i] = s[a + i]'(by simp at hi; omega) := by
  simp [ByteArray.getElem_extract]

/-- The number at a place. -/
def rdNum (s : ByteArray) (k : Nat) : Rd :=
  if 10 < pastN digB s k - k then .bad 3 k
  else if 1 < pastN digB s k - k ∧ (((s.data.toList.getD k 0).toNat : Nat) : Int) = 48 then .bad 3 k
  else if 1000000000 < numL (s.extract k (pastN digB s k)).data.toList then .bad 2 k
  else .tok 3 ⟨#[]⟩ (numL (s.extract k (pastN digB s k)).data.toList) (pastN digB s k)

set_option maxRecDepth 100000 in
set_option maxHeartbeats 1000000 in
theorem readNum_long (s : ByteArray) (k e : Nat) (w : World) (hs : s.size ≤ 3000) (hk : k < s.size) (he : pastN digB s k = e) (hke : k < e) (hes : e ≤ s.size) (h10 : 10 < e - k) :
    Calls Tryz.prog 123 #[.string s, .int .i64 (k : Int)] w (RPost k (.bad 3 k) w) := by
  have HE := hide he
  clear he
  go_enter Tryz.func123, Tryz.ntmps123
  go_wp2_with fail
  refine (digit_any _).mono ?_
  rintro e1 w1 ⟨x, rfl, hx, hbel⟩
  obtain ⟨hc, hf⟩ := bcell hbel
  have HBEL := hide hbel
  have HX := hide hx
  clear hx hbel
  go_wp2_with fail
  have hpast := past_any s k x digB w1 (by unfold maxLen; omega) (by omega) (unhide HX)
  rw [unhide HE] at hpast
  refine hpast.mono ?_
  clear hpast
  rintro e2 w2 ⟨rfl, rfl⟩
  go_wp2_with fail
  refine (fail_any _ _ _).mono ?_
  rintro e4 w4 ⟨b, rfl, hb, hlb, hbel2⟩
  have hbel := (unhide HBEL).trans (hbel2.mono (unhide HBEL).size)
  have hlb2 := Nat.le_trans (unhide HBEL).size hlb
  clear hc hf
  obtain ⟨hc, hf⟩ := bcell hbel
  have HB := hide hb
  have HBEL2 := hide hbel
  clear hb hbel hbel2 hlb
  go_wp2_with fail
  exact bodyPost_ret (v := .tuple #[noTok, .int .i64 0, .iface 119 (.pointer (some ⟨b, 0, none⟩))]) (by simp [results, Tryz.results123, go_sem, hc]) rfl ⟨b, rfl, bad_end (unhide HBEL2) hlb2 (unhide HB) _ _ _ _⟩

set_option maxRecDepth 100000 in
set_option maxHeartbeats 1000000 in
theorem readNum_zero (s : ByteArray) (k e : Nat) (w : World) (hs : s.size ≤ 3000) (hk : k < s.size) (he : pastN digB s k = e) (hke : k < e) (hes : e ≤ s.size) (hpos : 0 < (s.extract k e).size) (h10 : ¬ 10 < e - k) (h1 : 1 < e - k) (h48 : (((s.extract k e)[0].toNat : Int) == 48) = true) :
    Calls Tryz.prog 123 #[.string s, .int .i64 (k : Int)] w (RPost k (.bad 3 k) w) := by
  have HE := hide he
  clear he
  go_enter Tryz.func123, Tryz.ntmps123
  go_wp2_with fail
  refine (digit_any _).mono ?_
  rintro e1 w1 ⟨x, rfl, hx, hbel⟩
  obtain ⟨hc, hf⟩ := bcell hbel
  have HBEL := hide hbel
  have HX := hide hx
  clear hx hbel
  go_wp2_with fail
  have hpast := past_any s k x digB w1 (by unfold maxLen; omega) (by omega) (unhide HX)
  rw [unhide HE] at hpast
  refine hpast.mono ?_
  clear hpast
  rintro e2 w2 ⟨rfl, rfl⟩
  go_wp2_with fail
  refine (fail_any _ _ _).mono ?_
  rintro e4 w4 ⟨b, rfl, hb, hlb, hbel2⟩
  have hbel := (unhide HBEL).trans (hbel2.mono (unhide HBEL).size)
  have hlb2 := Nat.le_trans (unhide HBEL).size hlb
  clear hc hf
  obtain ⟨hc, hf⟩ := bcell hbel
  have HB := hide hb
  have HBEL2 := hide hbel
  clear hb hbel hbel2 hlb
  go_wp2_with fail
  exact bodyPost_ret (v := .tuple #[noTok, .int .i64 0, .iface 119 (.pointer (some ⟨b, 0, none⟩))]) (by simp [results, Tryz.results123, go_sem, hc]) rfl ⟨b, rfl, bad_end (unhide HBEL2) hlb2 (unhide HB) _ _ _ _⟩

set_option maxRecDepth 100000 in
set_option maxHeartbeats 1000000 in
theorem readNum_big (s : ByteArray) (k e : Nat) (w : World) (hs : s.size ≤ 3000) (hk : k < s.size) (he : pastN digB s k = e) (hke : k < e) (hes : e ≤ s.size) (hpos : 0 < (s.extract k e).size) (n : Int) (hn : numL (s.extract k e).data.toList = n) (h10 : ¬ 10 < e - k) (h1 : 1 < e - k) (h48 : (((s.extract k e)[0].toNat : Int) == 48) = false) (hb : 1000000000 < n) :
    Calls Tryz.prog 123 #[.string s, .int .i64 (k : Int)] w (RPost k (.bad 2 k) w) := by
  have HNN := hide hn
  clear hn
  have HE := hide he
  clear he
  go_enter Tryz.func123, Tryz.ntmps123
  go_wp2_with fail
  refine (digit_any _).mono ?_
  rintro e1 w1 ⟨x, rfl, hx, hbel⟩
  obtain ⟨hc, hf⟩ := bcell hbel
  have HBEL := hide hbel
  have HX := hide hx
  clear hx hbel
  go_wp2_with fail
  have hpast := past_any s k x digB w1 (by unfold maxLen; omega) (by omega) (unhide HX)
  rw [unhide HE] at hpast
  refine hpast.mono ?_
  clear hpast
  rintro e2 w2 ⟨rfl, rfl⟩
  go_wp2_with fail
  have hds : ∀ i, (hi : i < (s.extract k e).size) → digB ((s.extract k e)[i].toNat : Int) = true := fun i hi => by
    rw [extract_at s k e i hes hi]
    have hi2 : i < e - k := by rw [extract_size s k e (by omega) hes] at hi; exact hi
    exact past_in digB s (s.size - k) k (by omega) (k + i) (by omega) (by rw [unhide HE]; omega) (by omega)
  have hsz := extract_size s k e (by omega) hes
  refine (atoi_any (s.extract k e) w2 (by omega) (by omega) hds).mono ?_
  rw [unhide HNN]
  rintro e3 w3 ⟨rfl, hbel3⟩
  have hbelA := (unhide HBEL).trans (hbel3.mono (unhide HBEL).size)
  clear hc hf HBEL
  obtain ⟨hc, hf⟩ := bcell hbelA
  have HBEL := hide hbelA
  clear hbelA hbel3 hds hsz
  go_wp2_with fail
  refine (fail_any _ _ _).mono ?_
  rintro e4 w4 ⟨b, rfl, hb, hlb, hbel2⟩
  have hbel := (unhide HBEL).trans (hbel2.mono (unhide HBEL).size)
  have hlb2 := Nat.le_trans (unhide HBEL).size hlb
  clear hc hf
  obtain ⟨hc, hf⟩ := bcell hbel
  have HB := hide hb
  have HBEL2 := hide hbel
  clear hb hbel hbel2 hlb
  go_wp2_with fail
  exact bodyPost_ret (v := .tuple #[noTok, .int .i64 0, .iface 119 (.pointer (some ⟨b, 0, none⟩))]) (by simp [results, Tryz.results123, go_sem, hc]) rfl ⟨b, rfl, bad_end (unhide HBEL2) hlb2 (unhide HB) _ _ _ _⟩

set_option maxRecDepth 100000 in
set_option maxHeartbeats 1000000 in
theorem readNum_many (s : ByteArray) (k e : Nat) (w : World) (hs : s.size ≤ 3000) (hk : k < s.size) (he : pastN digB s k = e) (hke : k < e) (hes : e ≤ s.size) (hpos : 0 < (s.extract k e).size) (n : Int) (hn : numL (s.extract k e).data.toList = n) (h10 : ¬ 10 < e - k) (h1 : 1 < e - k) (h48 : (((s.extract k e)[0].toNat : Int) == 48) = false) (hb : ¬ 1000000000 < n) :
    Calls Tryz.prog 123 #[.string s, .int .i64 (k : Int)] w (RPost k (.tok 3 ⟨#[]⟩ n e) w) := by
  have HNN := hide hn
  clear hn
  have HE := hide he
  clear he
  go_enter Tryz.func123, Tryz.ntmps123
  go_wp2_with fail
  refine (digit_any _).mono ?_
  rintro e1 w1 ⟨x, rfl, hx, hbel⟩
  obtain ⟨hc, hf⟩ := bcell hbel
  have HBEL := hide hbel
  have HX := hide hx
  clear hx hbel
  go_wp2_with fail
  have hpast := past_any s k x digB w1 (by unfold maxLen; omega) (by omega) (unhide HX)
  rw [unhide HE] at hpast
  refine hpast.mono ?_
  clear hpast
  rintro e2 w2 ⟨rfl, rfl⟩
  go_wp2_with fail
  have hds : ∀ i, (hi : i < (s.extract k e).size) → digB ((s.extract k e)[i].toNat : Int) = true := fun i hi => by
    rw [extract_at s k e i hes hi]
    have hi2 : i < e - k := by rw [extract_size s k e (by omega) hes] at hi; exact hi
    exact past_in digB s (s.size - k) k (by omega) (k + i) (by omega) (by rw [unhide HE]; omega) (by omega)
  have hsz := extract_size s k e (by omega) hes
  refine (atoi_any (s.extract k e) w2 (by omega) (by omega) hds).mono ?_
  rw [unhide HNN]
  rintro e3 w3 ⟨rfl, hbel3⟩
  have hbelA := (unhide HBEL).trans (hbel3.mono (unhide HBEL).size)
  clear hc hf HBEL
  obtain ⟨hc, hf⟩ := bcell hbelA
  have HBEL := hide hbelA
  clear hbelA hbel3 hds hsz
  go_wp2_with fail
  exact bodyPost_ret (v := .tuple #[.agg #[.int .i64 3, .string ⟨#[]⟩, .int .i64 n, .int .i64 (k : Int)], .int .i64 (e : Int), .nilIface]) (by simp [results, Tryz.results123, go_sem, hc]) rfl ⟨rfl, good_end (unhide HBEL) _ _ _ _⟩

set_option maxRecDepth 100000 in
set_option maxHeartbeats 1000000 in
theorem readNum_one (s : ByteArray) (k e : Nat) (w : World) (hs : s.size ≤ 3000) (hk : k < s.size) (he : pastN digB s k = e) (hke : k < e) (hes : e ≤ s.size) (n : Int) (hn : numL (s.extract k e).data.toList = n) (h1 : ¬ 1 < e - k) (hb : ¬ 1000000000 < n) :
    Calls Tryz.prog 123 #[.string s, .int .i64 (k : Int)] w (RPost k (.tok 3 ⟨#[]⟩ n e) w) := by
  have HNN := hide hn
  clear hn
  have HE := hide he
  clear he
  go_enter Tryz.func123, Tryz.ntmps123
  go_wp2_with fail
  refine (digit_any _).mono ?_
  rintro e1 w1 ⟨x, rfl, hx, hbel⟩
  obtain ⟨hc, hf⟩ := bcell hbel
  have HBEL := hide hbel
  have HX := hide hx
  clear hx hbel
  go_wp2_with fail
  have hpast := past_any s k x digB w1 (by unfold maxLen; omega) (by omega) (unhide HX)
  rw [unhide HE] at hpast
  refine hpast.mono ?_
  clear hpast
  rintro e2 w2 ⟨rfl, rfl⟩
  go_wp2_with fail
  have hds : ∀ i, (hi : i < (s.extract k e).size) → digB ((s.extract k e)[i].toNat : Int) = true := fun i hi => by
    rw [extract_at s k e i hes hi]
    have hi2 : i < e - k := by rw [extract_size s k e (by omega) hes] at hi; exact hi
    exact past_in digB s (s.size - k) k (by omega) (k + i) (by omega) (by rw [unhide HE]; omega) (by omega)
  have hsz := extract_size s k e (by omega) hes
  refine (atoi_any (s.extract k e) w2 (by omega) (by omega) hds).mono ?_
  rw [unhide HNN]
  rintro e3 w3 ⟨rfl, hbel3⟩
  have hbelA := (unhide HBEL).trans (hbel3.mono (unhide HBEL).size)
  clear hc hf HBEL
  obtain ⟨hc, hf⟩ := bcell hbelA
  have HBEL := hide hbelA
  clear hbelA hbel3 hds hsz
  go_wp2_with fail
  exact bodyPost_ret (v := .tuple #[.agg #[.int .i64 3, .string ⟨#[]⟩, .int .i64 n, .int .i64 (k : Int)], .int .i64 (e : Int), .nilIface]) (by simp [results, Tryz.results123, go_sem, hc]) rfl ⟨rfl, good_end (unhide HBEL) _ _ _ _⟩

theorem readNum_any (s : ByteArray) (k : Nat) (w : World) (hs : s.size ≤ 3000) (hk : k < s.size) (hd : digB (s[k].toNat : Int) = true) :
    Calls Tryz.prog 123 #[.string s, .int .i64 (k : Int)] w (RPost k (rdNum s k) w) := by
  have hke : k < pastN digB s k := by rw [← pastN_go digB s k hk hd]; have := pastN_ge digB s (k + 1); omega
  have hes := pastN_le digB s k (by omega)
  have hsz := extract_size s k (pastN digB s k) (by omega) hes
  have hpos : 0 < (s.extract k (pastN digB s k)).size := by omega
  have h0 : (s.extract k (pastN digB s k))[0] = s[k] := by rw [extract_at s k _ 0 hes hpos]; rfl
  have hat := at_eq s k hk
  by_cases h10 : 10 < pastN digB s k - k
  · have hr : rdNum s k = .bad 3 k := by unfold rdNum; rw [if_pos h10]
    rw [hr]; exact readNum_long s k _ w hs hk rfl hke hes h10
  · by_cases h1 : 1 < pastN digB s k - k
    · by_cases h48 : ((s[k].toNat : Nat) : Int) = 48
      · have hr : rdNum s k = .bad 3 k := by unfold rdNum; rw [if_neg h10, if_pos ⟨h1, by rw [hat]; exact h48⟩]
        rw [hr]; exact readNum_zero s k _ w hs hk rfl hke hes hpos h10 h1 (by rw [h0]; exact beq_iff_eq.2 h48)
      · have h48' : (((s.extract k (pastN digB s k))[0].toNat : Int) == 48) = false := by rw [h0]; exact beq_eq_false_iff_ne.2 h48
        have hc : ¬ (1 < pastN digB s k - k ∧ (((s.data.toList.getD k 0).toNat : Nat) : Int) = 48) := fun h => h48 (by have := h.2; rw [hat] at this; exact this)
        by_cases hb : 1000000000 < numL (s.extract k (pastN digB s k)).data.toList
        · have hr : rdNum s k = .bad 2 k := by unfold rdNum; rw [if_neg h10, if_neg hc, if_pos hb]
          rw [hr]; exact readNum_big s k _ w hs hk rfl hke hes hpos _ rfl h10 h1 h48' hb
        · have hr : rdNum s k = .tok 3 ⟨#[]⟩ (numL (s.extract k (pastN digB s k)).data.toList) (pastN digB s k) := by unfold rdNum; rw [if_neg h10, if_neg hc, if_neg hb]
          rw [hr]; exact readNum_many s k _ w hs hk rfl hke hes hpos _ rfl h10 h1 h48' hb
    · have hc : ¬ (1 < pastN digB s k - k ∧ (((s.data.toList.getD k 0).toNat : Nat) : Int) = 48) := fun h => h1 h.1
      have hds : ∀ b ∈ (s.extract k (pastN digB s k)).data.toList, digB (b.toNat : Int) = true := by
        have := digit_take (s.extract k (pastN digB s k)) (fun i hi => by
          rw [extract_at s k _ i hes hi]
          exact past_in digB s (s.size - k) k (by omega) (k + i) (by omega) (by omega) (by omega)) (pastN digB s k - k)
        rw [List.take_of_length_le (by rw [data_len]; omega)] at this
        exact this
      have hb1 := (numL_bound _ hds).2
      have hl : (s.extract k (pastN digB s k)).data.toList.length = 1 := by rw [data_len]; omega
      rw [hl] at hb1
      have hb : ¬ 1000000000 < numL (s.extract k (pastN digB s k)).data.toList := by omega
      have hr : rdNum s k = .tok 3 ⟨#[]⟩ (numL (s.extract k (pastN digB s k)).data.toList) (pastN digB s k) := by unfold rdNum; rw [if_neg h10, if_neg hc, if_neg hb]
      rw [hr]; exact readNum_one s k _ w hs hk rfl hke hes _ rfl h1 hb

end Go.Proofs.YtoliilffjojfcaaGreatDoor

/-
  Str: What a string is, read from a place on; the walk of escaped; what the call's own row of bytes gives.
-/
namespace Go.Proofs.YtoliilffjojfcaaGreatDoor
open Go.RowKit

def bt (s : ByteArray) (i : Nat) : UInt8 := s.data.toList.getD i 0
theorem bt_eq (s : ByteArray) (i : Nat) (h : i < s.size) : bt s i = s[i] := at_eq s i h

/-- What stands for what behind a backslash. -/
def esc (c : UInt8) : Option UInt8 := if c = 110 then some 10 else if c = 39 ∨ c = 92 then some c else none

inductive SR where
  | ok (said : List UInt8) (e : Nat)
  | bad (p : Nat)

/-- A string's rest from a place on, what it has said so far at hand. -/
def strR (s : ByteArray) (i : Nat) (said : List UInt8) : SR :=
  if i < s.size then
    if bt s i = 39 then .ok said (i + 1)
    else if bt s i = 10 then .bad i
    else if bt s i = 92 then
      if i + 1 < s.size then
        match esc (bt s (i + 1)) with
        | some m => strR s (i + 2) (said ++ [m])
        | none => .bad (i + 1)
      else .bad (i + 1)
    else strR s (i + 1) (said ++ [bt s i])
  else .bad s.size
termination_by s.size - i

def rdStr (s : ByteArray) (k : Nat) : Rd :=
  match strR s (k + 1) [] with
  | .ok said e => if 500 < said.length then .bad 4 k else .tok 4 (ofBytes said) 0 e
  | .bad p => .bad 3 p

theorem strR_end (s : ByteArray) (i : Nat) (said : List UInt8) (h : ¬ i < s.size) : strR s i said = .bad s.size := by rw [strR, if_neg h]
theorem strR_quote (s : ByteArray) (i : Nat) (said : List UInt8) (h : i < s.size) (hc : bt s i = 39) : strR s i said = .ok said (i + 1) := by rw [strR, if_pos h, if_pos hc]
theorem strR_lf (s : ByteArray) (i : Nat) (said : List UInt8) (h : i < s.size) (hc : bt s i = 10) : strR s i said = .bad i := by rw [strR, if_pos h, if_neg (by rw [hc]; decide), if_pos hc]
theorem strR_esc (s : ByteArray) (i : Nat) (said : List UInt8) (m : UInt8) (h : i < s.size) (hc : bt s i = 92) (h1 : i + 1 < s.size) (hm : esc (bt s (i + 1)) = some m) : strR s i said = strR s (i + 2) (said ++ [m]) := by
  conv => lhs; rw [strR]
  rw [if_pos h, if_neg (by rw [hc]; decide), if_neg (by rw [hc]; decide), if_pos hc, if_pos h1, hm]
theorem strR_noesc (s : ByteArray) (i : Nat) (said : List UInt8) (h : i < s.size) (hc : bt s i = 92) (hm : i + 1 < s.size → esc (bt s (i + 1)) = none) : strR s i said = .bad (i + 1) := by
  rw [strR, if_pos h, if_neg (by rw [hc]; decide), if_neg (by rw [hc]; decide), if_pos hc]
  by_cases h1 : i + 1 < s.size
  · rw [if_pos h1, hm h1]
  · rw [if_neg h1]
theorem strR_plain (s : ByteArray) (i : Nat) (said : List UInt8) (h : i < s.size) (h1 : bt s i ≠ 39) (h2 : bt s i ≠ 10) (h3 : bt s i ≠ 92) : strR s i said = strR s (i + 1) (said ++ [bt s i]) := by
  conv => lhs; rw [strR]
  rw [if_pos h, if_neg h1, if_neg h2, if_neg h3]

theorem byte_eq (b c : UInt8) : (((b.toNat : Nat) : Int) == ((c.toNat : Nat) : Int)) = decide (b = c) := by
  by_cases h : b = c
  · subst h; simp
  · have : b.toNat ≠ c.toNat := fun e => h (UInt8.toNat_inj.1 e)
    simp [h]; omega

/-- escaped, at a place that is there. -/
def escV (o : Option UInt8) : Value := match o with | some m => .tuple #[.int .u8 (m.toNat : Int), .bool true] | none => .tuple #[.int .u8 0, .bool false]

set_option maxHeartbeats 400000 in
theorem escaped_out (s : ByteArray) (i : Nat) (w : World) (h : s.size ≤ i) :
    Calls Tryz.prog 173 #[.string s, .int .i64 (i : Int)] w fun e w' => e = .returned (.tuple #[.int .u8 0, .bool false]) ∧ w' = w := by
  go_enter Tryz.func173, Tryz.ntmps173
  go_wp2
  go_ret2
  exact ⟨rfl, rfl⟩

set_option maxHeartbeats 400000 in
theorem escaped_in (s : ByteArray) (i : Nat) (w : World) (h : i < s.size) :
    Calls Tryz.prog 173 #[.string s, .int .i64 (i : Int)] w fun e w' => e = .returned (escV (esc (bt s i))) ∧ w' = w := by
  rw [bt_eq s i h]
  obtain ⟨b, hb⟩ : ∃ b, b = s[i] := ⟨_, rfl⟩
  have b1 := byte_eq b 110
  have b2 := byte_eq b 39
  have b3 := byte_eq b 92
  rw [← hb]
  by_cases h1 : b = 110
  · have e : esc b = some 10 := by simp [esc, h1]
    have c1 : (((s[i].toNat : Nat) : Int) == 110) = true := by rw [← hb, h1]; rfl
    rw [e]
    clear b1 b2 b3 hb h1
    go_enter Tryz.func173, Tryz.ntmps173
    go_wp2
    go_ret2
    exact ⟨rfl, rfl⟩
  · have c1 : (((s[i].toNat : Nat) : Int) == 110) = false := by rw [← hb]; simpa [h1] using b1
    by_cases h2 : b = 39
    · have e : esc b = some 39 := by simp [esc, h2]
      have c2 : (((s[i].toNat : Nat) : Int) == 39) = true := by rw [← hb, h2]; rfl
      have hv : ((s[i].toNat : Nat) : Int) = 39 := by rw [← hb, h2]; rfl
      rw [e]
      have HV := hide hv
      clear b1 b2 b3 hb h1 h2 hv
      go_enter Tryz.func173, Tryz.ntmps173
      go_wp2
      go_ret2
      refine ⟨?_, rfl⟩
      show Ending.returned (.tuple #[.int .u8 (s[i].toNat : Int), .bool true]) = _
      rw [unhide HV]; rfl
    · have c2 : (((s[i].toNat : Nat) : Int) == 39) = false := by rw [← hb]; simpa [h2] using b2
      by_cases h3 : b = 92
      · have e : esc b = some 92 := by simp [esc, h3]
        have c3 : (((s[i].toNat : Nat) : Int) == 92) = true := by rw [← hb, h3]; rfl
        have hv : ((s[i].toNat : Nat) : Int) = 92 := by rw [← hb, h3]; rfl
        rw [e]
        have HV := hide hv
        clear b1 b2 b3 hb h1 h2 hv
        go_enter Tryz.func173, Tryz.ntmps173
        go_wp2
        go_ret2
        refine ⟨?_, rfl⟩
        show Ending.returned (.tuple #[.int .u8 (s[i].toNat : Int), .bool true]) = _
        rw [unhide HV]; rfl
      · have e : esc b = none := by simp [esc, h1, h2, h3]
        have c3 : (((s[i].toNat : Nat) : Int) == 92) = false := by rw [← hb]; simpa [h3] using b3
        rw [e]
        clear b1 b2 b3 hb h1 h2
        go_enter Tryz.func173, Tryz.ntmps173
        go_wp2
        go_ret2
        exact ⟨rfl, rfl⟩

/-- The cells of a row of bytes. -/
def cellsOf (l : List UInt8) : List Value := l.map (fun b => Value.int .u8 (b.toNat : Int))

theorem row_shape {w : World} {base : Nat} {v : Value} {n : Nat} {xs : List Value} (h : w.ownsRow base 5 1 v n xs) : ∃ a cap, v = .slice a n cap := by
  obtain ⟨_, ⟨rfl, rfl⟩ | ⟨g, cap, cur, rfl, _⟩⟩ := h
  · exact ⟨_, _, rfl⟩
  · exact ⟨_, _, rfl⟩

theorem row_text {w : World} {base : Nat} {v : Value} (l : List UInt8) (h : w.ownsRow base 5 1 v l.length (cellsOf l)) : (convert 82 9 v).run Tryz.prog w = .ok (.string (ofBytes l)) w := by
  obtain ⟨hl, ⟨rfl, h0⟩ | ⟨g, cap, cur, rfl, hb, hh, hn, hm, hs, ht⟩⟩ := h
  · have : l = [] := List.length_eq_zero_iff.1 h0
    subst this
    exact run_convert_bytes_nil w 82 5 Tryz.underlying82 Tryz.underlying5 0 0 9 Tryz.underlying9
  · refine run_convert_bytes_back w 82 9 5 ⟨g, 0, none⟩ cap l Tryz.underlying82 Tryz.underlying5 Tryz.underlying9 ?_
    intro j hj
    have h1 : (cellsOf l)[j]? = some (.int .u8 (l[j].toNat : Int)) := by unfold cellsOf; rw [List.getElem?_map, List.getElem?_eq_getElem hj]; rfl
    rw [← ht, List.getElem?_take_of_lt (by omega)] at h1
    have h2 : cur[j]? = some (.int .u8 (l[j].toNat : Int)) := by simpa using h1
    have e : (Addr.add ⟨g, 0, none⟩ j) = ⟨g, j, none⟩ := by simp [Addr.add]; intro h; exact h.symm
    rw [e]
    simp only [World.cell?, hh]
    simpa using h2

end Go.Proofs.YtoliilffjojfcaaGreatDoor

/-
  ReadS: The walk of readString: what is said is gathered in a row of the call's own; each way out is a token or an error.
-/
namespace Go.Proofs.YtoliilffjojfcaaGreatDoor
open Go.RowKit

theorem info5 : (Tryz.prog.info? 5).map (fun i => (i.zero, i.size, i.bytes)) = some (some (.int .u8 0), 1, 1) := by kernel_rfl

theorem cells_snoc (l : List UInt8) (b : UInt8) : cellsOf (l ++ [b]) = cellsOf l ++ [.int .u8 (b.toNat : Int)] := by simp [cellsOf]

/-- The relation behind an append. -/
theorem rel_app {w wr w1 : World} {v v' : Value} {said : List UInt8} {b : UInt8} (o : Obj) (hB : Below (w.heap.size + 1) (w.alloc O35) wr) (hsz : w.heap.size + 1 ≤ wr.heap.size)
    (hown : wr.ownsRow (w.heap.size + 1) 5 1 v said.length (cellsOf said))
    (hown' : w1.ownsRow (w.heap.size + 1) 5 1 v' (said.length + 1) (cellsOf said ++ [.int .u8 (b.toNat : Int)])) (hg : (wr.alloc o).grownBy w1 v.ownBlock) :
    w1.ownsRow (w.heap.size + 1) 5 1 v' (said ++ [b]).length (cellsOf (said ++ [b])) ∧ Below (w.heap.size + 1) (w.alloc O35) w1 ∧ w.heap.size + 1 ≤ w1.heap.size := by
  have hb2 : Below (w.heap.size + 1) (w.alloc O35) (wr.alloc o) := hB.alloc hsz o
  have hB1 : Below (w.heap.size + 1) (w.alloc O35) w1 := hb2.grown hg (by simp; omega) (fun k hk => by
    obtain ⟨_, ⟨rfl, _⟩ | ⟨g, cap, cur, rfl, hge, _⟩⟩ := hown
    · simp [Value.ownBlock] at hk
    · simp [Value.ownBlock] at hk; omega)
  refine ⟨by rw [cells_snoc, List.length_append]; exact hown', hB1, ?_⟩
  have := hB1.size; simp at this; omega

set_option maxRecDepth 100000 in
set_option maxHeartbeats 2000000 in
theorem readStr_any (s : ByteArray) (k : Nat) (w : World) (hs : s.size ≤ 3000) (hk : k < s.size) :
    Calls Tryz.prog 124 #[.string s, .int .i64 (k : Int)] w (RPost k (rdStr s k) w) := by
  obtain ⟨i0, hi, hz0, hz1, hz2⟩ := info_parts info5
  obtain ⟨r, hr⟩ : ∃ r, strR s (k + 1) [] = r := ⟨_, rfl⟩
  have HR := hide hr
  obtain ⟨q, hq⟩ : ∃ q, rdStr s k = q := ⟨_, rfl⟩
  have HQ := hide hq
  rw [hq]
  clear hr hq
  go_enter Tryz.func124, Tryz.ntmps124
  go_wp2
  go_loopw [7, 8, 9, 10, 11] (fun v i _ _ _ wr => ∃ (j : Nat) (said : List UInt8), j ≤ s.size ∧ said.length ≤ j ∧ i = .int .i64 j ∧ strR s j said = r ∧ wr.ownsRow (w.heap.size + 1) 5 1 v said.length (cellsOf said) ∧ Below (w.heap.size + 1) (w.alloc O35) wr ∧ w.heap.size + 1 ≤ wr.heap.size) (fun _ i _ _ _ _ => s.size - (intOf i).toNat)
  case atStart => exact ⟨k + 1, [], by omega, by simp, by go_num, unhide HR, World.ownsRow_nil _ _ _ _, Below.refl _ _, by simp⟩
  case round =>
    obtain ⟨j, said, hj, hsl, rfl, he, hown, hB, hsz⟩ := hrel
    have HE := hide he
    have HOWN := hide hown
    have HB := hide hB
    clear he
    by_cases hlt : j < s.size
    · have hbt := bt_eq s j hlt
      obtain ⟨a, cap, rfl⟩ := row_shape hown
      clear hown hB
      have b1 := byte_eq s[j] 39
      have b2 := byte_eq s[j] 10
      have b3 := byte_eq s[j] 92
      by_cases c1 : s[j] = 39
      · -- the quote
        have t1 : (((s[j].toNat : Nat) : Int) == 39) = true := by rw [c1]; rfl
        have hst : r = .ok said (j + 1) := by rw [← unhide HE, strR_quote s j said hlt (by rw [hbt]; exact c1)]
        clear b1 b2 b3 c1 hbt
        by_cases h500 : 500 < said.length
        · have hq2 : q = .bad 4 k := by rw [← unhide HQ]; unfold rdStr; rw [unhide HR, hst]; simp [h500]
          clear hst HR HE
          subst hq2
          go_wp2_with fail
          refine (fail_any _ _ _).mono ?_
          rintro e4 w4 ⟨b, rfl, hb, hlb, hbel2⟩
          have hbelA := (unhide HB).trans (hbel2.mono hsz)
          have hbelB : Below (w.alloc O35).heap.size (w.alloc O35) w4 := by simpa using hbelA
          obtain ⟨hc, hf⟩ := bcell hbelB
          have HBB := hide hb
          have HBEL2 := hide hbelB
          have hlb2 : (w.alloc O35).heap.size ≤ b := by simp; omega
          clear hb hbelA hbelB hbel2 hlb
          go_wp2_with fail
          exact bodyPost_ret (v := .tuple #[noTok, .int .i64 0, .iface 119 (.pointer (some ⟨b, 0, none⟩))]) (by simp [results, Tryz.results124, go_sem, hc]) rfl ⟨b, rfl, bad_end (unhide HBEL2) hlb2 (unhide HBB) _ _ _ _⟩
        · have hq2 : q = .tok 4 (ofBytes said) 0 (j + 1) := by rw [← unhide HQ]; unfold rdStr; rw [unhide HR, hst]; simp [h500]
          clear hst HR HE
          subst hq2
          have hcv := row_text said (unhide HOWN)
          have hbelB : Below (w.alloc O35).heap.size (w.alloc O35) wr := by simpa using unhide HB
          obtain ⟨hc, hf⟩ := bcell hbelB
          have HBEL2 := hide hbelB
          clear hbelB
          go_wp2_with fail
          exact bodyPost_ret (v := .tuple #[.agg #[.int .i64 4, .string (ofBytes said), .int .i64 0, .int .i64 (k : Int)], .int .i64 ((j : Int) + 1), .nilIface]) (by simp [results, Tryz.results124, go_sem, hc]) rfl ⟨by simp, good_end (unhide HBEL2) _ _ _ _⟩
      · have t1 : (((s[j].toNat : Nat) : Int) == 39) = false := by rw [show (39 : Int) = (((39 : UInt8).toNat : Nat) : Int) from rfl, b1]; simp [c1]
        by_cases c2 : s[j] = 10
        · -- a line feed
          have t2 : (((s[j].toNat : Nat) : Int) == 10) = true := by rw [c2]; rfl
          have hst : r = .bad j := by rw [← unhide HE, strR_lf s j said hlt (by rw [hbt]; exact c2)]
          have hq2 : q = .bad 3 j := by rw [← unhide HQ]; unfold rdStr; rw [unhide HR, hst]
          clear b1 b2 b3 c1 c2 hbt hst HR HE
          subst hq2
          go_wp2_with fail
          refine (fail_any _ _ _).mono ?_
          rintro e4 w4 ⟨b, rfl, hb, hlb, hbel2⟩
          have hbelA := (unhide HB).trans (hbel2.mono hsz)
          have hbelB : Below (w.alloc O35).heap.size (w.alloc O35) w4 := by simpa using hbelA
          obtain ⟨hc, hf⟩ := bcell hbelB
          have HBB := hide hb
          have HBEL2 := hide hbelB
          have hlb2 : (w.alloc O35).heap.size ≤ b := by simp; omega
          clear hb hbelA hbelB hbel2 hlb
          go_wp2_with fail
          exact bodyPost_ret (v := .tuple #[noTok, .int .i64 0, .iface 119 (.pointer (some ⟨b, 0, none⟩))]) (by simp [results, Tryz.results124, go_sem, hc]) rfl ⟨b, rfl, bad_end (unhide HBEL2) hlb2 (unhide HBB) _ _ _ _⟩
        · have t2 : (((s[j].toNat : Nat) : Int) == 10) = false := by rw [show (10 : Int) = (((10 : UInt8).toNat : Nat) : Int) from rfl, b2]; simp [c2]
          by_cases c3 : s[j] = 92
          · -- a backslash
            have t3 : (((s[j].toNat : Nat) : Int) == 92) = true := by rw [c3]; rfl
            by_cases hlt2 : j + 1 < s.size
            · cases hm : esc (bt s (j + 1)) with
              | none =>
                have hst : r = .bad (j + 1) := by rw [← unhide HE, strR_noesc s j said hlt (by rw [hbt]; exact c3) (fun _ => hm)]
                have hq2 : q = .bad 3 (j + 1) := by rw [← unhide HQ]; unfold rdStr; rw [unhide HR, hst]
                have HM := hide hm
                clear b1 b2 b3 c1 c2 c3 hbt hst HR HE hm
                subst hq2
                go_wp2_with fail
                have hesc := escaped_in s (j + 1) wr hlt2
                rw [unhide HM] at hesc
                refine Calls.mono hesc ?_
                clear hesc
                rintro e3 w3 ⟨rfl, rfl⟩
                simp only [escV]
                go_wp2_with fail
                refine (fail_any _ _ _).mono ?_
                rintro e4 w4 ⟨b, rfl, hb, hlb, hbel2⟩
                have hbelA := (unhide HB).trans (hbel2.mono hsz)
                have hbelB : Below (w.alloc O35).heap.size (w.alloc O35) w4 := by simpa using hbelA
                obtain ⟨hc, hf⟩ := bcell hbelB
                have HBB := hide hb
                have HBEL2 := hide hbelB
                have hlb2 : (w.alloc O35).heap.size ≤ b := by simp; omega
                clear hb hbelA hbelB hbel2 hlb
                go_wp2_with fail
                exact bodyPost_ret (v := .tuple #[noTok, .int .i64 0, .iface 119 (.pointer (some ⟨b, 0, none⟩))]) (by simp [results, Tryz.results124, go_sem, hc]) rfl ⟨b, rfl, bad_end (unhide HBEL2) hlb2 (unhide HBB) _ _ _ _⟩
              | some m =>
                have hst : strR s (j + 2) (said ++ [m]) = r := by rw [← unhide HE, strR_esc s j said m hlt (by rw [hbt]; exact c3) hlt2 hm]
                have HST := hide hst
                have HM := hide hm
                clear b1 b2 b3 c1 c2 c3 hbt hst HE hm
                go_wp2_with fail
                have hesc := escaped_in s (j + 1) wr hlt2
                rw [unhide HM] at hesc
                refine Calls.mono hesc ?_
                clear hesc
                rintro e3 w3 ⟨rfl, rfl⟩
                simp only [escV]
                go_wp2_with (at_builtin; refine wpList_append_own _ rfl _ _ 82 rfl (w.heap.size + 1) 5 i0 (.int .u8 0) 1 1 Tryz.underlying82 hi hz0 hz1 hz2 rfl (by decide) _ _ _ rfl ((unhide HOWN).alloc _) ⟨w3.heap.size, 0, none⟩ 1 1 [.int .u8 (m.toNat : Int)] rfl rfl ?c1 ?c2 ?c3 ?c4 ?c5 ?_)
                case c1 =>
                  intro j u hj
                  match j, hj with
                  | 0, hj => simp at hj; subst hj; simp [Addr.add]
                case c2 => intro u hu; simp at hu; subst hu; rfl
                case c3 => unfold maxLen; omega
                case c4 => omega
                case c5 => simp; omega
                intro v' w1 hown' hgrow _
                have R := rel_app (b := m) _ (unhide HB) hsz (unhide HOWN) hown' hgrow
                have HRR := hide R
                clear hown' hgrow R
                go_wp2
                go_roundw
                case rel => exact ⟨j + 2, said ++ [m], by omega, by simp; omega, by go_num, unhide HST, (unhide HRR).1, (unhide HRR).2.1, (unhide HRR).2.2⟩
                case measure => simp [intOf]; omega
            · have hst : r = .bad (j + 1) := by rw [← unhide HE, strR_noesc s j said hlt (by rw [hbt]; exact c3) (fun h => absurd h hlt2)]
              have hq2 : q = .bad 3 (j + 1) := by rw [← unhide HQ]; unfold rdStr; rw [unhide HR, hst]
              clear b1 b2 b3 c1 c2 c3 hbt hst HR HE
              subst hq2
              go_wp2_with fail
              have hesc := escaped_out s (j + 1) wr (by omega)
              refine Calls.mono hesc ?_
              clear hesc
              rintro e3 w3 ⟨rfl, rfl⟩
              go_wp2_with fail
              refine (fail_any _ _ _).mono ?_
              rintro e4 w4 ⟨b, rfl, hb, hlb, hbel2⟩
              have hbelA := (unhide HB).trans (hbel2.mono hsz)
              have hbelB : Below (w.alloc O35).heap.size (w.alloc O35) w4 := by simpa using hbelA
              obtain ⟨hc, hf⟩ := bcell hbelB
              have HBB := hide hb
              have HBEL2 := hide hbelB
              have hlb2 : (w.alloc O35).heap.size ≤ b := by simp; omega
              clear hb hbelA hbelB hbel2 hlb
              go_wp2_with fail
              exact bodyPost_ret (v := .tuple #[noTok, .int .i64 0, .iface 119 (.pointer (some ⟨b, 0, none⟩))]) (by simp [results, Tryz.results124, go_sem, hc]) rfl ⟨b, rfl, bad_end (unhide HBEL2) hlb2 (unhide HBB) _ _ _ _⟩
          · -- a plain byte
            have t3 : (((s[j].toNat : Nat) : Int) == 92) = false := by rw [show (92 : Int) = (((92 : UInt8).toNat : Nat) : Int) from rfl, b3]; simp [c3]
            have hst : strR s (j + 1) (said ++ [s[j]]) = r := by rw [← unhide HE, strR_plain s j said hlt (by rw [hbt]; exact c1) (by rw [hbt]; exact c2) (by rw [hbt]; exact c3), hbt]
            have HST := hide hst
            clear b1 b2 b3 c1 c2 c3 hbt hst HE
            go_wp2_with (at_builtin; refine wpList_append_own _ rfl _ _ 82 rfl (w.heap.size + 1) 5 i0 (.int .u8 0) 1 1 Tryz.underlying82 hi hz0 hz1 hz2 rfl (by decide) _ _ _ rfl ((unhide HOWN).alloc _) ⟨wr.heap.size, 0, none⟩ 1 1 [.int .u8 (s[j].toNat : Int)] rfl rfl ?c1 ?c2 ?c3 ?c4 ?c5 ?_)
            case c1 =>
              intro j u hj
              match j, hj with
              | 0, hj => simp at hj; subst hj; simp [Addr.add]
            case c2 => intro u hu; simp at hu; subst hu; rfl
            case c3 => unfold maxLen; omega
            case c4 => omega
            case c5 => simp; omega
            intro v' w1 hown' hgrow _
            have R := rel_app (b := s[j]) _ (unhide HB) hsz (unhide HOWN) hown' hgrow
            have HRR := hide R
            clear hown' hgrow R
            go_wp2
            go_roundw
            case rel => exact ⟨j + 1, said ++ [s[j]], by omega, by simp; omega, by go_num, unhide HST, (unhide HRR).1, (unhide HRR).2.1, (unhide HRR).2.2⟩
            case measure => simp [intOf]; omega
    · have hst : r = .bad s.size := by rw [← unhide HE, strR_end s j said hlt]
      have hq2 : q = .bad 3 s.size := by rw [← unhide HQ]; unfold rdStr; rw [unhide HR, hst]
      clear hst HR HE hown hB
      subst hq2
      go_wp2_with fail
      refine (fail_any _ _ _).mono ?_
      rintro e4 w4 ⟨b, rfl, hb, hlb, hbel2⟩
      have hbelA := (unhide HB).trans (hbel2.mono hsz)
      have hbelB : Below (w.alloc O35).heap.size (w.alloc O35) w4 := by simpa using hbelA
      obtain ⟨hc, hf⟩ := bcell hbelB
      have HBB := hide hb
      have HBEL2 := hide hbelB
      have hlb2 : (w.alloc O35).heap.size ≤ b := by simp; omega
      clear hb hbelA hbelB hbel2 hlb
      go_wp2_with fail
      exact bodyPost_ret (v := .tuple #[noTok, .int .i64 0, .iface 119 (.pointer (some ⟨b, 0, none⟩))]) (by simp [results, Tryz.results124, go_sem, hc]) rfl ⟨b, rfl, bad_end (unhide HBEL2) hlb2 (unhide HBB) _ _ _ _⟩

end Go.Proofs.YtoliilffjojfcaaGreatDoor
