/-
  What early asks of a node: strict code, functions, parameters, names; the function literals of wrongScope, wrongFunction, wrongBranch.
-/
import Derived.Test.YtoimgcjbcbhclaaGreatDoorWh27
import Derived.Test.YtoimgcjbcbhclaaGreatDoorWh26
import Derived.Test.YtoimgcjbcbhclaaGreatDoorWh24
set_option maxRecDepth 100000
set_option maxHeartbeats 16000000
namespace Go.Proofs.YtoimgcjbcbhclaaGreatDoor
open Go.RowKit

theorem cell_lt {w : World} {b o : Nat} {v : Value} (h : w.cell? ⟨b, o, none⟩ = some v) : b < w.heap.size := by
  rcases Nat.lt_or_ge b w.heap.size with h1 | h1
  · exact h1
  · have h2 : w.heap[b]? = none := Array.getElem?_eq_none h1
    simp [World.cell?, h2] at h
theorem keepC {w X : World} {b o : Nat} {v : Value} (hb : Below w.heap.size w X) (h : w.cell? ⟨b, o, none⟩ = some v) : X.cell? ⟨b, o, none⟩ = some v :=
  (World.cell?_of_block (w := w) (a := ⟨b, o, none⟩) (hb.block b (cell_lt h))).trans h

abbrev tEval : ByteArray := ⟨#[101, 118, 97, 108]⟩
abbrev tArgs : ByteArray := ⟨#[97, 114, 103, 117, 109, 101, 110, 116, 115]⟩
def erV : Option Int → Value
  | none => .nilIface
  | some e => .iface 31 (.int .i64 e)
abbrev plV (s i b : Bool) : Value := .agg #[.bool s, .bool i, .bool b]
def isSp (x : ByteArray) : Bool := decide (x = tEval) || decide (x = tArgs)
def nmE (s : Bool) (x : ByteArray) : Option Int := if s && isSp x then some 5 else none
def strictT (t : Tr) : Bool := (t.kd == 1 || t.kd == 6) && decide (t.tx = tStrict)

theorem wrongName_any (s i b : Bool) (x : ByteArray) (w : World) : Calls Tryz.prog 211 #[.string x, plV s i b] w fun e w' => e = .returned (erV (nmE s x)) ∧ Below w.heap.size w w' := by
  unfold nmE isSp
  have HB := hide ((Below.refl w.heap.size w).alloc (Nat.le_refl _) (.cells #[.bool s, .bool i, .bool b] 103))
  cases s with
  | false =>
    go_enter Tryz.func211, Tryz.ntmps211
    go_wp2_with fail
    go_ret
    exact ⟨rfl, unhide HB⟩
  | true =>
    by_cases h1 : x = tEval
    · have e1 := tl_eqL (b := tEval) rfl h1
      rw [decide_eq_true h1]
      clear h1
      go_enter Tryz.func211, Tryz.ntmps211
      go_wp2_with fail
      go_ret
      exact ⟨rfl, unhide HB⟩
    · have e1 := tl_neL (b := tEval) rfl h1
      rw [decide_eq_false h1]
      clear h1
      by_cases h2 : x = tArgs
      · have e2 := tl_eqL (b := tArgs) rfl h2
        rw [decide_eq_true h2]
        clear h2
        go_enter Tryz.func211, Tryz.ntmps211
        go_wp2_with fail
        go_ret
        exact ⟨rfl, unhide HB⟩
      · have e2 := tl_neL (b := tArgs) rfl h2
        rw [decide_eq_false h2]
        clear h2
        go_enter Tryz.func211, Tryz.ntmps211
        go_wp2_with fail
        go_ret
        exact ⟨rfl, unhide HB⟩

theorem strictE_any (t : Tr) (p : Nat) (w : World) (h : NTr w t p) : Calls Tryz.prog 118 #[nPtr p] w fun e w' => e = .returned (.bool (strictT t)) ∧ w' = w := by
  obtain ⟨hpl, c0, c1, _⟩ := h.cells
  clear h
  unfold strictT
  generalize t.kd = kd at c0
  generalize t.tx = tx at c1
  by_cases h2 : tx = tStrict
  · have e2 := tl_eqL (b := tStrict) rfl h2
    rw [decide_eq_true h2]
    clear h2
    cases h1 : (kd == 1) <;> cases h6 : (kd == 6) <;>
    · go_enter Tryz.func118, Tryz.ntmps118
      go_wp2_with fail
      go_ret
      exact ⟨rfl, rfl⟩
  · have e2 := tl_neL (b := tStrict) rfl h2
    rw [decide_eq_false h2]
    clear h2
    cases h1 : (kd == 1) <;> cases h6 : (kd == 6) <;>
    · go_enter Tryz.func118, Tryz.ntmps118
      go_wp2_with fail
      go_ret
      exact ⟨rfl, rfl⟩

theorem isFunE_any (t : Tr) (p : Nat) (w : World) (h : NTr w t p) : Calls Tryz.prog 119 #[nPtr p] w fun e w' => e = .returned (.bool (isFunT t)) ∧ w' = w := by
  obtain ⟨hpl, c0, _, _⟩ := h.cells
  clear h
  unfold isFunT
  generalize t.kd = kd at c0
  cases h3 : (kd == 5)
  · go_enter Tryz.func119, Tryz.ntmps119
    go_wp2_with fail
    go_ret
    exact ⟨rfl, rfl⟩
  · go_enter Tryz.func119, Tryz.ntmps119
    go_wp2_with fail
    go_ret
    exact ⟨rfl, rfl⟩

def kidT (t : Tr) (k : Nat) : Tr := t.kids.getD k t
theorem kidT_eq (t : Tr) (k : Nat) (h : k < t.kids.length) : kidT t k = t.kids[k] := by simp [kidT, List.getD, h]

theorem blockE_any (t : Tr) (p : Nat) (w : World) (h : NTr w t p) (hk : 2 ≤ t.kids.length) (hl : t.kids.length ≤ 90000) : Calls Tryz.prog 120 #[nPtr p] w fun e w' => (∃ q, e = .returned (nPtr q) ∧ NTr w (kidT t 1) q) ∧ w' = w := by
  obtain ⟨hpl, _, _, u, c3, hr⟩ := h.cells
  obtain ⟨g, cap, q, rfl, hg, hc, hn⟩ := hr.cell 1 (by omega)
  rw [← kidT_eq t 1 (by omega)] at hn
  have HN := hide hn
  clear hr h hn
  generalize hL : t.kids.length = L at c3 hk hl
  clear hL
  go_enter Tryz.func120, Tryz.ntmps120
  go_wp2_with fail
  go_ret
  exact ⟨⟨q, rfl, unhide HN⟩, rfl⟩

theorem paramsE_any (t : Tr) (p : Nat) (w : World) (h : NTr w t p) (hk : 1 ≤ t.kids.length) (hl : t.kids.length ≤ 90000) : Calls Tryz.prog 270 #[nPtr p] w fun e w' => (∃ u, e = .returned u ∧ NRow 0 w u (kidT t 0).kids) ∧ w' = w := by
  obtain ⟨hpl, _, _, u, c3, hr⟩ := h.cells
  obtain ⟨g, cap, q, rfl, hg, hc, hn⟩ := hr.cell 0 (by omega)
  rw [← kidT_eq t 0 (by omega)] at hn
  obtain ⟨hql, _, _, u2, d3, hr2⟩ := hn.cells
  obtain ⟨a2, c2, rfl⟩ := hr2.form
  have HR := hide hr2
  clear hr h hn hr2
  generalize hL : t.kids.length = L at c3 hk hl
  clear hL
  go_enter Tryz.func270, Tryz.ntmps270
  go_wp2_with fail
  go_ret
  exact ⟨⟨_, rfl, unhide HR⟩, rfl⟩

def declK (t : Tr) : Bool := t.kd == 3 || t.kd == 4 || t.kd == 5
theorem en252 : ∀ args W, (callFunc 272 args).run Tryz.prog W = .ok (.enter 272 args) W := fun _ _ => by kernel_rfl
theorem en245 : ∀ args W, (callFunc 265 args).run Tryz.prog W = .ok (.enter 265 args) W := fun _ _ => by kernel_rfl
theorem en246 : ∀ args W, (callFunc 266 args).run Tryz.prog W = .ok (.enter 266 args) W := fun _ _ => by kernel_rfl
theorem enE251 : ∀ args W, (callFunc 271 args).run Tryz.prog W = .ok (.enter 271 args) W := fun _ _ => by kernel_rfl

theorem branch1_any (t : Tr) (p : Nat) (w : World) (h : NTr w t p) : Calls Tryz.prog 272 #[nPtr p] w fun e w' => e = .returned (.bool (declK t)) ∧ Below w.heap.size w w' := by
  obtain ⟨hpl, c0, _, _⟩ := h.cells
  clear h
  unfold declK
  generalize t.kd = kd at c0
  cases h3 : (kd == 3) <;> cases h4 : (kd == 4) <;>
  · go_enter Tryz.func272, Tryz.ntmps272
    go_wp2_with fail
    go_ret
    exact ⟨rfl, Below.refl _ _⟩

theorem scope1_any (t : Tr) (p b : Nat) (l : List ByteArray) (va : Option Addr) (vc : Nat) (w : World) {B : Nat} (h : NTr w t p) (hb : w.cell? ⟨b, 0, none⟩ = some (.slice va l.length vc)) (hr : SRow B w (.slice va l.length vc) l) (hl : l.length ≤ 90000) :
    Calls Tryz.prog 265 #[nPtr p, .pointer (some ⟨b, 0, none⟩)] w fun e w' => e = .returned (.bool (hasB l t.tx)) ∧ Below w.heap.size w w' := by
  obtain ⟨hpl, _, c1, _⟩ := h.cells
  have HC := hide (contains_any l t.tx _ w.drew hr (by omega))
  clear h hr
  generalize t.tx = tx at c1 HC
  have hbl := cell_lt hb
  go_enter Tryz.func265, Tryz.ntmps265
  go_wp2_with fail
  refine wp_region_held (S := fun X => X = w.drew) (by kernel_rfl) ?_
  change wpAnyH _ _ _ _ _ _ _ _ (World.drew _)
  refine wh 0 (.slice va l.length vc) rfl ?_ (hy := Or.inl ⟨by kernel_rfl, fun X hX => by cases hX; go_simp⟩)
  refine wh 1 (nPtr p) rfl ?_
  refine wh 2 (nPtr p) rfl ?_
  refine wh 3 (.pointer (some ⟨p, 1, none⟩)) rfl ?_
  refine wh 4 (.string tx) rfl ?_ (hy := Or.inl ⟨by kernel_rfl, fun X hX => by cases hX; go_simp⟩)
  refine wq1 5 fun K hK => ?_
  go_simp
  refine Calls.mono HC.out ?_
  rintro e w2 ⟨rfl, rfl⟩
  refine hK.out _ _ rfl (fun _ => ?_)
  clear hK K HC
  refine wh 6 (.bool (hasB l tx)) rfl ?_
  refine wpAnyH_done (by kernel_rfl) ?_ _
  go_simp
  go_wp2_with fail
  go_ret
  exact ⟨rfl, (Below.refl _ _).drew⟩

theorem scope2_any (t : Tr) (p b : Nat) (ts : List Tr) (va : Option Addr) (vc : Nat) (w : World) {B : Nat} (h : NTr w t p) (hb : w.cell? ⟨b, 0, none⟩ = some (.slice va ts.length vc)) (hr : NRow B w (.slice va ts.length vc) ts) (hl : ts.length ≤ 90000) :
    Calls Tryz.prog 266 #[nPtr p, .pointer (some ⟨b, 0, none⟩)] w fun e w' => e = .returned (.bool (namedB ts t.tx)) ∧ Below w.heap.size w w' := by
  obtain ⟨hpl, _, c1, _⟩ := h.cells
  have HC := hide (named_any ts _ t.tx w.drew (hr.later (Below.refl _ _).drew) hl)
  clear h hr
  generalize t.tx = tx at c1 HC
  have hbl := cell_lt hb
  have hS0 : Below w.heap.size w w.drew := (Below.refl _ _).drew
  go_enter Tryz.func266, Tryz.ntmps266
  go_wp2_with fail
  refine wp_region_held (S := fun X => Below w.heap.size w X) (by kernel_rfl) ?_
  change wpAnyH _ _ _ _ _ _ _ _ (World.drew _)
  refine wh 0 (.slice va ts.length vc) hS0 ?_ (hy := Or.inl ⟨by kernel_rfl, fun X hX => by have hh := keepC hX hb; go_simp⟩)
  refine wh 1 (nPtr p) hS0 ?_
  refine wh 2 (nPtr p) hS0 ?_
  refine wh 3 (.pointer (some ⟨p, 1, none⟩)) hS0 ?_
  refine wh 4 (.string tx) hS0 ?_ (hy := Or.inl ⟨by kernel_rfl, fun X hX => by have hh := keepC hX c1; go_simp⟩)
  refine wq1 5 fun K hK => ?_
  go_simp
  refine Calls.mono HC.out ?_
  rintro e w2 ⟨rfl, hb2⟩
  have hS2 : Below w.heap.size w w2 := hS0.trans (hb2.mono (Nat.le_refl _))
  refine hK.out _ _ hS2 (fun _ => ?_)
  clear hK K HC
  refine wh 6 (.bool (namedB ts tx)) hS2 ?_
  refine wpAnyH_done (by kernel_rfl) ?_ _
  go_simp
  have HS2 := hide hS2
  clear hS2 hS0 hb2
  go_wp2_with fail
  go_ret
  exact ⟨rfl, unhide HS2⟩

theorem func1_any (t f : Tr) (p b q : Nat) (w : World) (h : NTr w t p) (hb : w.cell? ⟨b, 0, none⟩ = some (nPtr q)) (hf : NTr w f q) (hk : 1 ≤ f.kids.length) (hkl : f.kids.length ≤ 90000) (hl : (kidT f 0).kids.length ≤ 90000) :
    Calls Tryz.prog 271 #[nPtr p, .pointer (some ⟨b, 0, none⟩)] w fun e w' => e = .returned (.bool (namedB (kidT f 0).kids t.tx)) ∧ Below w.heap.size w w' := by
  obtain ⟨hpl, _, c1, _⟩ := h.cells
  have hS0 : Below w.heap.size w w.drew := (Below.refl _ _).drew
  have HP := hide (paramsE_any f q w.drew (hf.later hS0) hk hkl)
  clear h hf
  generalize t.tx = tx at c1
  have hbl := cell_lt hb
  go_enter Tryz.func271, Tryz.ntmps271
  go_wp2_with fail
  refine wp_region_held (S := fun X => Below w.heap.size w X) (by kernel_rfl) ?_
  change wpAnyH _ _ _ _ _ _ _ _ (World.drew _)
  refine wh 0 (nPtr q) hS0 ?_ (hy := Or.inl ⟨by kernel_rfl, fun X hX => by have hh := keepC hX hb; go_simp⟩)
  refine wh 2 (nPtr p) hS0 ?_
  refine wh 3 (nPtr p) hS0 ?_
  refine wh 4 (.pointer (some ⟨p, 1, none⟩)) hS0 ?_
  refine wh 5 (.string tx) hS0 ?_ (hy := Or.inl ⟨by kernel_rfl, fun X hX => by have hh := keepC hX c1; go_simp⟩)
  refine wq1 1 fun K hK => ?_
  go_simp
  refine Calls.mono HP.out ?_
  rintro e w2 ⟨⟨u, rfl, hr⟩, rfl⟩
  obtain ⟨va, vc, rfl⟩ := hr.form
  refine hK.out _ _ hS0 (fun _ => ?_)
  clear hK K HP
  have HC := hide (named_any (kidT f 0).kids _ tx w.drew hr hl)
  clear hr
  refine wq1 6 fun K hK => ?_
  go_simp
  refine Calls.mono HC.out ?_
  rintro e w3 ⟨rfl, hb3⟩
  have hS2 : Below w.heap.size w w3 := hS0.trans (hb3.mono (Nat.le_refl _))
  refine hK.out _ _ hS2 (fun _ => ?_)
  clear hK K HC
  refine wh 7 (.bool (namedB (kidT f 0).kids tx)) hS2 ?_
  refine wpAnyH_done (by kernel_rfl) ?_ _
  go_simp
  have HS2 := hide hS2
  clear hS2 hS0 hb3
  go_wp2_with fail
  go_ret
  exact ⟨rfl, unhide HS2⟩
end Go.Proofs.YtoimgcjbcbhclaaGreatDoor
namespace Go.Proofs.YtoimgcjbcbhclaaGreatDoor

def need (kd : Int) : Nat := if kd = 5 ∨ kd = 37 ∨ kd = 9 then 2 else if kd = 13 ∨ kd = 24 ∨ kd = 34 ∨ kd = 35 then 1 else 0
def ar (kd : Int) (n : Nat) : Nat := if need kd ≤ n then 0 else 1
mutual
def Tr.ill : Tr → Nat
  | .mk kd _ _ ks => ar kd ks.length + Tr.ills ks
def Tr.ills : List Tr → Nat
  | [] => 0
  | t :: ts => t.ill + Tr.ills ts
end
theorem ill_mk (kd : Int) (tx : ByteArray) (n : Int) (ks : List Tr) : (Tr.mk kd tx n ks).ill = ar kd ks.length + Tr.ills ks := by rw [Tr.ill]
theorem need_two (kd : Int) : need kd ≤ 2 := by
  unfold need
  split
  · omega
  · split <;> omega
theorem ar_two (kd : Int) (n : Nat) (h : 2 ≤ n) : ar kd n = 0 := by
  unfold ar
  rw [if_pos (Nat.le_trans (need_two kd) h)]
theorem ar_small {kd : Int} (h : need kd = 0) (n : Nat) : ar kd n = 0 := by unfold ar; rw [h, if_pos (Nat.zero_le _)]
theorem ills_nil : Tr.ills [] = 0 := by rw [Tr.ills]
theorem ills_cons (t : Tr) (ts : List Tr) : Tr.ills (t :: ts) = t.ill + Tr.ills ts := by rw [Tr.ills]
theorem ills_app : ∀ (ts us : List Tr), Tr.ills (ts ++ us) = Tr.ills ts + Tr.ills us
  | [], us => by rw [List.nil_append, ills_nil, Nat.zero_add]
  | t :: ts, us => by rw [List.cons_append, ills_cons, ills_cons, ills_app ts us, Nat.add_assoc]
theorem code_ill (t : Tr) : (codeT t).ill = t.ill := by
  unfold codeT
  split
  · rw [ill_mk, ill_mk]
  · rfl
theorem sgP_ar {k : Int} {x : ByteArray} {s : Sg} (h : sgP k x = some s) : s ∈ sgs ∧ s.parts = k := by
  unfold sgP at h
  have h1 := Option.filter_eq_some_iff.1 h
  exact ⟨List.mem_of_find?_eq_some h1.1, by simpa using h1.2⟩
theorem sgP_ar0 {x : ByteArray} {s : Sg} (h : sgP 0 x = some s) : ar s.kd 0 = 0 := by
  have h1 := sgP_ar h
  have h2 : ∀ s ∈ sgs, s.parts = 0 → ar s.kd 0 = 0 := by decide +kernel
  exact h2 s h1.1 h1.2
theorem sgP_ar1 {x : ByteArray} {s : Sg} (h : sgP 1 x = some s) : ar s.kd 1 = 0 := by
  have h1 := sgP_ar h
  have h2 : ∀ s ∈ sgs, s.parts = 1 → ar s.kd 1 = 0 := by decide +kernel
  exact h2 s h1.1 h1.2
theorem hd_kw {x : ByteArray} {q : Nat} (h : look2 stKeys x = some q) (hq : q ≠ 5) (n : Nat) : ar (hdKind x) n = 0 := by
  refine ar_small ?_ n
  unfold look2 at h
  cases hf : stKeys.find? (fun e => decide (x = e.1)) with
  | none => rw [hf] at h; cases h
  | some e =>
    rw [hf] at h
    have h1 := List.mem_of_find?_eq_some hf
    have h3 : x = e.1 := by simpa using List.find?_some hf
    have h2 : ∀ e ∈ stKeys, e.2 ≠ 5 → need (hdKind e.1) = 0 := by decide +kernel
    rw [h3]
    refine h2 e h1 ?_
    cases h
    exact hq
theorem fx_tx {l : List Tk} {i q : Nat} (h : look2 stKeys (fx l i) = some q) : fx l i = (tkA l i).tx := by
  unfold fx at h ⊢
  split
  · rfl
  · rename_i hn
    rw [if_neg hn] at h
    exact absurd h (by rw [show look2 stKeys noText = none from by decide +kernel]; nofun)

section
variable {l : List Tk}
def Kw (_ : Nat) (r : PR Tr) : Prop := ∀ t j, r = .ok t j → t.ill ≤ 0
def Kws (_ : Nat) (r : PR (List Tr)) : Prop := ∀ t j, r = .ok t j → Tr.ills t ≤ 0
theorem deep_kw {f : Nat → Nat → PR Tr} {d i : Nat} (h : Kw i (f (d + 1) i)) : Kw i (deepP l f d i) := by
  unfold deepP
  split
  · intro t j e; cases e
  · exact h
theorem listLoop_kw {shut : ByteArray} {begins : Nat → Bool} {part : Nat → PR Tr} (hp : ∀ i, Kw i (part i)) : ∀ k acc i t j, listLoop l shut begins part k acc i = .ok t j → Tr.ills t ≤ Tr.ills acc := by
  intro k
  induction k with
  | zero => intro acc i t j h; cases h
  | succ k ih =>
    intro acc i t j h
    unfold listLoop at h
    split at h
    · cases h
    · obtain ⟨u, i1, h1, h⟩ := binds h
      have := hp i u i1 h1
      split at h
      · cases h
        rw [ills_app, ills_cons, ills_nil]; first | omega | (simp [ar, need] <;> omega) | (simp [ar, need] at * <;> omega)
      · obtain ⟨_, i2, h2, h⟩ := binds h
        have h3 := must_eq h2
        have h4 := ih _ _ _ _ h
        rw [ills_app, ills_cons, ills_nil] at h4
        first | omega | (simp [ar, need] <;> omega) | (simp [ar, need] at * <;> omega)
theorem list_kw {opn shut : ByteArray} {begins : Nat → Bool} {part : Nat → PR Tr} (hp : ∀ i, Kw i (part i)) {k i j : Nat} {t : List Tr} (h : listP l opn shut begins part k i = .ok t j) : Tr.ills t ≤ 0 := by
  unfold listP at h
  obtain ⟨_, i1, h1, h⟩ := binds h
  have h2 := must_eq h1
  split at h
  · cases h
    rw [ills_nil]; first | omega | (simp [ar, need] <;> omega) | (simp [ar, need] at * <;> omega)
  · have := listLoop_kw hp _ _ _ _ _ h
    rw [ills_nil] at this
    first | omega | (simp [ar, need] <;> omega) | (simp [ar, need] at * <;> omega)
structure FKw (F : Fns) : Prop where
  st : ∀ d i, Kw i (F.st d i)
  vl : ∀ d i, Kw i (F.vl d i)
  pr : ∀ b d i, Kw i (F.pr b d i)
  sg : ∀ d i, Kw i (F.sg d i)
variable {F : Fns} (hF : FKw F)
include hF
theorem blockLoop_kw {d : Nat} : ∀ k acc i t j, blockLoop l F d k acc i = .ok t j → Tr.ills t ≤ Tr.ills acc := by
  intro k
  induction k with
  | zero => intro acc i t j h; cases h
  | succ k ih =>
    intro acc i t j h
    unfold blockLoop at h
    split at h
    · cases h; first | omega | (simp [ar, need] <;> omega) | (simp [ar, need] at * <;> omega)
    · obtain ⟨u, i1, h1, h⟩ := binds h
      have h2 := deep_kw (l := l) (hF.st _ _) u i1 h1
      have h4 := ih _ _ _ _ h
      rw [ills_app, ills_cons, ills_nil] at h4
      first | omega | (simp [ar, need] <;> omega) | (simp [ar, need] at * <;> omega)
theorem block_kw {d i j : Nat} {t : Tr} (h : blockP l F d i = .ok t j) : t.ill ≤ 0 := by
  unfold blockP at h
  obtain ⟨_, i1, h1, h⟩ := binds h
  obtain ⟨ts, i2, h2, h⟩ := binds h
  cases h
  have h3 := must_eq h1
  have h4 := blockLoop_kw hF _ _ _ _ _ h2
  rw [ills_nil] at h4
  rw [ill_mk]; first | omega | (simp [ar, need] <;> omega) | (simp [ar, need] at * <;> omega)
omit hF in
theorem param_kw (i : Nat) : Kw i (paramP l i) := by
  intro t j h
  unfold paramP at h
  obtain ⟨_, i1, h1, h⟩ := binds h
  cases h
  have := name_eq h1
  rw [ill_mk, ills_nil]; first | omega | (simp [ar, need] <;> omega) | (simp [ar, need] at * <;> omega)
omit hF in
theorem params_kw {i j : Nat} {t : Tr} (h : paramsP l F i = .ok t j) : t.ill ≤ 0 := by
  unfold paramsP at h
  obtain ⟨ts, i1, h1, h⟩ := binds h
  cases h
  have := list_kw param_kw h1
  rw [ill_mk]; first | omega | (simp [ar, need] <;> omega) | (simp [ar, need] at * <;> omega)
theorem arg_kw (d i : Nat) : Kw i (argP l F d i) := deep_kw (hF.vl _ _)
theorem prop_kw (d i : Nat) : Kw i (propP l F d i) := by
  intro t j h
  unfold propP at h
  obtain ⟨_, i1, h1, h⟩ := binds h
  obtain ⟨_, i2, h2, h⟩ := binds h
  obtain ⟨u, i3, h3, h⟩ := binds h
  cases h
  have e1 := name_eq h1
  have e2 := must_eq h2
  have e3 := deep_kw (l := l) (hF.vl _ _) u _ h3
  rw [ill_mk, ills_cons, ills_nil]; first | omega | (simp [ar, need] <;> omega) | (simp [ar, need] at * <;> omega)
theorem inPar_kw (d i : Nat) : Kw i (inParP l F d i) := by
  intro t j h
  unfold inParP at h
  obtain ⟨_, i1, h1, h⟩ := binds h
  obtain ⟨u, i2, h2, h⟩ := binds h
  obtain ⟨_, i3, h3, h⟩ := binds h
  cases h
  have e1 := must_eq h1
  have e2 := deep_kw (l := l) (hF.vl _ _) _ _ h2
  have e3 := must_eq h3
  first | omega | (simp [ar, need] <;> omega) | (simp [ar, need] at * <;> omega)
theorem object_kw (d i : Nat) : Kw i (objectP l F d i) := by
  intro t j h
  unfold objectP at h
  obtain ⟨ts, i1, h1, h⟩ := binds h
  cases h
  have := list_kw (prop_kw hF d) h1
  rw [ill_mk]; first | omega | (simp [ar, need] <;> omega) | (simp [ar, need] at * <;> omega)
theorem tail_kw {kd : Int} {s : ByteArray} {d i j : Nat} {t : Tr} (h : funcTail l F kd s d i = .ok t j) : t.ill ≤ 0 := by
  unfold funcTail at h
  obtain ⟨ps, i1, h1, h⟩ := binds h
  obtain ⟨b, i2, h2, h⟩ := binds h
  cases h
  have e1 := params_kw h1
  have e2 := block_kw hF h2
  rw [ill_mk, ills_cons, ills_cons, ills_nil, code_ill, ar_two _ _ (by simp)]; omega
theorem lambda_kw (d i : Nat) : Kw i (lambdaP l F d i) := by
  intro t j h
  unfold lambdaP at h
  obtain ⟨_, i1, h1, h⟩ := binds h
  have e1 := must_eq h1
  split at h
  · obtain ⟨_, i2, h2, h⟩ := binds h
    have e2 := name_eq h2
    have := tail_kw hF h
    first | omega | (simp [ar, need] <;> omega) | (simp [ar, need] at * <;> omega)
  · have := tail_kw hF h
    first | omega | (simp [ar, need] <;> omega) | (simp [ar, need] at * <;> omega)
theorem func_kw (d i : Nat) : Kw i (funcP l F d i) := by
  intro t j h
  unfold funcP at h
  obtain ⟨_, i1, h1, h⟩ := binds h
  obtain ⟨_, i2, h2, h⟩ := binds h
  have e1 := must_eq h1
  have e2 := name_eq h2
  have := tail_kw hF h
  first | omega | (simp [ar, need] <;> omega) | (simp [ar, need] at * <;> omega)
theorem alone_kw (d i : Nat) : Kw i (aloneP l F d i) := by
  unfold aloneP
  split
  · exact inPar_kw hF d i
  · exact object_kw hF d i
  · exact lambda_kw hF d i
  · split
    · rename_i hsg; intro t j h; cases h; have h0 := sgP_ar0 hsg; rw [ill_mk, ills_nil]; show ar _ 0 + 0 ≤ 0; omega
    · split
      · intro t j h; cases h; rw [ill_mk, ills_nil]; first | omega | (simp [ar, need] <;> omega) | (simp [ar, need] at * <;> omega)
      · split
        · intro t j h; cases h; rw [ill_mk, ills_nil]; first | omega | (simp [ar, need] <;> omega) | (simp [ar, need] at * <;> omega)
        · split
          · intro t j h; cases h; rw [ill_mk, ills_nil]; first | omega | (simp [ar, need] <;> omega) | (simp [ar, need] at * <;> omega)
          · intro t j h; cases h
theorem askedLoop_kw {d : Nat} : ∀ k u i t j, askedLoop l F d k u i = .ok t j → t.ill ≤ u.ill := by
  intro k
  induction k with
  | zero => intro u i t j h; cases h
  | succ k ih =>
    intro u i t j h
    unfold askedLoop at h
    split at h
    · obtain ⟨s, i1, h1, h⟩ := binds h
      have e1 := name_eq h1
      have e2 := ih _ _ _ _ h
      rw [ill_mk, ills_cons, ills_nil] at e2
      have hk36 : ∀ n, ar 36 n = 0 := ar_small (by decide); rw [hk36] at e2
      omega
    · split at h
      · obtain ⟨ts, i1, h1, h⟩ := binds h
        have e1 := list_kw (arg_kw hF d) h1
        have e2 := ih _ _ _ _ h
        rw [ill_mk, ills_cons] at e2
        have hk35 : ∀ n, ar 35 (n + 1) = 0 := (fun n => by simp [ar, need]); rw [List.length_cons, hk35] at e2
        omega
      · cases h; first | omega | (simp [ar, need] <;> omega) | (simp [ar, need] at * <;> omega)
theorem asked_kw (d i : Nat) : Kw i (askedP l F d i) := by
  intro t j h
  unfold askedP at h
  obtain ⟨u, i1, h1, h⟩ := binds h
  have e1 := alone_kw hF d i u i1 h1
  have e2 := askedLoop_kw hF _ _ _ _ _ h
  first | omega | (simp [ar, need] <;> omega) | (simp [ar, need] at * <;> omega)
theorem single_kw (d i : Nat) : Kw i (singleP l F d i) := by
  unfold singleP
  split
  · rename_i hsg
    intro t j h
    obtain ⟨u, i1, h1, h⟩ := binds h
    cases h
    have := deep_kw (l := l) (hF.sg _ _) u _ h1
    have h0 := sgP_ar1 hsg; rw [ill_mk, ills_cons, ills_nil]; show ar _ 1 + _ ≤ 0; omega
  · exact asked_kw hF d i
theorem pairLoop_kw {b : Int} {d : Nat} : ∀ k u i t j, pairLoop l F b d k u i = .ok t j → t.ill ≤ u.ill := by
  intro k
  induction k with
  | zero => intro u i t j h; cases h
  | succ k ih =>
    intro u i t j h
    unfold pairLoop at h
    split at h
    · cases h; first | omega | (simp [ar, need] <;> omega) | (simp [ar, need] at * <;> omega)
    · rename_i hsg
      split at h
      · cases h; first | omega | (simp [ar, need] <;> omega) | (simp [ar, need] at * <;> omega)
      · obtain ⟨v, i1, h1, h⟩ := binds h
        have e1 := hF.pr _ _ _ v i1 h1
        have e2 := ih _ _ _ _ h
        rw [ill_mk, ills_cons, ills_cons, ills_nil, ar_two _ _ (by simp)] at e2
        omega
theorem pair_kw (b : Int) (d i : Nat) : Kw i (pairP l F b d i) := by
  intro t j h
  unfold pairP at h
  obtain ⟨u, i1, h1, h⟩ := binds h
  have e1 := hF.sg _ _ u i1 h1
  have e2 := pairLoop_kw hF _ _ _ _ _ h
  first | omega | (simp [ar, need] <;> omega) | (simp [ar, need] at * <;> omega)
theorem value_kw (d i : Nat) : Kw i (valueP l F d i) := by
  intro t j h
  unfold valueP at h
  obtain ⟨u, i1, h1, h⟩ := binds h
  have e1 := hF.pr _ _ _ u i1 h1
  split at h
  · split at h
    · obtain ⟨v, i2, h2, h⟩ := binds h
      cases h
      have e2 := deep_kw (l := l) (hF.vl _ _) v _ h2
      rw [ill_mk, ills_cons, ills_cons, ills_nil]; first | omega | (simp [ar, need] <;> omega) | (simp [ar, need] at * <;> omega)
    · cases h
  · cases h; exact e1
theorem part_kw (d q i : Nat) (hq : look2 stKeys (fx l i) = some q) : Kw i (partP l F d q i) := by
  rw [fx_tx hq] at hq
  intro t j h
  unfold partP at h
  split at h
  · unfold declP at h
    obtain ⟨s, i1, h1, h⟩ := binds h
    have e1 := name_eq h1
    split at h
    · cases h
    · split at h
      · obtain ⟨v, i2, h2, h⟩ := binds h
        obtain ⟨_, i3, h3, h⟩ := binds h
        cases h
        have e2 := deep_kw (l := l) (hF.vl _ _) v _ h2
        have e3 := must_eq h3
        rw [ill_mk, ills_cons, ills_nil, hd_kw hq (by decide)]; omega
      · obtain ⟨_, i3, h3, h⟩ := binds h
        cases h
        have e3 := must_eq h3
        rw [ill_mk, ills_nil, hd_kw hq (by decide)]; omega
  · exact func_kw hF d i t j h
  · have := block_kw hF h; first | omega | (simp [ar, need] <;> omega) | (simp [ar, need] at * <;> omega)
  · obtain ⟨_, i3, h3, h⟩ := binds h
    cases h
    have e3 := must_eq h3
    rw [ill_mk, ills_nil]; first | omega | (simp [ar, need] <;> omega) | (simp [ar, need] at * <;> omega)
  · unfold choiceP at h
    obtain ⟨v, i1, h1, h⟩ := binds h
    obtain ⟨s, i2, h2, h⟩ := binds h
    have e1 := inPar_kw hF d _ v i1 h1
    have e2 := deep_kw (l := l) (hF.st _ _) s _ h2
    split at h
    · obtain ⟨s2, i3, h3, h⟩ := binds h
      cases h
      have e3 := deep_kw (l := l) (hF.st _ _) s2 _ h3
      rw [ill_mk, ills_cons, ills_cons, ills_cons, ills_nil, ar_two _ _ (by simp)]; omega
    · cases h
      rw [ill_mk, ills_cons, ills_cons, ills_nil, ar_two _ _ (by simp)]; omega
  · unfold behindP at h
    obtain ⟨v, i1, h1, h⟩ := binds h
    obtain ⟨s, i2, h2, h⟩ := binds h
    cases h
    have e1 := inPar_kw hF d _ v i1 h1
    have e2 := deep_kw (l := l) (hF.st _ _) s _ h2
    rw [ill_mk, ills_cons, ills_cons, ills_nil, ar_two _ _ (by simp)]; omega
  · unfold givingP at h
    split at h
    · obtain ⟨v, i1, h1, h⟩ := binds h
      obtain ⟨_, i2, h2, h⟩ := binds h
      cases h
      have e1 := deep_kw (l := l) (hF.vl _ _) v _ h1
      have e2 := must_eq h2
      rw [ill_mk, ills_cons, ills_nil, hd_kw hq (by decide)]; omega
    · obtain ⟨_, i2, h2, h⟩ := binds h
      cases h
      have e2 := must_eq h2
      rw [ill_mk, ills_nil, hd_kw hq (by decide)]; omega
  · unfold attemptP at h
    obtain ⟨_, i0, h0, h⟩ := binds h
    obtain ⟨b, i1, h1, h⟩ := binds h
    obtain ⟨c, i2, h2, h⟩ := binds h
    obtain ⟨f, i3, h3, h⟩ := binds h
    have e0 := must_eq h0
    have e1 := block_kw hF h1
    have e2 : Tr.ills c ≤ 0 := by
      unfold catchP at h2
      split at h2
      · obtain ⟨_, k1, g1, h2⟩ := binds h2
        obtain ⟨_, k2, g2, h2⟩ := binds h2
        obtain ⟨_, k3, g3, h2⟩ := binds h2
        obtain ⟨bb, k4, g4, h2⟩ := binds h2
        cases h2
        have := must_eq g1
        have := name_eq g2
        have := must_eq g3
        have := block_kw hF g4
        rw [ills_cons, ill_mk, ills_cons, ills_nil]; first | omega | (simp [ar, need] <;> omega) | (simp [ar, need] at * <;> omega)
      · cases h2; rw [ills_nil]; first | omega | (simp [ar, need] <;> omega) | (simp [ar, need] at * <;> omega)
    have e3 : Tr.ills f ≤ 0 := by
      unfold finallyP at h3
      split at h3
      · obtain ⟨bb, k4, g4, h3⟩ := binds h3
        cases h3
        have := block_kw hF g4
        rw [ills_cons, ill_mk, ills_cons, ills_nil]; first | omega | (simp [ar, need] <;> omega) | (simp [ar, need] at * <;> omega)
      · cases h3; rw [ills_nil]; first | omega | (simp [ar, need] <;> omega) | (simp [ar, need] at * <;> omega)
    split at h
    · cases h
    · cases h
      rw [ill_mk, ills_cons, ills_app]; first | omega | (simp [ar, need] <;> omega) | (simp [ar, need] at * <;> omega)
theorem statement_kw (d i : Nat) : Kw i (statementP l F d i) := by
  unfold statementP
  split
  · rename_i q hq
    exact part_kw hF d _ i hq
  · intro t j h
    unfold exprP at h
    obtain ⟨v, i1, h1, h⟩ := binds h
    obtain ⟨_, i2, h2, h⟩ := binds h
    cases h
    have e1 := deep_kw (l := l) (hF.vl _ _) v _ h1
    have e2 := must_eq h2
    rw [ill_mk, ills_cons, ills_nil]; first | omega | (simp [ar, need] <;> omega) | (simp [ar, need] at * <;> omega)
omit hF in
theorem fns_kw : ∀ k, FKw (fns l k) := by
  intro k
  induction k with
  | zero => exact ⟨fun _ _ _ _ h => by (cases h), fun _ _ _ _ h => by (cases h), fun _ _ _ _ _ h => by (cases h), fun _ _ _ _ h => by (cases h)⟩
  | succ k ih => exact ⟨statement_kw ih, value_kw ih, pair_kw ih, single_kw ih⟩
theorem progLoop_kw : ∀ k acc i t j, progLoop l F k acc i = .ok t j → Tr.ills t ≤ Tr.ills acc := by
  intro k
  induction k with
  | zero => intro acc i t j h; cases h
  | succ k ih =>
    intro acc i t j h
    unfold progLoop at h
    split at h
    · cases h; first | omega | (simp [ar, need] <;> omega) | (simp [ar, need] at * <;> omega)
    · obtain ⟨u, i1, h1, h⟩ := binds h
      have h2 := deep_kw (l := l) (hF.st _ _) u i1 h1
      have h4 := ih _ _ _ _ h
      rw [ills_app, ills_cons, ills_nil] at h4
      first | omega | (simp [ar, need] <;> omega) | (simp [ar, need] at * <;> omega)
theorem prog_kw {t : Tr} {j : Nat} (h : progP l F = .ok t j) : t.ill ≤ 0 := by
  unfold progP at h
  obtain ⟨ts, i1, h1, h⟩ := binds h
  cases h
  have := progLoop_kw hF _ _ _ _ _ h1
  rw [ills_nil] at this
  rw [code_ill, ill_mk]; first | omega | (simp [ar, need] <;> omega) | (simp [ar, need] at * <;> omega)
end
theorem ills_all : ∀ (ks : List Tr), Tr.ills ks = 0 → ∀ k ∈ ks, k.ill = 0
  | [], _ => fun k hk => absurd hk (by simp)
  | t :: ts, h => fun k hk => by
    rw [ills_cons] at h
    rcases List.mem_cons.1 hk with rfl | hk
    · omega
    · exact ills_all ts (by omega) k hk
theorem ill_of (t : Tr) (h : t.ill = 0) : need t.kd ≤ t.kids.length ∧ ∀ k ∈ t.kids, k.ill = 0 := by
  cases t with
  | mk kd tx n ks =>
    rw [ill_mk] at h
    refine ⟨?_, ills_all ks (by omega)⟩
    have h1 : ar kd ks.length = 0 := by omega
    unfold ar at h1
    split at h1
    · assumption
    · omega
theorem prog_ill {l : List Tk} {t : Tr} {j k : Nat} (h : progP l (fns l k) = .ok t j) : t.ill = 0 := by
  have h1 : t.ill ≤ 0 := prog_kw (fns_kw k) h
  exact Nat.le_zero.1 h1
theorem parse_ill {ws gs : List ByteArray} {s : ByteArray} {t : Tr} (h : parseS ws gs s = .ok t) : t.ill = 0 := by
  unfold parseS at h
  split at h
  · cases h
  · split at h
    · cases h
    · rename_i l _
      cases hp : progP l (fns l KK) with
      | out => rw [hp] at h; cases h
      | bad er p => rw [hp] at h; cases h
      | ok t2 j =>
        rw [hp] at h
        simp only at h
        split at h
        · cases h
        · cases h
          exact prog_ill hp
end Go.Proofs.YtoimgcjbcbhclaaGreatDoor
