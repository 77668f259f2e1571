/-
  The document's parser: statements.
-/
import Derived.Test.YtodmgaikhbmlnaaGreatDoorEc38
set_option maxRecDepth 100000
set_option maxHeartbeats 16000000
namespace Go.Proofs.YtodmgaikhbmlnaaGreatDoor
open Go.RowKit
abbrev nd0 : Obj := nodeObj 0 noText 0 (.slice none 0 0)
structure Stn (c : PC) (w : World) (i : Nat) (W : World) : Prop where
 ps : Ps c W i 0 (-1)
 nd : W.heap[w.heap.size]? = some nd0
 ap : Ap c.P w.heap.size w W
section
variable {c : PC} {w : World}
include c w
theorem Stn.new {i : Nat} (h : Ps c w i 0 (-1)) : Stn c w i (w.alloc nd0) := ⟨h.alloc _, heap_new _ _, (Ap.refl c.P w.heap.size w).alloc (Nat.le_refl _) _⟩
theorem Stn.below {i : Nat} {W W' : World} (h : Stn c w i W) (hb : Below W.heap.size W W') : Stn c w i W' := ⟨h.ps.later hb, (hb.block _ (lt_of_heap h.nd)).trans h.nd, h.ap.next (Ap.of hb)⟩
theorem Stn.on {i j : Nat} {W W' : World} (h : Stn c w i W) (hP : c.P < w.heap.size) (hp : Ps c W' j 0 (-1)) (ha : Ap c.P W.heap.size W W') : Stn c w j W' := ⟨hp, (ha.block _ (lt_of_heap h.nd) (by omega)).trans h.nd, h.ap.next ha⟩
end
theorem st_done {B N : Nat} {W : World} {kd z : Int} {tx : ByteArray} {u : Value} {ps : List Nat} {ks : List Tr} (hB : B ≤ N) (hb : W.heap[N]? = some (nodeObj kd tx z u)) (hr : W.ownsRow B 22 1 u ps.length (ps.map nPtr)) (hk : NAts (fun b => B ≤ b) W ks ps) : NV B W (.mk kd tx z ks) (nPtr N) := by
 refine ⟨N, rfl, ?_⟩
 rw [NAt]
 exact ⟨hB, u, ps, hb, ⟨owns_zero hr, fun g hg => (own_lt hr g hg).2⟩, hk⟩
theorem st_row {B N z4 n : Nat} {w5 X : World} {kd z : Int} {tx : ByteArray} {ks : List Tr} {ps : List Nat} (hBN : B ≤ N) (hN : N < z4) (hX : ∀ b, b ≠ N → X.heap[b]? = w5.heap[b]?) (hz : X.heap.size = w5.heap.size) (h5 : z4 ≤ w5.heap.size)
  (nb : X.heap[N]? = some (nodeObj kd tx z (.slice (some ⟨w5.heap.size, 0, none⟩) n n))) (hk : NAts (fun b => z4 ≤ b) w5 ks ps) (hn : n = ps.length) (cs : Array Value) (hc : cs.toList = ps.map nPtr) (hl : ps.length ≤ maxLen) : NV B (X.alloc (.cells cs 22)) (.mk kd tx z ks) (nPtr N) := by
 subst hn
 have hcs : cs.size = ps.length * 1 := by rw [← Array.length_toList, hc]; simp
 have ho := World.ownsRow_lit (base := B) (e := 22) (size := 1) X cs ps.length (by omega) hl hcs
 rw [hz, hc] at ho
 refine st_done hBN (by rw [Below.heap_alloc _ _ _ (by omega)]; exact nb) ho ?_
 have hs : Stay (fun b => z4 ≤ b) w5 (X.alloc (.cells cs 22)) := fun b hb hl => by rw [Below.heap_alloc _ _ _ (by omega)]; exact hX b (by have : z4 ≤ b := hb; omega)
 exact NAts.mono (fun b hb _ => by have : z4 ≤ b := hb; omega) _ _ (NAts.later hs _ _ hk)
theorem set2 (w5 : World) (N : Nat) (a b : Value) : ∀ k, k ≠ N → ((w5.setCell ⟨N, 0, none⟩ a).setCell ⟨N, 3, none⟩ b).heap[k]? = w5.heap[k]? := fun k hk => by rw [Below.heap_setCell _ _ _ k (by first | exact hk | exact Ne.symm hk), Below.heap_setCell _ _ _ k (by first | exact hk | exact Ne.symm hk)]
theorem set1 (w5 : World) (N : Nat) (b : Value) : ∀ k, k ≠ N → (w5.setCell ⟨N, 3, none⟩ b).heap[k]? = w5.heap[k]? := fun k hk => by rw [Below.heap_setCell _ _ _ k (by first | exact hk | exact Ne.symm hk)]
theorem owns_nil {B : Nat} {W : World} : W.ownsRow B 22 1 (.slice none 0 0) ([] : List Nat).length (([] : List Nat).map nPtr) := ⟨rfl, Or.inl ⟨rfl, rfl⟩⟩
section
variable {c : PC} {F : Fns} (hF : RCt c F) (hN : ∃ k, FNx c.l k F) (hK : FOk F) (w : World) (d i : Nat) (r : PR Tr) (hd : d ≤ 30)
include c F hF hN hK w d i r hd
open zrqek in
theorem rst_block (hf : fx c.l i = tLBrace) (hs : r = blockP c.l F d i) (ho : r ≠ .out) (h : Ps c w i 0 (-1)) :
  Calls Tryz.prog 47 #[pPtr c, .int .i64 (d : Int)] w (QPost c w (NV w.heap.size) ZN r) := by
 exact zrq
open zrqei in
theorem rst_empty (hf : fx c.l i = tSemi) (hs : r = .ok (.mk 16 noText 0 []) (i + 1)) (ho : r ≠ .out) (h : Ps c w i 0 (-1)) :
  Calls Tryz.prog 47 #[pPtr c, .int .i64 (d : Int)] w (QPost c w (NV w.heap.size) ZN r) := by
 exact zrq
open zrqej in
theorem rst_func (hf : fx c.l i = tFunction) (hs : r = (nameP c.l (i + 1)).bind fun s i2 => rfuncTail c.l F 5 s d i2) (ho : r ≠ .out) (h : Ps c w i 0 (-1)) :
  Calls Tryz.prog 47 #[pPtr c, .int .i64 (d : Int)] w (QPost c w (NV w.heap.size) ZN r) := by
 exact zro
open zrqeg in
theorem rst_throw (hf : fx c.l i = tThrow) (hs : r = (deepP c.l F.vl d (i + 1)).bind fun v i1 => (mustP c.l tSemi i1).bind fun _ i2 => .ok (.mk 11 noText 0 [v]) i2) (ho : r ≠ .out) (h : Ps c w i 0 (-1)) :
  Calls Tryz.prog 47 #[pPtr c, .int .i64 (d : Int)] w (QPost c w (NV w.heap.size) ZN r) := by
 exact zrn
open zrqeh in
theorem rst_expr (n0 : ¬ fx c.l i = tLBrace) (n1 : ¬ fx c.l i = tSemi) (n2 : ¬ fx c.l i = tFunction) (n3 : ¬ fx c.l i = tIf) (n4 : ¬ fx c.l i = tWhile) (n5 : ¬ fx c.l i = tWith) (n6 : ¬ fx c.l i = tTry) (n7 : ¬ fx c.l i = tVar) (n8 : ¬ fx c.l i = tLet) (n9 : ¬ fx c.l i = tConst) (n10 : ¬ fx c.l i = tReturn) (n11 : ¬ fx c.l i = tThrow) (hs : r = (deepP c.l F.vl d i).bind fun v i1 => (mustP c.l tSemi i1).bind fun _ i2 => .ok (.mk 15 noText 0 [v]) i2) (ho : r ≠ .out) (h : Ps c w i 0 (-1)) :
  Calls Tryz.prog 47 #[pPtr c, .int .i64 (d : Int)] w (QPost c w (NV w.heap.size) ZN r) := by
 exact zrq
end
structure Stk (c : PC) (w : World) (k : Int) (i : Nat) (W : World) : Prop where
 ps : Ps c W i 0 (-1)
 nd : W.heap[w.heap.size]? = some (nodeObj k noText 0 (.slice none 0 0))
 ap : Ap c.P w.heap.size w W
section
variable {c : PC} {w : World}
include c w
theorem Stk.below {k : Int} {i : Nat} {W W' : World} (h : Stk c w k i W) (hb : Below W.heap.size W W') : Stk c w k i W' := ⟨h.ps.later hb, (hb.block _ (lt_of_heap h.nd)).trans h.nd, h.ap.next (Ap.of hb)⟩
theorem Stn.kind {i : Nat} {W : World} (h : Stn c w i W) (hlo : c.lo ≤ w.heap.size) (k : Int) : Stk c w k i (W.setCell ⟨w.heap.size, 0, none⟩ (.int .i64 k)) :=
 ⟨h.ps.ap ((Below.refl w.heap.size W).setCell (p := ⟨w.heap.size, 0, none⟩) (Nat.le_refl _) _) hlo, by rw [heap_set h.nd]; rfl, h.ap.setCell (p := ⟨w.heap.size, 0, none⟩) (Or.inl (Nat.le_refl _)) _⟩
theorem Stk.kind {k0 : Int} {i : Nat} {W : World} (h : Stk c w k0 i W) (hlo : c.lo ≤ w.heap.size) (k : Int) : Stk c w k i (W.setCell ⟨w.heap.size, 0, none⟩ (.int .i64 k)) :=
 ⟨h.ps.ap ((Below.refl w.heap.size W).setCell (p := ⟨w.heap.size, 0, none⟩) (Nat.le_refl _) _) hlo, by rw [heap_set h.nd]; rfl, h.ap.setCell (p := ⟨w.heap.size, 0, none⟩) (Or.inl (Nat.le_refl _)) _⟩
theorem Stk.stepped {k : Int} {i : Nat} {W : World} (h : Stk c w k i W) (hP : c.P < w.heap.size) (hl : i + 1 < c.l.length) : Stk c w k (i + 1) (W.setCell ⟨c.P, 1, none⟩ (.int .i64 ((i : Int) + 1))) := by
 have hn : ((i : Int) + 1) = (((i + 1 : Nat)) : Int) := by omega
 rw [hn]
 exact ⟨h.ps.step hl, by rw [Below.heap_setCell _ _ _ _ (by first | exact Nat.ne_of_gt hP | exact Nat.ne_of_lt hP)]; exact h.nd, h.ap.setCell (p := ⟨c.P, 1, none⟩) (Or.inr rfl) _⟩
end
section
variable {c : PC} {F : Fns} (hF : RCt c F) (hN : ∃ k, FNx c.l k F) (hK : FOk F) (w : World) (d i : Nat) (r : PR Tr) (hd : d ≤ 30)
include c F hF hN hK w d i r hd
open zrqel in
theorem rst_return (hf : fx c.l i = tReturn) (hs : r = if ¬ fx c.l (i + 1) = tSemi then (deepP c.l F.vl d (i + 1)).bind fun v i1 => (mustP c.l tSemi i1).bind fun _ i2 => .ok (.mk 10 noText 0 [v]) i2 else (mustP c.l tSemi (i + 1)).bind fun _ i2 => .ok (.mk 10 noText 0 []) i2) (ho : r ≠ .out) (h : Ps c w i 0 (-1)) :
  Calls Tryz.prog 47 #[pPtr c, .int .i64 (d : Int)] w (QPost c w (NV w.heap.size) ZN r) := by
 exact zrn
open zrqen in
theorem rst_while (hf : fx c.l i = tWhile) (hs : r = (inParP c.l F d (i + 1)).bind fun v i1 => (deepP c.l F.st d i1).bind fun s i2 => .ok (.mk 8 noText 0 [v, s]) i2) (ho : r ≠ .out) (h : Ps c w i 0 (-1)) :
  Calls Tryz.prog 47 #[pPtr c, .int .i64 (d : Int)] w (QPost c w (NV w.heap.size) ZN r) := by
 exact zrn
open zrqem in
theorem rst_with (hf : fx c.l i = tWith) (hs : r = (inParP c.l F d (i + 1)).bind fun v i1 => (deepP c.l F.st d i1).bind fun s i2 => .ok (.mk 9 noText 0 [v, s]) i2) (ho : r ≠ .out) (h : Ps c w i 0 (-1)) :
  Calls Tryz.prog 47 #[pPtr c, .int .i64 (d : Int)] w (QPost c w (NV w.heap.size) ZN r) := by
 exact zrn
end
theorem rpart_kd {l : List Tk} {F : Fns} {d q i j : Nat} {t : Tr} (h : rpartP l F d q i = .ok t j) : t.kd ≠ 15 := by
 by_cases hq : q = 1
 ·
  subst hq; have h' : rfuncP l F d i = .ok t j := h; unfold rfuncP at h'; obtain ⟨_, _, _, h'⟩ := bind_inv h'; obtain ⟨s, _, _, h'⟩ := bind_inv h'; unfold rfuncTail at h'; obtain ⟨ps, _, _, h'⟩ := bind_inv h'
  obtain ⟨b, _, _, h'⟩ := bind_inv h'
  cases h'
  show (5 : Int) ≠ 15
  decide
 ·
  have he : rpartP l F d q i = partP l F d q i := by
   match q with
   | 0 => rfl
   | 1 => exact absurd rfl hq
   | 2 => rfl
   | 3 => rfl
   | 4 => rfl
   | 5 => rfl
   | 6 => rfl
   | n + 7 => rfl
  rw [he] at h; exact part_kd h
theorem rfns_ok (l : List Tk) : ∀ k, FOk (rfns l k) := by
 intro k
 cases k with
 | zero => intro d i t j h; cases h
 | succ k =>
  intro d i t j h h15; have h' : rstatementP l (rfns l k) d i = .ok t j := h; unfold rstatementP at h'
  split at h'
  ·
   exact absurd h15 (rpart_kd h')
  ·
   exact zbgi
structure RestC (c : PC) (F : Fns) : Prop where
 choice : ∀ w d i r, d ≤ 30 → fx c.l i = tIf → r = choiceP c.l F d i → r ≠ .out → Ps c w i 0 (-1) → Calls Tryz.prog 47 #[pPtr c, .int .i64 (d : Int)] w (QPost c w (NV w.heap.size) ZN r)
 attempt : ∀ w d i r, d ≤ 30 → fx c.l i = tTry → r = attemptP c.l F d i → r ≠ .out → Ps c w i 0 (-1) → Calls Tryz.prog 47 #[pPtr c, .int .i64 (d : Int)] w (QPost c w (NV w.heap.size) ZN r)
 decl : ∀ w d i r, d ≤ 30 → (fx c.l i = tVar ∨ fx c.l i = tLet ∨ fx c.l i = tConst) → r = declP c.l F d i → r ≠ .out → Ps c w i 0 (-1) → Calls Tryz.prog 47 #[pPtr c, .int .i64 (d : Int)] w (QPost c w (NV w.heap.size) ZN r)
theorem st_part {l : List Tk} {F : Fns} {d i : Nat} {r : PR Tr} {s : ByteArray} (q : Nat) (hf : fx l i = s) (hk : look2 stKeys s = some q) (hs : r = rstatementP l F d i) : r = rpartP l F d q i := by
 unfold rstatementP at hs
 rw [hf, hk] at hs
 exact hs
theorem tx_of {l : List Tk} {i : Nat} {s : ByteArray} (hs : s ≠ noText) (hf : fx l i = s) : (tkA l i).tx = s := ((fx_is hs).1 hf).2
theorem rst_any {c : PC} {F : Fns} (hF : RCt c F) (hN : ∃ k, FNx c.l k F) (hK : FOk F) (hR : RestC c F) (w : World) (d i : Nat) (r : PR Tr) (hd : d ≤ 30) (hs : r = rstatementP c.l F d i) (ho : r ≠ .out) (h : Ps c w i 0 (-1)) :
  Calls Tryz.prog 47 #[pPtr c, .int .i64 (d : Int)] w (QPost c w (NV w.heap.size) ZN r) := by
 by_cases n0 : fx c.l i = tLBrace
 ·
  exact rst_block hF hN hK w d i r hd n0 (st_part 2 n0 (by decide +kernel) hs) ho h
 by_cases n1 : fx c.l i = tSemi
 ·
  have h1 : r = (mustP c.l tSemi i).bind fun _ i1 => .ok (.mk 16 noText 0 []) i1 := st_part 3 n1 (by decide +kernel) hs; unfold mustP at h1; rw [if_pos n1] at h1; exact rst_empty hF hN hK w d i r hd n1 h1 ho h
 by_cases n2 : fx c.l i = tFunction
 ·
  have h1 : r = (mustP c.l tFunction i).bind fun _ i1 => (nameP c.l i1).bind fun s i2 => rfuncTail c.l F 5 s d i2 := st_part 1 n2 (by decide +kernel) hs; unfold mustP at h1; rw [if_pos n2] at h1
  exact rst_func hF hN hK w d i r hd n2 h1 ho h
 by_cases n3 : fx c.l i = tIf
 ·
  exact hR.choice w d i r hd n3 (st_part 4 n3 (by decide +kernel) hs) ho h
 by_cases n4 : fx c.l i = tWhile
 ·
  have h1 : r = behindP c.l F d i := st_part 5 n4 (by decide +kernel) hs; unfold behindP at h1; rw [tx_of (by decide) n4, show hdKind tWhile = 8 from by decide +kernel] at h1; exact rst_while hF hN hK w d i r hd n4 h1 ho h
 by_cases n5 : fx c.l i = tWith
 ·
  have h1 : r = behindP c.l F d i := st_part 5 n5 (by decide +kernel) hs; unfold behindP at h1; rw [tx_of (by decide) n5, show hdKind tWith = 9 from by decide +kernel] at h1; exact rst_with hF hN hK w d i r hd n5 h1 ho h
 by_cases n6 : fx c.l i = tTry
 ·
  exact hR.attempt w d i r hd n6 (st_part 7 n6 (by decide +kernel) hs) ho h
 by_cases n7 : fx c.l i = tVar
 ·
  exact hR.decl w d i r hd (Or.inl n7) (st_part 0 n7 (by decide +kernel) hs) ho h
 by_cases n8 : fx c.l i = tLet
 ·
  exact hR.decl w d i r hd (Or.inr (Or.inl n8)) (st_part 0 n8 (by decide +kernel) hs) ho h
 by_cases n9 : fx c.l i = tConst
 ·
  exact hR.decl w d i r hd (Or.inr (Or.inr n9)) (st_part 0 n9 (by decide +kernel) hs) ho h
 by_cases n10 : fx c.l i = tReturn
 ·
  have h1 : r = givingP c.l F d i := st_part 6 n10 (by decide +kernel) hs; unfold givingP at h1; rw [tx_of (by decide) n10, show hdKind tReturn = 10 from by decide +kernel] at h1
  have h2 : ((10 : Int) = 11 ∨ ¬ fx c.l (i + 1) = tSemi) ↔ ¬ fx c.l (i + 1) = tSemi := ⟨fun h => h.resolve_left (by decide), Or.inr⟩; simp only [h2] at h1; exact rst_return hF hN hK w d i r hd n10 h1 ho h
 by_cases n11 : fx c.l i = tThrow
 ·
  have h1 : r = givingP c.l F d i := st_part 6 n11 (by decide +kernel) hs; unfold givingP at h1; rw [tx_of (by decide) n11, show hdKind tThrow = 11 from by decide +kernel, if_pos (Or.inl rfl)] at h1
  exact rst_throw hF hN hK w d i r hd n11 h1 ho h
 have hno : look2 stKeys (fx c.l i) = none := by
  unfold look2 stKeys; simp [n0, n1, n2, n3, n4, n5, n6, n7, n8, n9, n10, n11]
 unfold rstatementP at hs
 rw [hno] at hs
 exact rst_expr hF hN hK w d i r hd n0 n1 n2 n3 n4 n5 n6 n7 n8 n9 n10 n11 hs ho h
section
variable (c : PC) (w : World) (i : Nat) (h : Ps c w i 0 (-1))
include c w i h
theorem rst_limit :
  Calls Tryz.prog 47 #[pPtr c, .int .i64 31] w (QPost c w (NV w.heap.size) ZN (badF (α := Tr) c.l 4 i)) := by
 have HC := hide (rfail_new c w i 4 (by decide) h)
 clear h
 go_enter Tryz.func47, Tryz.ntmps47
 go_wp2_with fail
 refine cm HC.out ?_
 rintro e w2 ⟨⟨v, rfl, q, rfl⟩, hp, he, ha⟩
 have HP2 := hide hp
 have HA2 := hide ha
 clear hp ha HC
 exact zbcw
theorem rvalue_limit :
  Calls Tryz.prog 107 #[pPtr c, .int .i64 31] w (QPost c w (NV w.heap.size) ZN (badF (α := Tr) c.l 4 i)) := by
 have HC := hide (rok_new h)
 have HC2 := hide (rfail_new c w i 4 (by decide) h)
 clear h
 go_enter Tryz.func107, Tryz.ntmps107
 go_wp2_with fail
 refine cm HC.out ?_
 rintro e w1 ⟨rfl, rfl⟩
 clear HC
 go_wp2_with fail
 refine cm HC2.out ?_
 rintro e w2 ⟨⟨v, rfl, q, rfl⟩, hp, he, ha⟩
 have HP2 := hide hp
 have HA2 := hide ha
 clear hp ha HC2
 exact zbcw
end
theorem rfns_does {c : PC} (hE : Ends c.l) (hR : ∀ F, RCt c F → (∃ k, FNx c.l k F) → FOk F → RestC c F) : ∀ k, RCt c (rfns c.l k) := by
 intro k
 induction k with
 | zero =>
  refine ⟨?_, ?_, ?_, ?_⟩
  ·
   intro w d i r hd hs ho h; unfold deepP at hs
   by_cases h30 : d = 30
   ·
    rw [if_pos h30] at hs; subst h30; rw [hs]; exact rst_limit c w i h
   ·
    rw [if_neg h30] at hs; exact absurd hs ho
  ·
   intro w d i r hd hs ho h; unfold deepP at hs
   by_cases h30 : d = 30
   ·
    rw [if_pos h30] at hs; subst h30; rw [hs]; exact rvalue_limit c w i h
   ·
    rw [if_neg h30] at hs; exact absurd hs ho
  ·
   intro w d i r g hd hs ho _ _ _; exact absurd hs ho
  ·
   intro w d i r hd hs ho _; exact absurd hs ho
 | succ k ih =>
  have hN : ∃ k', FNx c.l k' (rfns c.l k) := ⟨k, rfns_nx hE k⟩; have hK := rfns_ok c.l k; refine ⟨?_, ?_, ?_, ?_⟩
  ·
   intro w d i r hd hs ho h
   by_cases h30 : d = 30
   ·
    subst h30; have h1 : r = badF c.l 4 i := by unfold deepP at hs; rw [if_pos rfl] at hs; exact hs
    rw [h1]; exact rst_limit c w i h
   ·
    have h1 : r = rstatementP c.l (rfns c.l k) (d + 1) i := by unfold deepP at hs; rw [if_neg h30] at hs; exact hs
    have h2 := rst_any ih hN hK (hR _ ih hN hK) w (d + 1) i r (by omega) h1 ho h; have h3 : (((d + 1 : Nat) : Nat) : Int) = (d : Int) + 1 := by omega
    rw [h3] at h2; exact h2
  ·
   intro w d i r hd hs ho h; exact rvalue_any ih w d i r hd hs ho h
  ·
   intro w d i r g hd hs ho h hk hg; exact rpr_any ih w d i r g hd hs ho h hk hg
  ·
   intro w d i r hd hs ho h; exact rsingle_any ih hN hK w d i r hd hs ho h
theorem st_open {B N z4 n : Nat} {w5 X : World} {kd z : Int} {tx : ByteArray} {ks : List Tr} {ps : List Nat} (hBN : B ≤ N) (hN : N < z4) (hX : ∀ b, b ≠ N → X.heap[b]? = w5.heap[b]?) (hz : X.heap.size = w5.heap.size) (h5 : z4 ≤ w5.heap.size)
  (nb : X.heap[N]? = some (nodeObj kd tx z (.slice (some ⟨w5.heap.size, 0, none⟩) n n))) (hk : NAts (fun b => z4 ≤ b) w5 ks ps) (hn : n = ps.length) (cs : Array Value) (hc : cs.toList = ps.map nPtr) (hl : ps.length ≤ maxLen) : Open B (X.alloc (.cells cs 22)) (.mk kd tx z ks) N (.slice (some ⟨w5.heap.size, 0, none⟩) n n) ps := by
 subst hn
 have hcs : cs.size = ps.length * 1 := by rw [← Array.length_toList, hc]; simp
 have ho := World.ownsRow_lit (base := B) (e := 22) (size := 1) X cs ps.length (by omega) hl hcs
 rw [hz, hc] at ho
 refine ⟨hBN, by rw [Below.heap_alloc _ _ _ (by omega)]; exact nb, ho, ?_, ?_⟩
 ·
  intro e; simp only [Value.ownBlock, Option.some.injEq] at e; omega
 ·
  have hs : Stay (fun b => z4 ≤ b ∧ b < w5.heap.size) w5 (X.alloc (.cells cs 22)) := fun b hb hl => by rw [Below.heap_alloc _ _ _ (by omega)]; exact hX b (by have : z4 ≤ b := hb.1; omega)
  have h1 := NAts.mono (J := fun b => z4 ≤ b ∧ b < w5.heap.size) (fun b hb hl => ⟨hb, hl⟩) _ _ hk; exact NAts.mono (fun b hb _ => by
   have h2 : z4 ≤ b ∧ b < w5.heap.size := hb; refine ⟨by omega, by omega, fun e => ?_⟩; simp only [Value.ownBlock, Option.some.injEq] at e; omega) _ _ (NAts.later hs _ _ h1)
theorem Open.nv {B : Nat} {w : World} {t : Tr} {p : Nat} {u : Value} {ps : List Nat} (h : Open B w t p u ps) : NV B w t (nPtr p) := h.ev.nv
theorem Open.stay {R B : Nat} {w w' : World} {t : Tr} {p : Nat} {u : Value} {ps : List Nat} (h : Open B w t p u ps) (ha : Ap R w.heap.size w w') (hB : R < B) : Open B w' t p u ps :=
 ⟨h.low, by rw [ha.block p (lt_of_heap h.blk) (by have := h.low; omega)]; exact h.blk, owns_stay (I := fun b => B ≤ b) (Stay.of_ap ha hB fun _ h => h) (fun g hg => (own_lt h.row g hg).2) h.row, h.own, NAts.later (Stay.of_ap ha hB fun _ h => h.1) _ _ h.kids⟩
theorem Open.grows {B : Nat} {w1 w2 w3 : World} {t : Tr} {p : Nat} {u v : Value} {ps : List Nat} (h : Open B w1 t p u ps) (hb : Below B w1 w2) (hB : B ≤ w2.heap.size) (hgr : w2.grownBy w3 u.ownBlock) : Below B w1 (w3.setCell ⟨p, 3, none⟩ v) :=
 (hb.grown hgr hB (fun k hk => (own_lt h.row k hk).2)).setCell (p := ⟨p, 3, none⟩) h.low _
theorem Open.push {B : Nat} {w2 w3 : World} {t x : Tr} {p q g cap n : Nat} {u : Value} {ps : List Nat} (h : Open B w2 t p u ps) (hx : NAts (fun b => B ≤ b ∧ b ≠ p ∧ u.ownBlock ≠ some b) w2 [x] [q]) (hn : n = t.kids.length + 1)
  (hown : w3.ownsRow B 22 1 (.slice (some ⟨g, 0, none⟩) n cap) n (ps.map nPtr ++ [nPtr q])) (hgr : w2.grownBy w3 u.ownBlock) (hg : u.ownBlock = some g ∨ g = w2.heap.size) :
  EV B (w3.setCell ⟨p, 3, none⟩ (.slice (some ⟨g, 0, none⟩) n cap)) (.mk t.kd t.tx t.n (t.kids ++ [x])) (nPtr p) :=
 ev_push h.low h.blk h.own h.kids hx (by rw [List.map_append]; exact hown) (by rw [hn]; simp [NAts.length _ _ h.kids]) hgr hg
theorem Open.apart2 {B Z : Nat} {w w1 : World} {t : Tr} {p : Nat} {u : Value} {ps : List Nat} (h : Open B w t p u ps) (hB : B ≤ w.heap.size) (hZ : w.heap.size ≤ Z) {us : List Tr} {qs : List Nat} (hn : NAts (fun b => Z ≤ b) w1 us qs) :
  NAts (fun b => B ≤ b ∧ b ≠ p ∧ u.ownBlock ≠ some b) w1 us qs :=
 NAts.mono (fun b hb _ => by
  have h1 : Z ≤ b := hb; have h2 := lt_of_heap h.blk; exact ⟨by omega, by omega, fun e => by have := (own_lt h.row b e).1; omega⟩) _ _ hn
theorem Open.alloc {B : Nat} {w : World} {t : Tr} {p : Nat} {u : Value} {ps : List Nat} (h : Open B w t p u ps) (o : Obj) : Open B (w.alloc o) t p u ps :=
 ⟨h.low, by rw [Below.heap_alloc _ _ _ (lt_of_heap h.blk)]; exact h.blk, h.row.alloc _, h.own, NAts.later (fun b _ hl => Below.heap_alloc w _ b hl) _ _ h.kids⟩
theorem NAts.alloc {I : Nat → Prop} {w : World} {ts : List Tr} {ps : List Nat} (h : NAts I w ts ps) (o : Obj) : NAts I (w.alloc o) ts ps := NAts.later (fun b _ hl => Below.heap_alloc w _ b hl) _ _ h
theorem Open.push2 {B : Nat} {w1 w3 : World} {t x : Tr} {p q g cap n : Nat} {u : Value} {ps : List Nat} (h : Open B w1 t p u ps) (hx : NAts (fun b => B ≤ b ∧ b ≠ p ∧ u.ownBlock ≠ some b) w1 [x] [q]) (hn : n = t.kids.length + 1)
  (hown : w3.ownsRow B 22 1 (.slice (some ⟨g, 0, none⟩) n cap) n (ps.map nPtr ++ [nPtr q])) (hgr : (w1.alloc (.cells #[nPtr q] 22)).grownBy w3 u.ownBlock) (hg : u.ownBlock = some g ∨ g = w1.heap.size + 1) :
  EV B (w3.setCell ⟨p, 3, none⟩ (.slice (some ⟨g, 0, none⟩) n cap)) (.mk t.kd t.tx t.n (t.kids ++ [x])) (nPtr p) :=
 (h.alloc _).push (NAts.alloc hx _) hn hown hgr (hg.imp id fun e => by simp [e])
theorem Open.of_ev {B N : Nat} {w : World} {t : Tr} {kd n : Int} {tx : ByteArray} {v : Value} (h : EV B w t (nPtr N)) (hb : w.heap[N]? = some (nodeObj kd tx n v)) : ∃ ps, Open B w t N v ps := by
 obtain ⟨p, u, ps, he, ho⟩ := h.opens
 have h1 : N = p := by simpa [nPtr] using he
 subst h1
 have h2 := ho.blk
 rw [hb] at h2
 have h3 : v = u := by
  have h4 := h2; simp at h4; exact h4.2.2.2
 subst h3
 exact ⟨ps, ho⟩
structure CallOk (c : PC) (w : World) (Z : Nat) (t : Tr) (u : Value) (qs : List Nat) (x : Tr) (j : Nat) (wc : World) (pc : Nat) : Prop where
 ap : Ap c.P w.heap.size w wc
 ps : Ps c wc j 0 (-1)
 op : Open w.heap.size wc t w.heap.size u qs
 nd : NAts (fun b => Z ≤ b) wc [x] [pc]
 sz : Z ≤ wc.heap.size
structure CallBad (c : PC) (w : World) (t : Tr) (u : Value) (qs : List Nat) (er pl : Int) (wc : World) (pc : Nat) : Prop where
 ap : Ap c.P w.heap.size w wc
 ps : ∃ j, Ps c wc j er pl
 op : Open w.heap.size wc t w.heap.size u qs
 he : er ≠ 0
end Go.Proofs.YtodmgaikhbmlnaaGreatDoor
