/-
  The document's parser: statements of every kind, but for three that are asked as premises; all parts together, at every bound.
-/
import Derived.Test.YtodmgaikhbmlnaaGreatDoorTw20
set_option maxRecDepth 100000
set_option maxHeartbeats 16000000
namespace Go.Proofs.YtodmgaikhbmlnaaGreatDoor
open Go.RowKit
theorem rpart_kd {l : List Tk} {F : Fns} {d q i j : Nat} {t : Tr} (h : rpartP l F d q i = .ok t j) : t.kd ≠ 15 := by
 by_cases hq : q = 1
 ·
  subst hq; have h' : rfuncP l F d i = .ok t j := h; unfold rfuncP at h'; obtain ⟨_, _, _, h'⟩ := bind_inv h'; obtain ⟨s, _, _, h'⟩ := bind_inv h'; unfold rfuncTail at h'; obtain ⟨ps, _, _, h'⟩ := bind_inv h'
  obtain ⟨b, _, _, h'⟩ := bind_inv h'
  cases h'
  show (5 : Int) ≠ 15
  decide
 ·
  have he : rpartP l F d q i = partP l F d q i := by
   match q with
   | 0 => rfl
   | 1 => exact absurd rfl hq
   | 2 => rfl
   | 3 => rfl
   | 4 => rfl
   | 5 => rfl
   | 6 => rfl
   | n + 7 => rfl
  rw [he] at h; exact part_kd h
theorem rfns_ok (l : List Tk) : ∀ k, FOk (rfns l k) := by
 intro k
 cases k with
 | zero => intro d i t j h; cases h
 | succ k =>
  intro d i t j h h15; have h' : rstatementP l (rfns l k) d i = .ok t j := h; unfold rstatementP at h'
  split at h'
  ·
   exact absurd h15 (rpart_kd h')
  ·
   unfold exprP at h'; obtain ⟨v, _, _, h'⟩ := bind_inv h'; obtain ⟨_, _, _, h'⟩ := bind_inv h'
   cases h'
   exact ⟨v, [], rfl⟩
structure RestC (c : PC) (F : Fns) : Prop where
 choice : ∀ w d i r, d ≤ 30 → fx c.l i = tIf → r = choiceP c.l F d i → r ≠ .out → Ps c w i 0 (-1) → Calls Tryz.prog 47 #[pPtr c, .int .i64 (d : Int)] w (QPost c w (NV w.heap.size) ZN r)
 attempt : ∀ w d i r, d ≤ 30 → fx c.l i = tTry → r = attemptP c.l F d i → r ≠ .out → Ps c w i 0 (-1) → Calls Tryz.prog 47 #[pPtr c, .int .i64 (d : Int)] w (QPost c w (NV w.heap.size) ZN r)
 decl : ∀ w d i r, d ≤ 30 → (fx c.l i = tVar ∨ fx c.l i = tLet ∨ fx c.l i = tConst) → r = declP c.l F d i → r ≠ .out → Ps c w i 0 (-1) → Calls Tryz.prog 47 #[pPtr c, .int .i64 (d : Int)] w (QPost c w (NV w.heap.size) ZN r)
theorem st_part {l : List Tk} {F : Fns} {d i : Nat} {r : PR Tr} {s : ByteArray} (q : Nat) (hf : fx l i = s) (hk : look2 stKeys s = some q) (hs : r = rstatementP l F d i) : r = rpartP l F d q i := by
 unfold rstatementP at hs
 rw [hf, hk] at hs
 exact hs
theorem tx_of {l : List Tk} {i : Nat} {s : ByteArray} (hs : s ≠ noText) (hf : fx l i = s) : (tkA l i).tx = s := ((fx_is hs).1 hf).2
theorem rst_any {c : PC} {F : Fns} (hF : RCt c F) (hN : ∃ k, FNx c.l k F) (hK : FOk F) (hR : RestC c F) (w : World) (d i : Nat) (r : PR Tr) (hd : d ≤ 30) (hs : r = rstatementP c.l F d i) (ho : r ≠ .out) (h : Ps c w i 0 (-1)) :
  Calls Tryz.prog 47 #[pPtr c, .int .i64 (d : Int)] w (QPost c w (NV w.heap.size) ZN r) := by
 by_cases n0 : fx c.l i = tLBrace
 ·
  exact rst_block hF hN hK w d i r hd n0 (st_part 2 n0 (by decide +kernel) hs) ho h
 by_cases n1 : fx c.l i = tSemi
 ·
  have h1 : r = (mustP c.l tSemi i).bind fun _ i1 => .ok (.mk 16 noText 0 []) i1 := st_part 3 n1 (by decide +kernel) hs; unfold mustP at h1; rw [if_pos n1] at h1; exact rst_empty hF hN hK w d i r hd n1 h1 ho h
 by_cases n2 : fx c.l i = tFunction
 ·
  have h1 : r = (mustP c.l tFunction i).bind fun _ i1 => (nameP c.l i1).bind fun s i2 => rfuncTail c.l F 5 s d i2 := st_part 1 n2 (by decide +kernel) hs; unfold mustP at h1; rw [if_pos n2] at h1
  exact rst_func hF hN hK w d i r hd n2 h1 ho h
 by_cases n3 : fx c.l i = tIf
 ·
  exact hR.choice w d i r hd n3 (st_part 4 n3 (by decide +kernel) hs) ho h
 by_cases n4 : fx c.l i = tWhile
 ·
  have h1 : r = behindP c.l F d i := st_part 5 n4 (by decide +kernel) hs; unfold behindP at h1; rw [tx_of (by decide) n4, show hdKind tWhile = 8 from by decide +kernel] at h1; exact rst_while hF hN hK w d i r hd n4 h1 ho h
 by_cases n5 : fx c.l i = tWith
 ·
  have h1 : r = behindP c.l F d i := st_part 5 n5 (by decide +kernel) hs; unfold behindP at h1; rw [tx_of (by decide) n5, show hdKind tWith = 9 from by decide +kernel] at h1; exact rst_with hF hN hK w d i r hd n5 h1 ho h
 by_cases n6 : fx c.l i = tTry
 ·
  exact hR.attempt w d i r hd n6 (st_part 7 n6 (by decide +kernel) hs) ho h
 by_cases n7 : fx c.l i = tVar
 ·
  exact hR.decl w d i r hd (Or.inl n7) (st_part 0 n7 (by decide +kernel) hs) ho h
 by_cases n8 : fx c.l i = tLet
 ·
  exact hR.decl w d i r hd (Or.inr (Or.inl n8)) (st_part 0 n8 (by decide +kernel) hs) ho h
 by_cases n9 : fx c.l i = tConst
 ·
  exact hR.decl w d i r hd (Or.inr (Or.inr n9)) (st_part 0 n9 (by decide +kernel) hs) ho h
 by_cases n10 : fx c.l i = tReturn
 ·
  have h1 : r = givingP c.l F d i := st_part 6 n10 (by decide +kernel) hs; unfold givingP at h1; rw [tx_of (by decide) n10, show hdKind tReturn = 10 from by decide +kernel] at h1
  have h2 : ((10 : Int) = 11 ∨ ¬ fx c.l (i + 1) = tSemi) ↔ ¬ fx c.l (i + 1) = tSemi := ⟨fun h => h.resolve_left (by decide), Or.inr⟩; simp only [h2] at h1; exact rst_return hF hN hK w d i r hd n10 h1 ho h
 by_cases n11 : fx c.l i = tThrow
 ·
  have h1 : r = givingP c.l F d i := st_part 6 n11 (by decide +kernel) hs; unfold givingP at h1; rw [tx_of (by decide) n11, show hdKind tThrow = 11 from by decide +kernel, if_pos (Or.inl rfl)] at h1
  exact rst_throw hF hN hK w d i r hd n11 h1 ho h
 have hno : look2 stKeys (fx c.l i) = none := by
  unfold look2 stKeys; simp [n0, n1, n2, n3, n4, n5, n6, n7, n8, n9, n10, n11]
 unfold rstatementP at hs
 rw [hno] at hs
 exact rst_expr hF hN hK w d i r hd n0 n1 n2 n3 n4 n5 n6 n7 n8 n9 n10 n11 hs ho h
theorem rst_limit (c : PC) (w : World) (i : Nat) (h : Ps c w i 0 (-1)) :
  Calls Tryz.prog 47 #[pPtr c, .int .i64 31] w (QPost c w (NV w.heap.size) ZN (badF (α := Tr) c.l 4 i)) := by
 have HC := hide (rfail_new c w i 4 (by decide) h)
 clear h
 go_enter Tryz.func47, Tryz.ntmps47
 go_wp2_with fail
 refine cm HC.out ?_
 rintro e w2 ⟨⟨v, rfl, q, rfl⟩, hp, he, ha⟩
 have HP2 := hide hp
 have HA2 := hide ha
 clear hp ha HC
 go_wp2_with fail
 go_ret
 exact ⟨⟨_, rfl, _, rfl⟩, HP2.out, he, HA2.out⟩
theorem rvalue_limit (c : PC) (w : World) (i : Nat) (h : Ps c w i 0 (-1)) :
  Calls Tryz.prog 107 #[pPtr c, .int .i64 31] w (QPost c w (NV w.heap.size) ZN (badF (α := Tr) c.l 4 i)) := by
 have HC := hide (rok_new h)
 have HC2 := hide (rfail_new c w i 4 (by decide) h)
 clear h
 go_enter Tryz.func107, Tryz.ntmps107
 go_wp2_with fail
 refine cm HC.out ?_
 rintro e w1 ⟨rfl, rfl⟩
 clear HC
 go_wp2_with fail
 refine cm HC2.out ?_
 rintro e w2 ⟨⟨v, rfl, q, rfl⟩, hp, he, ha⟩
 have HP2 := hide hp
 have HA2 := hide ha
 clear hp ha HC2
 go_wp2_with fail
 go_ret
 exact ⟨⟨_, rfl, _, rfl⟩, HP2.out, he, HA2.out⟩
theorem rfns_does {c : PC} (hE : Ends c.l) (hR : ∀ F, RCt c F → (∃ k, FNx c.l k F) → FOk F → RestC c F) : ∀ k, RCt c (rfns c.l k) := by
 intro k
 induction k with
 | zero =>
  refine ⟨?_, ?_, ?_, ?_⟩
  ·
   intro w d i r hd hs ho h; unfold deepP at hs
   by_cases h30 : d = 30
   ·
    rw [if_pos h30] at hs; subst h30; rw [hs]; exact rst_limit c w i h
   ·
    rw [if_neg h30] at hs; exact absurd hs ho
  ·
   intro w d i r hd hs ho h; unfold deepP at hs
   by_cases h30 : d = 30
   ·
    rw [if_pos h30] at hs; subst h30; rw [hs]; exact rvalue_limit c w i h
   ·
    rw [if_neg h30] at hs; exact absurd hs ho
  ·
   intro w d i r g hd hs ho _ _ _; exact absurd hs ho
  ·
   intro w d i r hd hs ho _; exact absurd hs ho
 | succ k ih =>
  have hN : ∃ k', FNx c.l k' (rfns c.l k) := ⟨k, rfns_nx hE k⟩; have hK := rfns_ok c.l k; refine ⟨?_, ?_, ?_, ?_⟩
  ·
   intro w d i r hd hs ho h
   by_cases h30 : d = 30
   ·
    subst h30; have h1 : r = badF c.l 4 i := by unfold deepP at hs; rw [if_pos rfl] at hs; exact hs
    rw [h1]; exact rst_limit c w i h
   ·
    have h1 : r = rstatementP c.l (rfns c.l k) (d + 1) i := by unfold deepP at hs; rw [if_neg h30] at hs; exact hs
    have h2 := rst_any ih hN hK (hR _ ih hN hK) w (d + 1) i r (by omega) h1 ho h; have h3 : (((d + 1 : Nat) : Nat) : Int) = (d : Int) + 1 := by omega
    rw [h3] at h2; exact h2
  ·
   intro w d i r hd hs ho h; exact rvalue_any ih w d i r hd hs ho h
  ·
   intro w d i r g hd hs ho h hk hg; exact rpr_any ih w d i r g hd hs ho h hk hg
  ·
   intro w d i r hd hs ho h; exact rsingle_any ih hN hK w d i r hd hs ho h
end Go.Proofs.YtodmgaikhbmlnaaGreatDoor
