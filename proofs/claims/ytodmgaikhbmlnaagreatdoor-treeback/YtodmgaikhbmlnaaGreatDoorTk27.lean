/-
  Values come back: signs of two parts, assignments.
-/
import Derived.Test.YtodmgaikhbmlnaaGreatDoorTk26
set_option maxRecDepth 100000
set_option maxHeartbeats 16000000
namespace Go.Proofs.YtodmgaikhbmlnaaGreatDoor
open Go.RowKit

section
variable {l : List Tk} {Nm : ByteArray → Prop} {F : Fns} (hF : FB l Nm F)
include hF
theorem pair_reach (least : Int) (d m : Nat) : ∀ (n : Nat) (t : Tr), t.count ≤ n → Shp Nm 0 t → t.nd → least ≤ strK t.kd → 25 ≤ t.kd ∧ t.kd ≤ 31 → ∀ i, At l i t.toks → Stop l (strK t.kd + 1) (i + t.toks.length) →
    Rch ((F.sg d i).bind fun t i => pairLoop l F least d m t i) (pairLoop l F least d) t (i + t.toks.length)
  | 0, t, hc, _, _, _, _, _, _, _ => by cases t with | mk kd tx nn ks => rw [count_mk] at hc; omega
  | n + 1, t, hc, hsh, hnd, hle, hk, i, h, hst => by
    cases hsh with
    | @two kd a b h2 ha hb =>
      obtain ⟨g, hg, hgk, hp, hsg, h22, h7, hs, hnd1, hnd2⟩ := sg_two h2
      have hle' : least ≤ g.str := by have : least ≤ strK kd := hle; omega
      have hst' : Stop l (g.str + 1) (i + (Tr.mk kd noText 0 [a, b]).toks.length) := by rw [← hs]; exact hst
      rw [toks_two hg hp] at h hst' ⊢
      have h1 := At.mid h
      have hx : fx l (i + (a.at g.str).length) = g.tx := h1.2.1.fxS
      have hca : a.count ≤ n := by rw [count_mk, counts_cons] at hc; omega
      have hna := nd_kids hnd a (by simp)
      have hnb := nd_kids hnd b (by simp)
      have left : Rch ((F.sg d i).bind fun t i => pairLoop l F least d m t i) (pairLoop l F least d) a (i + (a.at g.str).length) := by
        by_cases h8 : g.str ≤ strK a.kd ∧ strK a.kd < 8
        · have hk2 : 25 ≤ a.kd ∧ a.kd ≤ 31 := by
            rcases str_val ha with e | e | e | e
            · rw [e] at h8; exact absurd h8.1 (by rw [show strK 24 = 1 by decide +kernel]; omega)
            · exact e
            · obtain ⟨_, _, _, _, _, _, e8, _⟩ := sg_one e; omega
            · omega
          rw [at_plain h8.1] at h1 hx ⊢
          exact pair_reach least d m n a hca ha hna (by omega) hk2 i h1.1 ⟨fun s hs2 => by rw [hx, hsg] at hs2; cases hs2; omega, by rw [hx]; exact hnd1, by rw [hx]; exact hnd2⟩
        · have e8 : a.at g.str = a.at 8 := by
            by_cases h9 : strK a.kd < g.str
            · rw [at_par h9, at_par (by omega)]
            · rw [at_plain (by omega), at_plain (by omega)]
          rw [e8] at h1 hx ⊢
          exact Rch.of m (hF.sg a d i ha hna h1.1 (by rw [hx]; exact hnd1) (by rw [hx]; exact hnd2))
      refine left.step (fun m' => ?_)
      cases m' with
      | zero => exact Or.inr (Or.inr rfl)
      | succ m' =>
        rw [pairLoop, hx, hsg]
        simp only
        rw [if_neg (by omega)]
        have e : i + (a.at g.str ++ siT g.tx :: b.at (g.str + 1)).length = i + (a.at g.str).length + 1 + (b.at (g.str + 1)).length := by simp; omega
        rw [e] at hst' ⊢
        have hR := hF.pr b (g.str + 1) d _ (by omega) (by omega) hb hnb h1.2.2 hst'
        rcases hR with e | ⟨p, e⟩ | e
        · rw [e, ← hgk]; exact Or.inl ⟨m', rfl⟩
        · rw [e]; exact Or.inr (Or.inl ⟨p, rfl⟩)
        · rw [e]; exact Or.inr (Or.inr rfl)
    | asg => exact absurd hk.1 (by show ¬ ((25 : Int) ≤ 24); decide)
    | @one kd _ h1 => have : 25 ≤ kd ∧ kd ≤ 31 := hk; omega
    | @lit kd h1 => have : 25 ≤ kd ∧ kd ≤ 31 := hk; omega
    | name => exact absurd hk.1 (by show ¬ ((25 : Int) ≤ 23); decide)
    | str => exact absurd hk.1 (by show ¬ ((25 : Int) ≤ 18); decide)
    | num => exact absurd hk.1 (by show ¬ ((25 : Int) ≤ 17); decide)
    | memb => exact absurd hk.2 (by show ¬ ((36 : Int) ≤ 31); decide)
    | call => exact absurd hk.2 (by show ¬ ((35 : Int) ≤ 31); decide)
    | obj => exact absurd hk.2 (by show ¬ ((38 : Int) ≤ 31); decide)
    | lam => exact absurd hk.2 (by show ¬ ((37 : Int) ≤ 31); decide)
omit hF in
theorem pair_stop {least : Int} {m d j : Nat} {t : Tr} (h : Stop l least j) : Good (pairLoop l F least d m t j) t j := by
  cases m with
  | zero => exact Or.inr (Or.inr rfl)
  | succ m =>
    rw [pairLoop]
    cases hs : sgP 2 (fx l j) with
    | none => exact Good.ok
    | some s => simp only; rw [if_pos (h.sg s hs)]; exact Good.ok
theorem pair_back (t : Tr) (least : Int) (d i : Nat) (h2 : 2 ≤ least) (h8 : least ≤ 8) (hsh : Shp Nm 0 t) (hnd : t.nd) (h : At l i (t.at least)) (hst : Stop l least (i + (t.at least).length)) : Good (pairP l F least d i) t (i + (t.at least).length) := by
  unfold pairP
  by_cases hb : least ≤ strK t.kd ∧ strK t.kd < 8
  · have hk : 25 ≤ t.kd ∧ t.kd ≤ 31 := by
      rcases str_val hsh with e | e | e | e
      · rw [e] at hb; exact absurd hb.1 (by rw [show strK 24 = 1 by decide +kernel]; omega)
      · exact e
      · obtain ⟨_, _, _, _, _, _, e8, _⟩ := sg_one e; omega
      · omega
    rw [at_plain hb.1] at h hst ⊢
    exact (pair_reach hF least d F.fuel t.count t (Nat.le_refl _) hsh hnd hb.1 hk i h (hst.mono (by omega))).good fun m => pair_stop hst
  · have e8 : t.at least = t.at 8 := by
      by_cases h9 : strK t.kd < least
      · rw [at_par h9, at_par (by omega)]
      · rw [at_plain (by omega), at_plain (by omega)]
    rw [e8] at h hst ⊢
    exact (Rch.of F.fuel (hF.sg t d i hsh hnd h hst.dot hst.opn)).good fun m => pair_stop hst
theorem value_back (t : Tr) (d i : Nat) (hsh : Shp Nm 0 t) (hnd : t.nd) (h : At l i t.toks) (hst : Stop l 1 (i + t.toks.length)) (hne : fx l (i + t.toks.length) ≠ tEq) : Good (valueP l F d i) t (i + t.toks.length) := by
  unfold valueP
  by_cases h24 : t.kd = 24
  · cases hsh with
    | @asg a b hk ha hb =>
      have h9 : 9 ≤ strK a.kd := by rcases hk with e | e <;> rw [e] <;> decide +kernel
      rw [toks_asg] at h hst hne ⊢
      have h1 := At.mid h
      have hx : fx l (i + (a.at 9).length) = tEq := h1.2.1.fx5
      have e2 : a.at 9 = a.at 2 := by rw [at_plain h9, at_plain (by omega)]
      have eb : b.at 1 = b.toks := at_plain (strK_one _)
      have e : i + (a.at 9 ++ sgT tEq :: b.at 1).length = i + (a.at 9).length + 1 + b.toks.length := by rw [eb]; simp; omega
      rw [e] at hst hne ⊢
      have hA : Good (F.pr 2 d i) a (i + (a.at 9).length) := by
        rw [e2] at h1 hx ⊢
        exact hF.pr a 2 d i (by decide) (by decide) ha (nd_kids hnd a (by simp)) h1.1 (stop_at hx (by simp) 2)
      refine hA.bind ?_
      rw [if_pos hx, if_pos hk]
      rw [eb] at h1
      exact (Good.deep (hF.vl b _ _ hb (nd_kids hnd b (by simp)) h1.2.2 hst hne)).bind Good.ok
    | @two kd _ _ h2 => have : kd = 24 := h24; omega
    | @one kd _ h1 => have : kd = 24 := h24; omega
    | @lit kd h1 => have : kd = 24 := h24; omega
    | name => exact absurd h24 (by show (23 : Int) ≠ 24; decide)
    | str => exact absurd h24 (by show (18 : Int) ≠ 24; decide)
    | num => exact absurd h24 (by show (17 : Int) ≠ 24; decide)
    | memb => exact absurd h24 (by show (36 : Int) ≠ 24; decide)
    | call => exact absurd h24 (by show (35 : Int) ≠ 24; decide)
    | obj => exact absurd h24 (by show (38 : Int) ≠ 24; decide)
    | lam => exact absurd h24 (by show (37 : Int) ≠ 24; decide)
  · have h2 : 2 ≤ strK t.kd := by
      rcases str_val hsh with e | e | e | e
      · exact absurd e h24
      · obtain ⟨g, _, _, _, _, h2, _, hs, _⟩ := sg_two e; omega
      · obtain ⟨_, _, _, _, _, _, e8, _⟩ := sg_one e; omega
      · omega
    have e2 : t.at 2 = t.toks := at_plain h2
    have hP := hF.pr t 2 d i (by decide) (by decide) hsh hnd (by rw [e2]; exact h) (by rw [e2]; exact hst.mono (by decide))
    rw [e2] at hP
    refine hP.bind ?_
    rw [if_neg hne]
    exact Good.ok
end

theorem toks_func (s : ByteArray) (p b : Tr) : (Tr.mk 5 s 0 [p, b]).toks = wdT tFunction :: nmT s :: (p.toks ++ b.toks) := by rw [toks_mk, toksL_map]; rfl
theorem toks_sif (v s : Tr) : (Tr.mk 7 noText 0 [v, s]).toks = wdT (hdText 7) :: sgT tOpen :: (v.at 1 ++ sgT tShut :: s.toks) := by
  rw [toks_mk, toksL_map]
  show wdT (hdText 7) :: sgT tOpen :: (v.at 1 ++ sgT tShut :: (s.toks ++ [])) = _
  rw [List.append_nil]
theorem toks_sife (v s e : Tr) : (Tr.mk 7 noText 0 [v, s, e]).toks = wdT (hdText 7) :: sgT tOpen :: (v.at 1 ++ sgT tShut :: (s.toks ++ wdT tElse :: e.toks)) := by rw [toks_mk, toksL_map]; rfl
theorem toks_loop {kd : Int} (hk : kd = 8 ∨ kd = 9) (v s : Tr) : (Tr.mk kd noText 0 [v, s]).toks = wdT (hdText kd) :: sgT tOpen :: (v.at 1 ++ sgT tShut :: s.toks) := by
  rw [toks_mk, toksL_map]
  rcases hk with rfl | rfl
  · show wdT (hdText 8) :: sgT tOpen :: (v.at 1 ++ sgT tShut :: (s.toks ++ [])) = _
    rw [List.append_nil]
  · show wdT (hdText 9) :: sgT tOpen :: (v.at 1 ++ sgT tShut :: (s.toks ++ [])) = _
    rw [List.append_nil]
theorem toks_give0 {kd : Int} (hk : kd = 10 ∨ kd = 11) : (Tr.mk kd noText 0 []).toks = [wdT (hdText kd), sgT tSemi] := by
  rw [toks_mk, toksL_map]
  rcases hk with rfl | rfl <;> rfl
theorem toks_give1 {kd : Int} (hk : kd = 10 ∨ kd = 11) (v : Tr) : (Tr.mk kd noText 0 [v]).toks = wdT (hdText kd) :: (v.at 1 ++ [sgT tSemi]) := by
  rw [toks_mk, toksL_map]
  rcases hk with rfl | rfl <;> rfl
theorem toks_atm (b : Tr) (c : List Tr) : (Tr.mk 12 noText 0 (b :: c)).toks = wdT tTry :: (b.toks ++ (c.map Tr.toks).flatten) := by
  rw [toks_mk, toksL_map]
  show wdT tTry :: ((((b :: c).map fun t => (t.kd, t.toks)).map (·.2)).flatten) = _
  rw [List.map_map]; rfl
theorem toks_cat (s : ByteArray) (b : Tr) : (Tr.mk 13 s 0 [b]).toks = wdT tCatch :: sgT tOpen :: nmT s :: sgT tShut :: b.toks := by rw [toks_mk, toksL_map]; rfl
theorem toks_fin (b : Tr) : (Tr.mk 14 noText 0 [b]).toks = wdT tFinally :: b.toks := by rw [toks_mk, toksL_map]; rfl
theorem toks_empty : (Tr.mk 16 noText 0 []).toks = [sgT tSemi] := by rw [toks_mk, toksL_map]; rfl
theorem toks_expr (v : Tr) : (Tr.mk 15 noText 0 [v]).toks = (if opensW v.count v = true then sgT tOpen :: (v.toks ++ [sgT tShut]) else v.at 1) ++ [sgT tSemi] := by rw [toks_mk, toksL_map]; rfl

theorem sk_head : look2 stKeys (hdText 2) = some 0 ∧ look2 stKeys (hdText 3) = some 0 ∧ look2 stKeys (hdText 4) = some 0 ∧ look2 stKeys (hdText 7) = some 4 ∧ look2 stKeys (hdText 8) = some 5 ∧ look2 stKeys (hdText 9) = some 5 ∧ look2 stKeys (hdText 10) = some 6 ∧ look2 stKeys (hdText 11) = some 6 := by
  refine ⟨?_, ?_, ?_, ?_, ?_, ?_, ?_, ?_⟩ <;> kernel_rfl
theorem sk_function : look2 stKeys tFunction = some 1 := by kernel_rfl
theorem sk_brace : look2 stKeys tLBrace = some 2 := by kernel_rfl
theorem sk_semi : look2 stKeys tSemi = some 3 := by kernel_rfl
theorem sk_try : look2 stKeys tTry = some 7 := by kernel_rfl
theorem sk_open : look2 stKeys tOpen = none := by kernel_rfl
theorem sk_none {x : ByteArray} (h : headAny x) (h1 : x ≠ tLBrace) (h2 : x ≠ tFunction) : look2 stKeys x = none := by
  rcases h with (h | h | h | h | h | h | h | h) | h | h | h
  · rw [h]; kernel_rfl
  · rw [h]; kernel_rfl
  · exact absurd h h1
  · exact absurd h h2
  all_goals rw [h]; kernel_rfl

theorem ends_fuel : ∀ (k m : Nat) (t : Tr), t.count ≤ k → t.count ≤ m → endsIf k t = endsIf m t
  | 0, _, .mk _ _ _ _, h, _ => by rw [count_mk] at h; omega
  | _ + 1, 0, .mk _ _ _ _, _, h => by rw [count_mk] at h; omega
  | k + 1, m + 1, .mk kd tx n ks, h1, h2 => by
    unfold endsIf
    by_cases h7 : kd = 7
    · rw [if_pos h7, if_pos h7]
      match ks, h1, h2 with
      | [], _, _ => rfl
      | [_], _, _ => rfl
      | [_, _], _, _ => rfl
      | [a, b, e], h1, h2 =>
        rw [count_mk, counts_cons, counts_cons, counts_cons, counts_nil] at h1 h2
        exact ends_fuel k m e (by omega) (by omega)
      | _ :: _ :: _ :: _ :: _, _, _ => rfl
    · rw [if_neg h7, if_neg h7]
      by_cases h8 : kd = 8 ∨ kd = 9
      · rw [if_pos h8, if_pos h8]
        match ks, h1, h2 with
        | [], _, _ => rfl
        | [_], _, _ => rfl
        | [a, b], h1, h2 =>
          rw [count_mk, counts_cons, counts_cons, counts_nil] at h1 h2
          exact ends_fuel k m b (by omega) (by omega)
        | _ :: _ :: _ :: _, _, _ => rfl
      · rw [if_neg h8, if_neg h8]
theorem ends_sif (v s : Tr) : endsIf (Tr.mk 7 noText 0 [v, s]).count (.mk 7 noText 0 [v, s]) = true := by
  rw [count_mk, Nat.add_comm]; rfl
theorem ends_sife (v s e : Tr) : endsIf (Tr.mk 7 noText 0 [v, s, e]).count (.mk 7 noText 0 [v, s, e]) = endsIf e.count e := by
  have h : endsIf (Tr.mk 7 noText 0 [v, s, e]).count (.mk 7 noText 0 [v, s, e]) = endsIf (Tr.counts [v, s, e]) e := by rw [count_mk, Nat.add_comm]; rfl
  rw [h, counts_cons, counts_cons, counts_cons, counts_nil]
  exact ends_fuel _ _ e (by omega) (Nat.le_refl _)
theorem ends_loop {kd : Int} (hk : kd = 8 ∨ kd = 9) (v s : Tr) : endsIf (Tr.mk kd noText 0 [v, s]).count (.mk kd noText 0 [v, s]) = endsIf s.count s := by
  have h : endsIf (Tr.mk kd noText 0 [v, s]).count (.mk kd noText 0 [v, s]) = endsIf (Tr.counts [v, s]) s := by rw [count_mk, Nat.add_comm]; rcases hk with rfl | rfl <;> rfl
  rw [h, counts_cons, counts_cons, counts_nil]
  exact ends_fuel _ _ s (by omega) (Nat.le_refl _)

section
variable {l : List Tk} {Nm : ByteArray → Prop}
/-- A value that begins as no other statement does. -/
theorem opens_head : ∀ (n : Nat) (t : Tr), t.count ≤ n → Shp Nm 0 t → opensW n t = false → ∀ i, At l i t.toks → fx l i ≠ tLBrace ∧ fx l i ≠ tFunction
  | 0, .mk _ _ _ _, h, _, _, _, _ => by rw [count_mk] at h; omega
  | n + 1, t, hc, hsh, ho, i, h => by
    have left : ∀ (u : Tr) (least : Int), u.count ≤ n → Shp Nm 0 u → (¬ strK u.kd < least → opensW n u = false) → At l i (u.at least) → fx l i ≠ tLBrace ∧ fx l i ≠ tFunction := fun u least hcu hu hou ha => by
      by_cases hs : strK u.kd < least
      · rw [at_par hs] at ha
        rw [ha.1.fx5]; refine ⟨?_, ?_⟩ <;> decide
      · rw [at_plain (by omega)] at ha
        exact opens_head n u hcu hu (hou hs) i ha
    have nt : ∀ {x : ByteArray}, x = noText → x ≠ tLBrace ∧ x ≠ tFunction := fun e => by rw [e]; refine ⟨?_, ?_⟩ <;> decide
    cases hsh with
    | name _ => rw [toks_name] at h; exact nt (h.1.fx0 (Or.inl rfl))
    | str _ => rw [toks_str] at h; exact nt (h.1.fx0 (Or.inr (Or.inr rfl)))
    | num _ => rw [toks_num] at h; exact nt (h.1.fx0 (Or.inr (Or.inl rfl)))
    | lit hk =>
      obtain ⟨g, hg, _, hp, _, _, hx⟩ := sg_lit hk
      rw [toks_lit hg hp] at h
      rw [h.1.fxS]
      rcases hx with e | e | e | e <;> rw [e] <;> refine ⟨?_, ?_⟩ <;> decide
    | one hk =>
      obtain ⟨g, hg, _, hp, _, _, _, hx⟩ := sg_one hk
      rw [toks_one hg hp] at h
      rw [h.1.fxS]
      rcases hx with e | e | e <;> rw [e] <;> refine ⟨?_, ?_⟩ <;> decide
    | obj => exact absurd ho (by rw [opensW, if_pos (by exact Or.inr rfl)]; decide)
    | lam => exact absurd ho (by rw [opensW, if_pos (by exact Or.inl rfl)]; decide)
    | @memb s u _ hu =>
      rw [toks_memb] at h
      have hcu : u.count ≤ n := by rw [count_mk, counts_cons, counts_nil] at hc; omega
      refine left u 9 hcu hu (fun hs => ?_) h.app.1
      have e : opensW (n + 1) (Tr.mk 36 s 0 [u]) = if strK u.kd < strK 36 then false else opensW n u := by rw [opensW, if_neg (by show ¬ ((36 : Int) = 37 ∨ (36 : Int) = 38); decide), if_pos (by show opensK 36 = true; decide)]; rfl
      rw [e, if_neg (by have : strK 36 = 9 := by decide +kernel
                        omega)] at ho
      exact ho
    | @call u ts hu _ _ =>
      rw [toks_call] at h
      have hcu : u.count ≤ n := by rw [count_mk, counts_cons] at hc; omega
      refine left u 9 hcu hu (fun hs => ?_) h.app.1
      have e : opensW (n + 1) (Tr.mk 35 noText 0 (u :: ts)) = if strK u.kd < strK 35 then false else opensW n u := by rw [opensW, if_neg (by show ¬ ((35 : Int) = 37 ∨ (35 : Int) = 38); decide), if_pos (by show opensK 35 = true; decide)]; rfl
      rw [e, if_neg (by have : strK 35 = 9 := by decide +kernel
                        omega)] at ho
      exact ho
    | @asg u v _ hu _ =>
      rw [toks_asg] at h
      have hcu : u.count ≤ n := by rw [count_mk, counts_cons] at hc; omega
      refine left u 9 hcu hu (fun hs => ?_) h.app.1
      have e : opensW (n + 1) (Tr.mk 24 noText 0 [u, v]) = if strK u.kd < strK 24 then false else opensW n u := by rw [opensW, if_neg (by show ¬ ((24 : Int) = 37 ∨ (24 : Int) = 38); decide), if_pos (by show opensK 24 = true; decide)]; rfl
      rw [e, if_neg (by have : strK 24 = 1 := by decide +kernel
                        omega)] at ho
      exact ho
    | @two kd u v hk hu _ =>
      obtain ⟨g, hg, _, hp, _, _, _, hst, _⟩ := sg_two hk
      rw [toks_two hg hp] at h
      have hcu : u.count ≤ n := by rw [count_mk, counts_cons] at hc; omega
      refine left u g.str hcu hu (fun hs => ?_) h.app.1
      have ek : opensK kd = true := by
        have : kd = 25 ∨ kd = 26 ∨ kd = 27 ∨ kd = 28 ∨ kd = 29 ∨ kd = 30 ∨ kd = 31 := by omega
        rcases this with rfl | rfl | rfl | rfl | rfl | rfl | rfl <;> decide
      have e : opensW (n + 1) (Tr.mk kd noText 0 [u, v]) = if strK u.kd < strK kd then false else opensW n u := by rw [opensW, if_neg (by show ¬ (kd = 37 ∨ kd = 38); omega), if_pos (by show opensK kd = true; exact ek)]; rfl
      rw [e, if_neg (by omega)] at ho
      exact ho

/-- A value in parentheses, behind which a statement ends. -/
structure FQ (l : List Tk) (Nm : ByteArray → Prop) (F : Fns) : Prop where
  vl : ∀ t d i, Shp Nm 0 t → t.nd → At l i (sgT tOpen :: (t.toks ++ [sgT tShut])) → fx l (i + (sgT tOpen :: (t.toks ++ [sgT tShut])).length) = tSemi → Good (F.vl d i) t (i + (sgT tOpen :: (t.toks ++ [sgT tShut])).length)
  pr : ∀ t d i, Shp Nm 0 t → t.nd → At l i (sgT tOpen :: (t.toks ++ [sgT tShut])) → fx l (i + (sgT tOpen :: (t.toks ++ [sgT tShut])).length) = tSemi → Good (F.pr 2 d i) t (i + (sgT tOpen :: (t.toks ++ [sgT tShut])).length)
  sg : ∀ t d i, Shp Nm 0 t → t.nd → At l i (sgT tOpen :: (t.toks ++ [sgT tShut])) → fx l (i + (sgT tOpen :: (t.toks ++ [sgT tShut])).length) = tSemi → Good (F.sg d i) t (i + (sgT tOpen :: (t.toks ++ [sgT tShut])).length)
end

section
variable {l : List Tk} {Nm : ByteArray → Prop}
variable {F : Fns} (hF : FB l Nm F)
include hF
/-- A value before a semicolon. -/
theorem semi_back (v : Tr) (hv : Shp Nm 0 v) (hnd : v.nd) (d i : Nat) (h : At l i (v.at 1)) (hx : fx l (i + (v.at 1).length) = tSemi) : Good (deepP l F.vl d i) v (i + (v.at 1).length) := by
  rw [at_plain (strK_one _)] at h hx ⊢
  exact Good.deep (hF.vl v _ i hv hnd h (stop_at hx (Or.inr (Or.inr (Or.inr (Or.inl rfl)))) 1) (by rw [hx]; decide))
theorem inpar_back (v : Tr) (hv : Shp Nm 0 v) (hnd : v.nd) (d i : Nat) (r : List TS) (h : At l i (sgT tOpen :: (v.at 1 ++ sgT tShut :: r))) : Good (inParP l F d i) v (i + 1 + (v.at 1).length + 1) ∧ At l (i + 1 + (v.at 1).length + 1) r := by
  have h2 := At.mid (b := r) h.2
  refine ⟨?_, h2.2.2⟩
  unfold inParP
  rw [h.1.must]
  show Good ((deepP l F.vl d (i + 1)).bind _) _ _
  refine (arg_back hF (Or.inl rfl) v hv hnd d (i + 1) h2.1 (Or.inr h2.2.1.fx5)).bind ?_
  rw [h2.2.1.must]
  exact Good.ok
theorem decl_back {kd : Int} (hk : kd = 2 ∨ kd = 3 ∨ kd = 4) (s : ByteArray) (v : List Tr) (hv : ∀ u ∈ v, Shp Nm 0 u) (hl : v.length ≤ 1) (hc : kd = 4 → v.length = 1) (hnd : ∀ u ∈ v, u.nd) (d i : Nat) (h : At l i (Tr.mk kd s 0 v).toks) : Good (declP l F d i) (.mk kd s 0 v) (i + (Tr.mk kd s 0 v).toks.length) := by
  rw [toks_decl hk] at h ⊢
  have ht : hdKind (tkA l i).tx = kd := by rw [h.1.tx2]; exact (hd_text (by omega)).2.2.1
  unfold declP
  rw [h.2.1.name, ht]
  simp only [PR.bind]
  cases v with
  | nil =>
    have hx : fx l (i + 1 + 1) = tSemi := h.2.2.1.fx5
    rw [if_neg (fun hh => by have := hc hh.1; simp at this), if_neg (by rw [hx]; decide), h.2.2.1.must]
    exact Good.ok
  | cons a r =>
    obtain rfl : r = [] := by cases r with | nil => rfl | cons b r => simp at hl
    have h3 : At l (i + 1 + 1) (sgT tEq :: (a.at 1 ++ [sgT tSemi])) := h.2.2
    have hx : fx l (i + 1 + 1) = tEq := h3.1.fx5
    have h4 := At.mid (b := []) h3.2
    rw [if_neg (fun hh => hh.2 hx), if_pos hx]
    refine (semi_back hF a (hv a (by simp)) (hnd a (by simp)) d _ h4.1 h4.2.1.fx5).bind ?_
    rw [h4.2.1.must]
    have e : i + 1 + 1 + 1 + (a.at 1).length + 1 = i + (wdT (hdText kd) :: nmT s :: ((if 0 < [a].length then sgT tEq :: ([a].getD 0 noTr).at 1 else []) ++ [sgT tSemi])).length := by
      rw [if_pos (by simp)]; show _ = i + (wdT (hdText kd) :: nmT s :: (sgT tEq :: a.at 1 ++ [sgT tSemi])).length; simp; omega
    rw [e]
    exact Good.ok
theorem func_back (s : ByteArray) (p b : Tr) (hp : Shp Nm 5 p) (hb : Shp Nm 4 b) (hnd : (Tr.mk 5 s 0 [p, b]).nd) (d i : Nat) (h : At l i (Tr.mk 5 s 0 [p, b]).toks) : Good (funcP l F d i) (.mk 5 s 0 [p, b]) (i + (Tr.mk 5 s 0 [p, b]).toks.length) := by
  have hnd' := hnd
  rw [nd_mk] at hnd'
  have hcd := hnd'.1.2 (Or.inl rfl) p b rfl
  have hnb : ∀ t ∈ b.kids, t.nd := by
    have h1 := nd_kids hnd b (by simp)
    cases b with
    | mk kd tx n ks => exact nd_kids h1
  rw [toks_func] at h ⊢
  unfold funcP
  rw [h.1.must2]
  show Good ((nameP l (i + 1)).bind _) _ _
  rw [h.2.1.name]
  show Good (funcTail l F 5 s d (i + 1 + 1)) _ _
  have e : i + (wdT tFunction :: nmT s :: (p.toks ++ b.toks)).length = i + 1 + 1 + (p.toks ++ b.toks).length := by simp; omega
  rw [e]
  exact tail_back hF 5 s d p b hp hb hnb hcd _ h.2.2
theorem blk_back (t : Tr) (ht : Shp Nm 3 t) (hnd : t.nd) (d i : Nat) (h : At l i t.toks) : Good (blockP l F d i) t (i + t.toks.length) := by
  cases ht with
  | @blk ts hs => exact block_back hF d noText ts (fun u hu => ⟨hs u hu, nd_kids hnd u hu⟩) i h
theorem choice_back2 (v s : Tr) (hv : Shp Nm 0 v) (hs : Shp Nm 1 s) (hnd : (Tr.mk 7 noText 0 [v, s]).nd) (d i : Nat) (h : At l i (Tr.mk 7 noText 0 [v, s]).toks) (hx : fx l (i + (Tr.mk 7 noText 0 [v, s]).toks.length) ≠ tElse) (hy : fx l (i + (Tr.mk 7 noText 0 [v, s]).toks.length) ≠ tFinally) : Good (choiceP l F d i) (.mk 7 noText 0 [v, s]) (i + (Tr.mk 7 noText 0 [v, s]).toks.length) := by
  rw [toks_sif] at h hx hy ⊢
  have ht : hdKind (tkA l i).tx = 7 := by rw [h.1.tx2]; exact (hd_text (by omega)).2.2.1
  obtain ⟨h1, h2⟩ := inpar_back hF v hv (nd_kids hnd v (by simp)) d (i + 1) _ h.2
  have e : i + (wdT (hdText 7) :: sgT tOpen :: (v.at 1 ++ sgT tShut :: s.toks)).length = i + 1 + 1 + (v.at 1).length + 1 + s.toks.length := by simp; omega
  rw [e] at hx hy ⊢
  unfold choiceP
  rw [ht]
  refine h1.bind ?_
  refine (Good.deep (hF.st s _ _ hs (nd_kids hnd s (by simp)) h2 (fun _ => hx) hy)).bind ?_
  rw [if_neg hx]
  exact Good.ok
theorem choice_back3 (v s t : Tr) (hv : Shp Nm 0 v) (hs : Shp Nm 1 s) (ht : Shp Nm 1 t) (hnd : (Tr.mk 7 noText 0 [v, s, t]).nd) (d i : Nat) (h : At l i (Tr.mk 7 noText 0 [v, s, t]).toks) (hx : endsIf t.count t = true → fx l (i + (Tr.mk 7 noText 0 [v, s, t]).toks.length) ≠ tElse) (hy : fx l (i + (Tr.mk 7 noText 0 [v, s, t]).toks.length) ≠ tFinally) : Good (choiceP l F d i) (.mk 7 noText 0 [v, s, t]) (i + (Tr.mk 7 noText 0 [v, s, t]).toks.length) := by
  have hnd' := hnd
  rw [nd_mk] at hnd'
  have hno := hnd'.1.1 rfl v s t rfl
  rw [toks_sife] at h hx hy ⊢
  have hk : hdKind (tkA l i).tx = 7 := by rw [h.1.tx2]; exact (hd_text (by omega)).2.2.1
  obtain ⟨h1, h2⟩ := inpar_back hF v hv (nd_kids hnd v (by simp)) d (i + 1) _ h.2
  have h3 := At.mid h2
  have e : i + (wdT (hdText 7) :: sgT tOpen :: (v.at 1 ++ sgT tShut :: (s.toks ++ wdT tElse :: t.toks))).length = i + 1 + 1 + (v.at 1).length + 1 + s.toks.length + 1 + t.toks.length := by simp; omega
  rw [e] at hx hy ⊢
  unfold choiceP
  rw [hk]
  refine h1.bind ?_
  refine (Good.deep (hF.st s _ _ hs (nd_kids hnd s (by simp)) h3.1 (fun h => by rw [hno] at h; cases h) (by rw [h3.2.1.fx2]; decide))).bind ?_
  rw [if_pos h3.2.1.fx2]
  exact (Good.deep (hF.st t _ _ ht (nd_kids hnd t (by simp)) h3.2.2 hx hy)).bind Good.ok
theorem behind_back {kd : Int} (hk : kd = 8 ∨ kd = 9) (v s : Tr) (hv : Shp Nm 0 v) (hs : Shp Nm 1 s) (hnd : (Tr.mk kd noText 0 [v, s]).nd) (d i : Nat) (h : At l i (Tr.mk kd noText 0 [v, s]).toks) (hx : endsIf s.count s = true → fx l (i + (Tr.mk kd noText 0 [v, s]).toks.length) ≠ tElse) (hy : fx l (i + (Tr.mk kd noText 0 [v, s]).toks.length) ≠ tFinally) : Good (behindP l F d i) (.mk kd noText 0 [v, s]) (i + (Tr.mk kd noText 0 [v, s]).toks.length) := by
  rw [toks_loop hk] at h hx hy ⊢
  have ht : hdKind (tkA l i).tx = kd := by rw [h.1.tx2]; exact (hd_text (by omega)).2.2.1
  obtain ⟨h1, h2⟩ := inpar_back hF v hv (nd_kids hnd v (by simp)) d (i + 1) _ h.2
  have e : i + (wdT (hdText kd) :: sgT tOpen :: (v.at 1 ++ sgT tShut :: s.toks)).length = i + 1 + 1 + (v.at 1).length + 1 + s.toks.length := by simp; omega
  rw [e] at hx hy ⊢
  unfold behindP
  rw [ht]
  refine h1.bind ?_
  exact (Good.deep (hF.st s _ _ hs (nd_kids hnd s (by simp)) h2 hx hy)).bind Good.ok
theorem giving_back {kd : Int} (hk : kd = 10 ∨ kd = 11) (v : List Tr) (hv : ∀ u ∈ v, Shp Nm 0 u) (hl : v.length ≤ 1) (hc : kd = 11 → v.length = 1) (hnd : ∀ u ∈ v, u.nd) (d i : Nat) (h : At l i (Tr.mk kd noText 0 v).toks) : Good (givingP l F d i) (.mk kd noText 0 v) (i + (Tr.mk kd noText 0 v).toks.length) := by
  cases v with
  | nil =>
    rw [toks_give0 hk] at h ⊢
    have ht : hdKind (tkA l i).tx = kd := by rw [h.1.tx2]; exact (hd_text (by omega)).2.2.1
    have hx : fx l (i + 1) = tSemi := h.2.1.fx5
    unfold givingP
    rw [ht, if_neg (fun hh => by
      rcases hh with hh | hh
      · have := hc hh; simp at this
      · exact hh hx), h.2.1.must]
    exact Good.ok
  | cons a r =>
    obtain rfl : r = [] := by cases r with | nil => rfl | cons b r => simp at hl
    rw [toks_give1 hk] at h ⊢
    have ht : hdKind (tkA l i).tx = kd := by rw [h.1.tx2]; exact (hd_text (by omega)).2.2.1
    have h4 := At.mid (b := []) h.2
    have hx : fx l (i + 1) ≠ tSemi := (headAny_ne (head_at (head_val (hv a (by simp)) rfl) h4.1).1).2.2
    unfold givingP
    rw [ht, if_pos (Or.inr hx)]
    refine (semi_back hF a (hv a (by simp)) (hnd a (by simp)) d _ h4.1 h4.2.1.fx5).bind ?_
    rw [h4.2.1.must]
    have e : i + 1 + (a.at 1).length + 1 = i + (wdT (hdText kd) :: (a.at 1 ++ [sgT tSemi])).length := by simp; omega
    rw [e]
    exact Good.ok
end
end Go.Proofs.YtodmgaikhbmlnaaGreatDoor
namespace Go.Proofs.YtodmgaikhbmlnaaGreatDoor
open Go.RowKit

section
variable {l : List Tk} {Nm : ByteArray → Prop}
variable {F : Fns} (hF : FB l Nm F) (hQ : FQ l Nm F)
section
include hF
theorem catch_back (c f : List Tr) (hc : ∀ u ∈ c, Shp Nm 7 u) (hf : ∀ u ∈ f, Shp Nm 8 u) (hl : c.length ≤ 1) (hn : 0 < c.length + f.length) (hnd : ∀ u ∈ c, u.nd) (d i : Nat) (h : At l i ((c.map Tr.toks).flatten ++ (f.map Tr.toks).flatten)) : Good (catchP l F d i) c (i + (c.map Tr.toks).flatten.length) := by
  unfold catchP
  cases c with
  | nil =>
    cases f with
    | nil => simp at hn
    | cons a r =>
      cases hf a (by simp) with
      | @fin b hb =>
        have h1 : At l i ((Tr.mk 14 noText 0 [b]).toks ++ (r.map Tr.toks).flatten) := by simpa using h
        rw [toks_fin] at h1
        rw [if_neg (by rw [h1.1.fx2]; decide)]
        exact Good.ok
  | cons a r =>
    obtain rfl : r = [] := by cases r with | nil => rfl | cons b r => simp at hl
    have hna := hnd a (by simp)
    cases hc a (by simp) with
    | @cat s b _ hb =>
      have h1 : At l i ((Tr.mk 13 s 0 [b]).toks ++ (f.map Tr.toks).flatten) := by simpa using h
      rw [toks_cat] at h1
      have h2 := h1.app.1
      rw [if_pos h2.1.fx2, h2.2.1.must]
      show Good ((nameP l (i + 1 + 1)).bind _) _ _
      rw [h2.2.2.1.name]
      show Good ((mustP l tShut (i + 1 + 1 + 1)).bind _) _ _
      rw [h2.2.2.2.1.must]
      refine (blk_back hF b hb (nd_kids hna b (by simp)) d _ h2.2.2.2.2).bind ?_
      have e : i + 1 + 1 + 1 + 1 + b.toks.length = i + ([Tr.mk 13 s 0 [b]].map Tr.toks).flatten.length := by
        simp only [List.map_cons, List.map_nil, List.flatten_cons, List.flatten_nil, List.append_nil, toks_cat]; simp; omega
      rw [e]
      exact Good.ok
theorem finally_back (f : List Tr) (hf : ∀ u ∈ f, Shp Nm 8 u) (hl : f.length ≤ 1) (hnd : ∀ u ∈ f, u.nd) (d i : Nat) (h : At l i (f.map Tr.toks).flatten) (hx : f = [] → fx l i ≠ tFinally) : Good (finallyP l F d i) f (i + (f.map Tr.toks).flatten.length) := by
  unfold finallyP
  cases f with
  | nil => rw [if_neg (hx rfl)]; exact Good.ok
  | cons a r =>
    obtain rfl : r = [] := by cases r with | nil => rfl | cons b r => simp at hl
    have hna := hnd a (by simp)
    cases hf a (by simp) with
    | @fin b hb =>
      have h1 : At l i (Tr.mk 14 noText 0 [b]).toks := by simpa using h
      rw [toks_fin] at h1
      rw [if_pos h1.1.fx2]
      refine (blk_back hF b hb (nd_kids hna b (by simp)) d _ h1.2).bind ?_
      have e : i + 1 + b.toks.length = i + ([Tr.mk 14 noText 0 [b]].map Tr.toks).flatten.length := by
        simp only [List.map_cons, List.map_nil, List.flatten_cons, List.flatten_nil, List.append_nil, toks_fin]; simp; omega
      rw [e]
      exact Good.ok
theorem attempt_back (b : Tr) (c f : List Tr) (hb : Shp Nm 3 b) (hc : ∀ u ∈ c, Shp Nm 7 u) (hf : ∀ u ∈ f, Shp Nm 8 u) (hl : c.length ≤ 1 ∧ f.length ≤ 1 ∧ 0 < c.length + f.length) (hnd : (Tr.mk 12 noText 0 (b :: (c ++ f))).nd) (d i : Nat) (h : At l i (Tr.mk 12 noText 0 (b :: (c ++ f))).toks)
    (hx : fx l (i + (Tr.mk 12 noText 0 (b :: (c ++ f))).toks.length) ≠ tFinally) : Good (attemptP l F d i) (.mk 12 noText 0 (b :: (c ++ f))) (i + (Tr.mk 12 noText 0 (b :: (c ++ f))).toks.length) := by
  rw [toks_atm, List.map_append, List.flatten_append] at h hx ⊢
  have h1 := At.app h.2
  have e : i + (wdT tTry :: (b.toks ++ ((c.map Tr.toks).flatten ++ (f.map Tr.toks).flatten))).length = i + 1 + b.toks.length + (c.map Tr.toks).flatten.length + (f.map Tr.toks).flatten.length := by
    simp only [List.length_cons, List.length_append]; omega
  rw [e] at hx ⊢
  unfold attemptP
  rw [h.1.must2]
  show Good ((blockP l F d (i + 1)).bind _) _ _
  refine (blk_back hF b hb (nd_kids hnd b (by simp)) d _ h1.1).bind ?_
  refine (catch_back hF c f hc hf hl.1 hl.2.2 (fun u hu => nd_kids hnd u (by simp [hu])) d _ h1.2).bind ?_
  refine (finally_back hF f hf hl.2.1 (fun u hu => nd_kids hnd u (by simp [hu])) d _ h1.2.app.2 (fun hh => by subst hh; simpa using hx)).bind ?_
  rw [if_neg (by have := hl.2.2; omega)]
  exact Good.ok
end
include hF hQ
theorem expr_back (v : Tr) (hv : Shp Nm 0 v) (hnd : v.nd) (d i : Nat) (h : At l i (Tr.mk 15 noText 0 [v]).toks) : look2 stKeys (fx l i) = none ∧ Good (exprP l F d i) (.mk 15 noText 0 [v]) (i + (Tr.mk 15 noText 0 [v]).toks.length) := by
  rw [toks_expr] at h ⊢
  unfold exprP
  by_cases ho : opensW v.count v = true
  · rw [if_pos ho] at h ⊢
    have h1 := At.mid (b := []) h
    have h2 := h1.1
    refine ⟨by rw [h2.1.fx5]; exact sk_open, ?_⟩
    refine (Good.deep (hQ.vl v _ i hv hnd h2 h1.2.1.fx5)).bind ?_
    rw [h1.2.1.must]
    have e : i + (sgT tOpen :: (v.toks ++ [sgT tShut])).length + 1 = i + (sgT tOpen :: (v.toks ++ [sgT tShut]) ++ [sgT tSemi]).length := by simp; omega
    rw [e]
    exact Good.ok
  · rw [if_neg ho] at h ⊢
    have h1 := At.mid (b := []) h
    have h2 := h1.1
    rw [at_plain (strK_one _)] at h2
    have ho' : opensW v.count v = false := by cases hh : opensW v.count v with | true => exact absurd hh ho | false => rfl
    have h3 := opens_head v.count v (Nat.le_refl _) hv ho' i h2
    refine ⟨sk_none (head_val hv rfl i h2).1 h3.1 h3.2, ?_⟩
    refine (semi_back hF v hv hnd d i h1.1 h1.2.1.fx5).bind ?_
    rw [h1.2.1.must]
    have e : i + (v.at 1).length + 1 = i + (v.at 1 ++ [sgT tSemi]).length := by simp; omega
    rw [e]
    exact Good.ok
end
end Go.Proofs.YtodmgaikhbmlnaaGreatDoor
