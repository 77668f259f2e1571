/-
  try, with catch, or finally, or both.
-/
import Derived.Test.YtodmgaikhbmlnaaGreatDoorEc22
set_option maxRecDepth 100000
set_option maxHeartbeats 16000000
namespace Go.Proofs.YtodmgaikhbmlnaaGreatDoor
open Go.RowKit
theorem bind_assoc {α β γ : Type} (r : PR α) (f : α → Nat → PR β) (g : β → Nat → PR γ) : (r.bind f).bind g = r.bind fun x i => (f x i).bind g := by cases r <;> rfl
theorem at_b {c : Ctx} {F : Fns} (hF : FC c F) (hN : ∃ k, FNx c.l k F) (w : World) (d i i0 : Nat) (h : Rdr c w i d) (hm : mustP c.l tTry i = .ok () i0) (er : Int) (p : Nat) (hb : blockP c.l F d i0 = .bad er p) : Calls Tryz.prog 164 #[rPtr c] w (PPost c w d (NV w.heap.size) (.bad er p)) := by
 have HLO := hide h.base.size
 obtain ⟨i0', hi0, hz0, hz1, hz2⟩ := info_parts info22
 have HR0 := hide h
 have HA0 := hide (Ap.refl c.R w.heap.size w)
 have HLT := hide h.rlt
 clear h
 go_enter Tryz.func164, Tryz.ntmps164
 have HC := hide (must_any c tTry w i d HR0.out (by decide))
 rw [hm] at HC
 go_wp2_with fail
 refine cm HC.out ?_
 intro e wa hp
 obtain ⟨⟨va, rfl, rfl⟩, hrd, ha⟩ := hp
 clear HC
 have HRa := hide hrd
 have HAa := hide (HA0.out.next ha)
 clear hrd ha
 have HC := hide (block_any hF hN wa d i0 _ rfl (by rw [hb]; nofun) HRa.out)
 rw [hb] at HC
 go_wp2_with fail
 refine cm HC.out ?_
 intro e w' hp
 obtain ⟨rfl, ha⟩ := hp
 exact ⟨rfl, ppBad rfl (HAa.out.next ha)⟩
section
variable {c : Ctx} {F : Fns} (hF : FC c F) (hN : ∃ k, FNx c.l k F) (w : World) (d i i0 : Nat) (h : Rdr c w i d) (hm : mustP c.l tTry i = .ok () i0) (b : Tr) (i1 : Nat) (hb : blockP c.l F d i0 = .ok b i1)
include c F hF hN w d i i0 h hm b i1 hb
open zrqcj in
theorem at_none (hc : fx c.l i1 ≠ tCatch) (hf : fx c.l i1 ≠ tFinally) : Calls Tryz.prog 164 #[rPtr c] w (PPost c w d (NV w.heap.size) (.bad 3 (tkA c.l i1).pl)) := by
 exact zeaa
open zrqck in
theorem at_fin (hc : fx c.l i1 ≠ tCatch) (hf : fx c.l i1 = tFinally) (b2 : Tr) (i2 : Nat) (hb2 : blockP c.l F d (i1 + 1) = .ok b2 i2) : Calls Tryz.prog 164 #[rPtr c] w (PPost c w d (NV w.heap.size) (.ok (.mk 12 noText 0 [b, .mk 14 noText 0 [b2]]) i2)) := by
 exact zeaa
open zrqcl in
theorem at_finbad (hc : fx c.l i1 ≠ tCatch) (hf : fx c.l i1 = tFinally) (er : Int) (p : Nat) (hb2 : blockP c.l F d (i1 + 1) = .bad er p) : Calls Tryz.prog 164 #[rPtr c] w (PPost c w d (NV w.heap.size) (.bad er p)) := by
 exact zeaa
open zrqcm in
theorem at_cbad (hc : fx c.l i1 = tCatch) (er : Int) (p : Nat) (hq : mustP c.l tOpen (i1 + 1) = .bad er p ∨ ∃ i2, mustP c.l tOpen (i1 + 1) = .ok () i2 ∧ (nameP c.l i2 = .bad er p ∨ ∃ s i3, nameP c.l i2 = .ok s i3 ∧ (mustP c.l tShut i3 = .bad er p ∨ ∃ i4, mustP c.l tShut i3 = .ok () i4 ∧ blockP c.l F d i4 = .bad er p))) : Calls Tryz.prog 164 #[rPtr c] w (PPost c w d (NV w.heap.size) (.bad er p)) := by
 have HQ := hide hq
 clear hq
 exact zeaa
open zrqcn in
theorem at_catch (hc : fx c.l i1 = tCatch) (i2 : Nat) (h2 : mustP c.l tOpen (i1 + 1) = .ok () i2) (s : ByteArray) (i3 : Nat) (h3 : nameP c.l i2 = .ok s i3) (i4 : Nat) (h4 : mustP c.l tShut i3 = .ok () i4) (b2 : Tr) (i5 : Nat) (h5 : blockP c.l F d i4 = .ok b2 i5) (hf : fx c.l i5 ≠ tFinally) : Calls Tryz.prog 164 #[rPtr c] w (PPost c w d (NV w.heap.size) (.ok (.mk 12 noText 0 [b, .mk 13 s 0 [b2]]) i5)) := by
 exact zeaa
end
theorem at_m {c : Ctx} (w : World) (d i : Nat) (h : Rdr c w i d) (er : Int) (p : Nat) (hm : mustP c.l tTry i = .bad er p) : Calls Tryz.prog 164 #[rPtr c] w (PPost c w d (NV w.heap.size) (.bad er p)) := by
 have HR0 := hide h
 have HA0 := hide (Ap.refl c.R w.heap.size w)
 clear h
 go_enter Tryz.func164, Tryz.ntmps164
 have HC := hide (must_any c tTry w i d HR0.out (by decide))
 rw [hm] at HC
 go_wp2_with fail
 refine cm HC.out ?_
 intro e w' hp
 obtain ⟨rfl, ha⟩ := hp
 exact ⟨rfl, ppBad rfl (HA0.out.next ha)⟩
theorem zrqcy.zrbsX {G : Prop} (h : G := by
  rename World => wy
  refine wt 5 (rPtr c) ?_; refine wr2 4 6 (fun K hK => ?_) fun K hK => ?_
  ·
   go_simp; refine hK _ _ ?_; clear hK K; refine wr1 6 fun K hK => ?_; go_simp; refine cm HCF.out ?_; intro e wc hp; obtain ⟨⟨vc, rfl, hnc⟩, hrd, ha⟩ := hp; obtain ⟨pc, rfl, hmc⟩ := hnc.nv
   have ha0 := ((Ap.refl c.R wy.heap.size wy).drew).next ha; have HY : Hid (Ap c.R wy.heap.size wy wc ∧ Rdr c wc i6 d ∧ NAt (From wy.heap.size) wc b3 pc) := ⟨ha0, hrd, hmc⟩; exact zcas
  ·
   go_simp; refine cm HCF.out ?_; intro e wc hp; obtain ⟨⟨vc, rfl, hnc⟩, hrd, ha⟩ := hp; obtain ⟨pc, rfl, hmc⟩ := hnc.nv; have ha0 := ((Ap.refl c.R wy.heap.size wy).drew).next ha
   have HY : Hid (Ap c.R wy.heap.size wy wc ∧ Rdr c wc i6 d ∧ NAt (From wy.heap.size) wc b3 pc) := ⟨ha0, hrd, hmc⟩; exact zcad
 ) : G := h
section
variable {c : Ctx} {F : Fns} (hF : FC c F) (hN : ∃ k, FNx c.l k F) (w : World) (d i i0 : Nat) (h : Rdr c w i d) (hm : mustP c.l tTry i = .ok () i0) (b : Tr) (i1 : Nat) (hb : blockP c.l F d i0 = .ok b i1) (hc : fx c.l i1 = tCatch) (i2 : Nat) (h2 : mustP c.l tOpen (i1 + 1) = .ok () i2) (s : ByteArray) (i3 : Nat) (h3 : nameP c.l i2 = .ok s i3) (i4 : Nat) (h4 : mustP c.l tShut i3 = .ok () i4) (b2 : Tr) (i5 : Nat) (h5 : blockP c.l F d i4 = .ok b2 i5) (hf : fx c.l i5 = tFinally)
include c F hF hN w d i i0 h hm b i1 hb hc i2 h2 s i3 h3 i4 h4 b2 i5 h5 hf
open zrqco (zrbX zrtX) in
open zrqcy in
theorem at_both (b3 : Tr) (i6 : Nat) (h6 : blockP c.l F d (i5 + 1) = .ok b3 i6) : Calls Tryz.prog 164 #[rPtr c] w (PPost c w d (NV w.heap.size) (.ok (.mk 12 noText 0 [b, .mk 13 s 0 [b2], .mk 14 noText 0 [b3]]) i6)) := by
 exact zeaa
open zrqcp in
theorem at_bothbad (er : Int) (p : Nat) (h6 : blockP c.l F d (i5 + 1) = .bad er p) : Calls Tryz.prog 164 #[rPtr c] w (PPost c w d (NV w.heap.size) (.bad er p)) := by
 exact zeaa
end
theorem bind_inv {α β : Type} {r : PR α} {f : α → Nat → PR β} {y : β} {j : Nat} (h : r.bind f = .ok y j) : ∃ x i, r = .ok x i ∧ f x i = .ok y j := by
 cases r with
 | ok x i => exact ⟨x, i, rfl, h⟩
 | bad er p => cases h
 | out => cases h
theorem hd_ne {s : ByteArray} : hdKind s ≠ 15 := by
 unfold hdKind look2
 cases hf : hds.find? (fun e => decide (s = e.1)) with
 | none => decide
 | some e =>
  have hm := List.mem_of_find?_eq_some hf; simp only [hds, List.mem_cons, List.not_mem_nil, or_false] at hm
  rcases hm with rfl | rfl | rfl | rfl | rfl | rfl | rfl | rfl <;> decide
theorem funcTail_kd {l : List Tk} {F : Fns} {kd : Int} {s : ByteArray} {d i j : Nat} {t : Tr} (h : funcTail l F kd s d i = .ok t j) : t.kd = kd := by
 unfold funcTail at h
 obtain ⟨_, _, _, h⟩ := bind_inv h
 obtain ⟨_, _, _, h⟩ := bind_inv h
 cases h; rfl
theorem part_kd {l : List Tk} {F : Fns} {d q i j : Nat} {t : Tr} (h : partP l F d q i = .ok t j) : t.kd ≠ 15 := by
 unfold partP at h
 split at h
 ·
  unfold declP at h; obtain ⟨_, _, _, h⟩ := bind_inv h
  split at h
  ·
   cases h
  ·
   split at h
   ·
    exact zbfg
   ·
    obtain ⟨_, _, _, h⟩ := bind_inv h
    cases h; exact hd_ne
 ·
  unfold funcP at h; obtain ⟨_, _, _, h⟩ := bind_inv h; obtain ⟨_, _, _, h⟩ := bind_inv h; rw [funcTail_kd h]; decide
 ·
  unfold blockP at h; obtain ⟨_, _, _, h⟩ := bind_inv h; obtain ⟨_, _, _, h⟩ := bind_inv h; cases h
  show (6 : Int) ≠ 15
  decide
 ·
  obtain ⟨_, _, _, h⟩ := bind_inv h
  cases h; decide
 ·
  unfold choiceP at h; obtain ⟨_, _, _, h⟩ := bind_inv h; obtain ⟨_, _, _, h⟩ := bind_inv h
  split at h
  ·
   obtain ⟨_, _, _, h⟩ := bind_inv h
   cases h; exact hd_ne
  ·
   cases h; exact hd_ne
 ·
  unfold behindP at h; exact zbfg
 ·
  unfold givingP at h
  split at h
  ·
   exact zbfg
  ·
   obtain ⟨_, _, _, h⟩ := bind_inv h
   cases h; exact hd_ne
 ·
  unfold attemptP at h; obtain ⟨_, _, _, h⟩ := bind_inv h; obtain ⟨_, _, _, h⟩ := bind_inv h; obtain ⟨_, _, _, h⟩ := bind_inv h; obtain ⟨_, _, _, h⟩ := bind_inv h
  split at h
  ·
   cases h
  ·
   cases h
   show (12 : Int) ≠ 15
   decide
theorem fns_ok (l : List Tk) : ∀ k, FOk (fns l k) := by
 intro k
 cases k with
 | zero => intro d i t j h; cases h
 | succ k =>
  intro d i t j h h15; have h' : statementP l (fns l k) d i = .ok t j := h; unfold statementP at h'
  split at h'
  ·
   exact absurd h15 (part_kd h')
  ·
   exact zbgi
theorem attempt_any {c : Ctx} {F : Fns} (hF : FC c F) (hN : ∃ k, FNx c.l k F) : Does c 164 NV (attemptP c.l F) := by
 intro w d i r hs ho h
 unfold attemptP at hs
 cases hm : mustP c.l tTry i with
 | out => rw [hm] at hs; exact absurd hs.symm ho
 | bad er p => rw [hm, bind_bad] at hs; subst hs; exact at_m w d i h er p hm
 | ok x i0 =>
  rw [hm, bind_ok] at hs
  cases hb : blockP c.l F d i0 with
  | out => rw [hb] at hs; exact absurd hs.symm ho
  | bad er p => rw [hb, bind_bad] at hs; subst hs; exact at_b hF hN w d i i0 h hm er p hb
  | ok b i1 =>
   rw [hb, bind_ok] at hs; unfold catchP at hs
   by_cases hc : fx c.l i1 = tCatch
   ·
    rw [if_pos hc, bind_assoc] at hs
    cases h2 : mustP c.l tOpen (i1 + 1) with
    | out => rw [h2] at hs; exact absurd hs.symm ho
    | bad er p => rw [h2, bind_bad] at hs; subst hs; exact at_cbad hF hN w d i i0 h hm b i1 hb hc er p (Or.inl h2)
    | ok x2 i2 =>
     rw [h2, bind_ok, bind_assoc] at hs
     cases h3 : nameP c.l i2 with
     | out => rw [h3] at hs; exact absurd hs.symm ho
     | bad er p => rw [h3, bind_bad] at hs; subst hs; exact at_cbad hF hN w d i i0 h hm b i1 hb hc er p (Or.inr ⟨i2, h2, Or.inl h3⟩)
     | ok s i3 =>
      rw [h3, bind_ok, bind_assoc] at hs
      cases h4 : mustP c.l tShut i3 with
      | out => rw [h4] at hs; exact absurd hs.symm ho
      | bad er p => rw [h4, bind_bad] at hs; subst hs; exact at_cbad hF hN w d i i0 h hm b i1 hb hc er p (Or.inr ⟨i2, h2, Or.inr ⟨s, i3, h3, Or.inl h4⟩⟩)
      | ok x4 i4 =>
       rw [h4, bind_ok, bind_assoc] at hs
       cases h5 : blockP c.l F d i4 with
       | out => rw [h5] at hs; exact absurd hs.symm ho
       | bad er p => rw [h5, bind_bad] at hs; subst hs; exact at_cbad hF hN w d i i0 h hm b i1 hb hc er p (Or.inr ⟨i2, h2, Or.inr ⟨s, i3, h3, Or.inr ⟨i4, h4, h5⟩⟩⟩)
       | ok b2 i5 =>
        rw [h5, bind_ok, bind_ok] at hs; unfold finallyP at hs
        by_cases hf : fx c.l i5 = tFinally
        ·
         rw [if_pos hf, bind_assoc] at hs
         cases h6 : blockP c.l F d (i5 + 1) with
         | out => rw [h6] at hs; exact absurd hs.symm ho
         | bad er p => rw [h6, bind_bad] at hs; subst hs; exact at_bothbad hF hN w d i i0 h hm b i1 hb hc i2 h2 s i3 h3 i4 h4 b2 i5 h5 hf er p h6
         | ok b3 i6 =>
          rw [h6, bind_ok, bind_ok, if_neg (by simp)] at hs; subst hs; exact at_both hF hN w d i i0 h hm b i1 hb hc i2 h2 s i3 h3 i4 h4 b2 i5 h5 hf b3 i6 h6
        ·
         rw [if_neg hf, bind_ok, if_neg (by simp)] at hs; subst hs; exact at_catch hF hN w d i i0 h hm b i1 hb hc i2 h2 s i3 h3 i4 h4 b2 i5 h5 hf
   ·
    rw [if_neg hc, bind_ok] at hs; unfold finallyP at hs
    by_cases hf : fx c.l i1 = tFinally
    ·
     rw [if_pos hf, bind_assoc] at hs
     cases h6 : blockP c.l F d (i1 + 1) with
     | out => rw [h6] at hs; exact absurd hs.symm ho
     | bad er p => rw [h6, bind_bad] at hs; subst hs; exact at_finbad hF hN w d i i0 h hm b i1 hb hc hf er p h6
     | ok b3 i6 =>
      rw [h6, bind_ok, bind_ok, if_neg (by simp)] at hs; subst hs; exact at_fin hF hN w d i i0 h hm b i1 hb hc hf b3 i6 h6
    ·
     rw [if_neg hf, bind_ok, if_pos (by simp)] at hs; subst hs; exact at_none hF hN w d i i0 h hm b i1 hb hc hf
theorem en127 : ∀ args W, (callFunc 157 args).run Tryz.prog W = .ok (.enter 157 args) W := fun _ _ => by kernel_rfl
theorem en128 : ∀ args W, (callFunc 158 args).run Tryz.prog W = .ok (.enter 158 args) W := fun _ _ => by kernel_rfl
theorem en129 : ∀ args W, (callFunc 159 args).run Tryz.prog W = .ok (.enter 159 args) W := fun _ _ => by kernel_rfl
theorem en130 : ∀ args W, (callFunc 160 args).run Tryz.prog W = .ok (.enter 160 args) W := fun _ _ => by kernel_rfl
theorem en131 : ∀ args W, (callFunc 161 args).run Tryz.prog W = .ok (.enter 161 args) W := fun _ _ => by kernel_rfl
theorem en132 : ∀ args W, (callFunc 162 args).run Tryz.prog W = .ok (.enter 162 args) W := fun _ _ => by kernel_rfl
theorem en133 : ∀ args W, (callFunc 163 args).run Tryz.prog W = .ok (.enter 163 args) W := fun _ _ => by kernel_rfl
theorem en134 : ∀ args W, (callFunc 164 args).run Tryz.prog W = .ok (.enter 164 args) W := fun _ _ => by kernel_rfl
theorem st_lt {s : ByteArray} {q : Nat} (h : look2 stKeys s = some q) : q < 8 := by
 unfold look2 at h
 cases hf : stKeys.find? (fun e => decide (s = e.1)) with
 | none => rw [hf] at h; cases h
 | some e =>
  rw [hf] at h; have hm := List.mem_of_find?_eq_some hf; simp only [Option.map_some, Option.some.injEq] at h; subst h; simp only [stKeys, List.mem_cons, List.not_mem_nil, or_false] at hm
  rcases hm with rfl | rfl | rfl | rfl | rfl | rfl | rfl | rfl | rfl | rfl | rfl | rfl <;> decide
theorem ppEV {c : Ctx} {w : World} {d : Nat} {r : PR Tr} {e : Ending} {w' : World} (h : PPost c w d (EV w.heap.size) r e w') : PPost c w d (NV w.heap.size) r e w' := by
 cases r with
 | ok x j =>
  obtain ⟨⟨v, h1, h2⟩, h3, h4⟩ := h; exact ⟨⟨v, h1, h2.nv⟩, h3, h4⟩
 | bad er p => exact h
 | out => exact h
theorem statement_any {c : Ctx} {F : Fns} (hF : FC c F) (hN : ∃ k, FNx c.l k F) (hK : FOk F) : Does c 170 NV (statementP c.l F) := by
 intro w d i r hs ho h
 unfold statementP at hs
 cases hq : look2 stKeys (fx c.l i) with
 | none => rw [hq] at hs; exact st_none hF w d i r hs ho hq h
 | some q =>
  rw [hq] at hs; have hlt := st_lt hq; have hk6 : (tkA c.l i).kd ≠ 6 := fun h6 => by
   have : fx c.l i = noText := by unfold fx; rw [h6]; rfl
   have h0 : look2 stKeys noText = none := by decide
   rw [this, h0] at hq; cases hq
  have h8 : q = 0 ∨ q = 1 ∨ q = 2 ∨ q = 3 ∨ q = 4 ∨ q = 5 ∨ q = 6 ∨ q = 7 := by omega
  rcases h8 with rfl | rfl | rfl | rfl | rfl | rfl | rfl | rfl
  ·
   exact st_some 157 en127 w d i r ho 0 hq rfl (fun W hW => decl_any hF W d i r hk6 hs ho hW) h
  ·
   exact st_some 158 en128 w d i r ho 1 hq rfl (fun W hW => func_any hF hN hK W d i r hs ho hW) h
  ·
   exact st_some 159 en129 w d i r ho 2 hq rfl (fun W hW => (block_any hF hN W d i r hs ho hW).mono fun e w' hp => ppEV hp) h
  ·
   exact st_some 160 en130 w d i r ho 3 hq rfl (fun W hW => empty_any W d i r hs ho hW) h
  ·
   exact st_some 161 en131 w d i r ho 4 hq rfl (fun W hW => choice_any hF W d i r hk6 hs ho hW) h
  ·
   exact st_some 162 en132 w d i r ho 5 hq rfl (fun W hW => (behind_any hF W d i r hk6 hs ho hW).mono fun e w' hp => ppEV hp) h
  ·
   exact st_some 163 en133 w d i r ho 6 hq rfl (fun W hW => giving_any hF W d i r hk6 hs ho hW) h
  ·
   exact st_some 164 en134 w d i r ho 7 hq rfl (fun W hW => attempt_any hF hN W d i r hs ho hW) h
theorem fns_does (c : Ctx) (hE : Ends c.l) : ∀ k, FC c (fns c.l k) := by
 intro k
 induction k with
 | zero => exact ⟨fun _ _ _ r hs ho _ => absurd hs.symm ho, fun _ _ _ r hs ho _ => absurd hs.symm ho, fun _ _ _ _ _ _ r hs ho _ => absurd hs.symm ho, fun _ _ _ r hs ho _ => absurd hs.symm ho⟩
 | succ k ih =>
  have hN : ∃ q, FNx c.l q (fns c.l k) := ⟨k, fns_nx hE k⟩
  exact ⟨statement_any ih hN (fns_ok c.l k), value_any ih, fun b _ _ w d i r hs ho h => pair_any ih hN b w d i r hs ho h, single_any ih (asked_any ih hN (fns_ok c.l k))⟩
end Go.Proofs.YtodmgaikhbmlnaaGreatDoor
namespace Go.Proofs.YtodmgaikhbmlnaaGreatDoor
theorem binds {α β : Type} {r : PR α} {f : α → Nat → PR β} {y : β} {j : Nat} (h : r.bind f = .ok y j) : ∃ x i, r = .ok x i ∧ f x i = .ok y j := by
 cases r with
 | ok x i => exact ⟨x, i, rfl, h⟩
 | bad er p => cases h
 | out => cases h
theorem count_mk (kd : Int) (tx : ByteArray) (n : Int) (ks : List Tr) : (Tr.mk kd tx n ks).count = 1 + Tr.counts ks := by rw [Tr.count]
theorem counts_nil : Tr.counts [] = 0 := by rw [Tr.counts]
theorem counts_cons (t : Tr) (ts : List Tr) : Tr.counts (t :: ts) = t.count + Tr.counts ts := by rw [Tr.counts]
theorem counts_app : ∀ (ts us : List Tr), Tr.counts (ts ++ us) = Tr.counts ts + Tr.counts us
 | [], us => by rw [List.nil_append, counts_nil, Nat.zero_add]
 | t :: ts, us => by rw [List.cons_append, counts_cons, counts_cons, counts_app ts us, Nat.add_assoc]
theorem code_count (t : Tr) : (codeT t).count = t.count := by
 unfold codeT
 split
 ·
  rw [count_mk, count_mk]
 ·
  rfl
section
variable {l : List Tk}
theorem must_eq {s : ByteArray} {i j : Nat} {x : Unit} (h : mustP l s i = .ok x j) : j = i + 1 := by
 unfold mustP at h
 split at h
 ·
  cases h; rfl
 ·
  cases h
theorem name_eq {s : ByteArray} {i j : Nat} (h : nameP l i = .ok s j) : j = i + 1 := by
 unfold nameP at h
 split at h
 ·
  cases h; rfl
 ·
  cases h
def Cb (i : Nat) (r : PR Tr) : Prop := ∀ t j, r = .ok t j → t.count + 3 * i ≤ 3 * j
def Cbs (i : Nat) (r : PR (List Tr)) : Prop := ∀ t j, r = .ok t j → Tr.counts t + 3 * i ≤ 3 * j
theorem deep_cb {f : Nat → Nat → PR Tr} {d i : Nat} (h : Cb i (f (d + 1) i)) : Cb i (deepP l f d i) := by
 unfold deepP
 split
 ·
  intro t j e; cases e
 ·
  exact h
theorem listLoop_cb {shut : ByteArray} {begins : Nat → Bool} {part : Nat → PR Tr} (hp : ∀ i, Cb i (part i)) : ∀ k acc i t j, listLoop l shut begins part k acc i = .ok t j → Tr.counts t + 3 * i ≤ Tr.counts acc + 3 * j := by
 intro k
 induction k with
 | zero => intro acc i t j h; cases h
 | succ k ih =>
  intro acc i t j h; unfold listLoop at h
  split at h
  ·
   cases h
  ·
   obtain ⟨u, i1, h1, h⟩ := binds h; have := hp i u i1 h1
   split at h
   ·
    cases h; rw [counts_app, counts_cons, counts_nil]; omega
   ·
    obtain ⟨_, i2, h2, h⟩ := binds h; have h3 := must_eq h2; have h4 := ih _ _ _ _ h; rw [counts_app, counts_cons, counts_nil] at h4; omega
theorem list_cb {opn shut : ByteArray} {begins : Nat → Bool} {part : Nat → PR Tr} (hp : ∀ i, Cb i (part i)) {k i j : Nat} {t : List Tr} (h : listP l opn shut begins part k i = .ok t j) : Tr.counts t + 3 * i + 3 ≤ 3 * j := by
 unfold listP at h
 obtain ⟨_, i1, h1, h⟩ := binds h
 have h2 := must_eq h1
 split at h
 ·
  cases h; rw [counts_nil]; omega
 ·
  have := listLoop_cb hp _ _ _ _ _ h; rw [counts_nil] at this; omega
structure FCb (F : Fns) : Prop where
 st : ∀ d i, Cb i (F.st d i)
 vl : ∀ d i, Cb i (F.vl d i)
 pr : ∀ b d i, Cb i (F.pr b d i)
 sg : ∀ d i, Cb i (F.sg d i)
variable {F : Fns} (hF : FCb F)
include hF
theorem blockLoop_cb {d : Nat} : ∀ k acc i t j, blockLoop l F d k acc i = .ok t j → Tr.counts t + 3 * i + 3 ≤ Tr.counts acc + 3 * j := by
 intro k
 induction k with
 | zero => intro acc i t j h; cases h
 | succ k ih =>
  intro acc i t j h; unfold blockLoop at h; exact zbfb
theorem block_cb {d i j : Nat} {t : Tr} (h : blockP l F d i = .ok t j) : t.count + 3 * i + 5 ≤ 3 * j := by
 unfold blockP at h
 obtain ⟨_, i1, h1, h⟩ := binds h
 obtain ⟨ts, i2, h2, h⟩ := binds h
 cases h
 have h3 := must_eq h1
 have h4 := blockLoop_cb hF _ _ _ _ _ h2
 rw [counts_nil] at h4
 rw [count_mk]; omega
omit hF in
theorem param_cb (i : Nat) : Cb i (paramP l i) := by
 intro t j h
 unfold paramP at h
 obtain ⟨_, i1, h1, h⟩ := binds h
 cases h
 have := name_eq h1
 rw [count_mk, counts_nil]; omega
omit hF in
theorem params_cb {i j : Nat} {t : Tr} (h : paramsP l F i = .ok t j) : t.count + 3 * i + 2 ≤ 3 * j := by
 unfold paramsP at h
 obtain ⟨ts, i1, h1, h⟩ := binds h
 cases h
 have := list_cb param_cb h1
 rw [count_mk]; omega
section
variable (d i : Nat)
include d i
theorem arg_cb : Cb i (argP l F d i) := deep_cb (hF.vl _ _)
theorem prop_cb : Cb i (propP l F d i) := by
 intro t j h
 unfold propP at h
 obtain ⟨_, i1, h1, h⟩ := binds h
 obtain ⟨_, i2, h2, h⟩ := binds h
 obtain ⟨u, i3, h3, h⟩ := binds h
 cases h
 have e1 := name_eq h1
 have e2 := must_eq h2
 have e3 := deep_cb (l := l) (hF.vl _ _) u _ h3
 rw [count_mk, counts_cons, counts_nil]; omega
theorem inPar_cb : Cb i (inParP l F d i) := by
 intro t j h
 unfold inParP at h
 obtain ⟨_, i1, h1, h⟩ := binds h
 obtain ⟨u, i2, h2, h⟩ := binds h
 obtain ⟨_, i3, h3, h⟩ := binds h
 cases h
 have e1 := must_eq h1
 have e2 := deep_cb (l := l) (hF.vl _ _) _ _ h2
 have e3 := must_eq h3
 omega
theorem object_cb : Cb i (objectP l F d i) := by
 intro t j h
 unfold objectP at h
 obtain ⟨ts, i1, h1, h⟩ := binds h
 cases h
 have := list_cb (prop_cb hF d) h1
 rw [count_mk]; omega
end
theorem tail_cb {kd : Int} {s : ByteArray} {d i j : Nat} {t : Tr} (h : funcTail l F kd s d i = .ok t j) : t.count + 3 * i ≤ 3 * j := by
 unfold funcTail at h
 obtain ⟨ps, i1, h1, h⟩ := binds h
 obtain ⟨b, i2, h2, h⟩ := binds h
 cases h
 have e1 := params_cb h1
 have e2 := block_cb hF h2
 rw [count_mk, counts_cons, counts_cons, counts_nil, code_count]; omega
theorem lambda_cb (d i : Nat) : Cb i (lambdaP l F d i) := by
 intro t j h
 unfold lambdaP at h
 obtain ⟨_, i1, h1, h⟩ := binds h
 have e1 := must_eq h1
 split at h
 ·
  obtain ⟨_, i2, h2, h⟩ := binds h; have e2 := name_eq h2; have := tail_cb hF h; omega
 ·
  have := tail_cb hF h; omega
theorem func_cb (d i : Nat) : Cb i (funcP l F d i) := by
 intro t j h
 unfold funcP at h
 obtain ⟨_, i1, h1, h⟩ := binds h
 obtain ⟨_, i2, h2, h⟩ := binds h
 have e1 := must_eq h1
 have e2 := name_eq h2
 have := tail_cb hF h
 omega
theorem alone_cb (d i : Nat) : Cb i (aloneP l F d i) := by
 unfold aloneP
 split
 ·
  exact inPar_cb hF d i
 ·
  exact object_cb hF d i
 ·
  exact lambda_cb hF d i
 ·
  split
  ·
   intro t j h; cases h; rw [count_mk, counts_nil]; omega
  ·
   split
   ·
    intro t j h; cases h; rw [count_mk, counts_nil]; omega
   ·
    split
    ·
     intro t j h; cases h; rw [count_mk, counts_nil]; omega
    ·
     split
     ·
      intro t j h; cases h; rw [count_mk, counts_nil]; omega
     ·
      intro t j h; cases h
theorem askedLoop_cb {d : Nat} : ∀ k u i t j, askedLoop l F d k u i = .ok t j → t.count + 3 * i ≤ u.count + 3 * j := by
 intro k
 induction k with
 | zero => intro u i t j h; cases h
 | succ k ih =>
  intro u i t j h; unfold askedLoop at h
  split at h
  ·
   obtain ⟨s, i1, h1, h⟩ := binds h; have e1 := name_eq h1; have e2 := ih _ _ _ _ h; rw [count_mk, counts_cons, counts_nil] at e2; omega
  ·
   split at h
   ·
    obtain ⟨ts, i1, h1, h⟩ := binds h; have e1 := list_cb (arg_cb hF d) h1; have e2 := ih _ _ _ _ h; rw [count_mk, counts_cons] at e2; omega
   ·
    cases h; omega
theorem asked_cb (d i : Nat) : Cb i (askedP l F d i) := by
 intro t j h
 unfold askedP at h
 obtain ⟨u, i1, h1, h⟩ := binds h
 have e1 := alone_cb hF d i u i1 h1
 have e2 := askedLoop_cb hF _ _ _ _ _ h
 omega
theorem single_cb (d i : Nat) : Cb i (singleP l F d i) := by
 unfold singleP
 split
 ·
  intro t j h; obtain ⟨u, i1, h1, h⟩ := binds h; cases h; have := deep_cb (l := l) (hF.sg _ _) u _ h1; rw [count_mk, counts_cons, counts_nil]; omega
 ·
  exact asked_cb hF d i
theorem pairLoop_cb {b : Int} {d : Nat} : ∀ k u i t j, pairLoop l F b d k u i = .ok t j → t.count + 3 * i ≤ u.count + 3 * j := by
 intro k
 induction k with
 | zero => intro u i t j h; cases h
 | succ k ih =>
  intro u i t j h; unfold pairLoop at h
  split at h
  ·
   cases h; omega
  ·
   split at h
   ·
    cases h; omega
   ·
    obtain ⟨v, i1, h1, h⟩ := binds h; have e1 := hF.pr _ _ _ v i1 h1; have e2 := ih _ _ _ _ h; rw [count_mk, counts_cons, counts_cons, counts_nil] at e2; omega
theorem pair_cb (b : Int) (d i : Nat) : Cb i (pairP l F b d i) := by
 intro t j h
 unfold pairP at h
 obtain ⟨u, i1, h1, h⟩ := binds h
 have e1 := hF.sg _ _ u i1 h1
 have e2 := pairLoop_cb hF _ _ _ _ _ h
 omega
theorem value_cb (d i : Nat) : Cb i (valueP l F d i) := by
 intro t j h
 unfold valueP at h
 obtain ⟨u, i1, h1, h⟩ := binds h
 have e1 := hF.pr _ _ _ u i1 h1
 split at h
 ·
  split at h
  ·
   obtain ⟨v, i2, h2, h⟩ := binds h; cases h; have e2 := deep_cb (l := l) (hF.vl _ _) v _ h2; rw [count_mk, counts_cons, counts_cons, counts_nil]; omega
  ·
   cases h
 ·
  cases h; exact e1
theorem part_cb (d q i : Nat) : Cb i (partP l F d q i) := by
 intro t j h
 unfold partP at h
 split at h
 ·
  unfold declP at h; obtain ⟨s, i1, h1, h⟩ := binds h; have e1 := name_eq h1
  split at h
  ·
   cases h
  ·
   split at h
   ·
    obtain ⟨v, i2, h2, h⟩ := binds h; obtain ⟨_, i3, h3, h⟩ := binds h; cases h; have e2 := deep_cb (l := l) (hF.vl _ _) v _ h2; have e3 := must_eq h3; rw [count_mk, counts_cons, counts_nil]; omega
   ·
    obtain ⟨_, i3, h3, h⟩ := binds h; cases h; have e3 := must_eq h3; rw [count_mk, counts_nil]; omega
 ·
  exact func_cb hF d i t j h
 ·
  have := block_cb hF h; omega
 ·
  obtain ⟨_, i3, h3, h⟩ := binds h; cases h; have e3 := must_eq h3; rw [count_mk, counts_nil]; omega
 ·
  unfold choiceP at h; obtain ⟨v, i1, h1, h⟩ := binds h; obtain ⟨s, i2, h2, h⟩ := binds h; have e1 := inPar_cb hF d _ v i1 h1; have e2 := deep_cb (l := l) (hF.st _ _) s _ h2
  split at h
  ·
   obtain ⟨s2, i3, h3, h⟩ := binds h; cases h; have e3 := deep_cb (l := l) (hF.st _ _) s2 _ h3; rw [count_mk, counts_cons, counts_cons, counts_cons, counts_nil]; omega
  ·
   cases h; rw [count_mk, counts_cons, counts_cons, counts_nil]; omega
 ·
  unfold behindP at h; obtain ⟨v, i1, h1, h⟩ := binds h; obtain ⟨s, i2, h2, h⟩ := binds h; cases h; have e1 := inPar_cb hF d _ v i1 h1; have e2 := deep_cb (l := l) (hF.st _ _) s _ h2
  rw [count_mk, counts_cons, counts_cons, counts_nil]; omega
 ·
  unfold givingP at h
  split at h
  ·
   exact zbfe
  ·
   obtain ⟨_, i2, h2, h⟩ := binds h; cases h; have e2 := must_eq h2; rw [count_mk, counts_nil]; omega
 ·
  unfold attemptP at h; obtain ⟨_, i0, h0, h⟩ := binds h; obtain ⟨b, i1, h1, h⟩ := binds h; obtain ⟨c, i2, h2, h⟩ := binds h; obtain ⟨f, i3, h3, h⟩ := binds h; have e0 := must_eq h0; have e1 := block_cb hF h1
  have e2 : Tr.counts c + 3 * i1 ≤ 3 * i2 := by
   unfold catchP at h2
   split at h2
   ·
    obtain ⟨_, k1, g1, h2⟩ := binds h2; obtain ⟨_, k2, g2, h2⟩ := binds h2; obtain ⟨_, k3, g3, h2⟩ := binds h2; obtain ⟨bb, k4, g4, h2⟩ := binds h2; cases h2; have := must_eq g1; have := name_eq g2; have := must_eq g3
    have := block_cb hF g4; rw [counts_cons, count_mk, counts_cons, counts_nil]; omega
   ·
    cases h2; rw [counts_nil]; omega
  have e3 : Tr.counts f + 3 * i2 ≤ 3 * i3 := by
   unfold finallyP at h3
   split at h3
   ·
    obtain ⟨bb, k4, g4, h3⟩ := binds h3; cases h3; have := block_cb hF g4; rw [counts_cons, count_mk, counts_cons, counts_nil]; omega
   ·
    cases h3; rw [counts_nil]; omega
  split at h
  ·
   cases h
  ·
   cases h; rw [count_mk, counts_cons, counts_app]; omega
theorem statement_cb (d i : Nat) : Cb i (statementP l F d i) := by
 unfold statementP
 split
 ·
  exact part_cb hF d _ i
 ·
  intro t j h; unfold exprP at h; exact zbfe
omit hF in
theorem fns_cb : ∀ k, FCb (fns l k) := by
 intro k
 induction k with
 | zero => exact ⟨fun _ _ _ _ h => by (cases h), fun _ _ _ _ h => by (cases h), fun _ _ _ _ _ h => by (cases h), fun _ _ _ _ h => by (cases h)⟩
 | succ k ih => exact ⟨statement_cb ih, value_cb ih, pair_cb ih, single_cb ih⟩
theorem progLoop_cb : ∀ k acc i t j, progLoop l F k acc i = .ok t j → Tr.counts t + 3 * i ≤ Tr.counts acc + 3 * j := by
 intro k
 induction k with
 | zero => intro acc i t j h; cases h
 | succ k ih =>
  intro acc i t j h; unfold progLoop at h; exact zbfb
theorem prog_cb {t : Tr} {j : Nat} (h : progP l F = .ok t j) : t.count ≤ 1 + 3 * j := by
 unfold progP at h
 obtain ⟨ts, i1, h1, h⟩ := binds h
 cases h
 have := progLoop_cb hF _ _ _ _ _ h1
 rw [counts_nil] at this
 rw [code_count, count_mk]; omega
end
end Go.Proofs.YtodmgaikhbmlnaaGreatDoor
namespace Go.Proofs.YtodmgaikhbmlnaaGreatDoor
open Go.RowKit
theorem NAts.get {I : Nat → Prop} {w : World} : ∀ (ts : List Tr) (ps : List Nat), NAts I w ts ps → ∀ k, (hk : k < ts.length) → ∃ hp : k < ps.length, NAt I w ts[k] ps[k]
 | [], _, _, k, hk => absurd hk (by simp)
 | t :: ts, ps, h, k, hk => by
  rw [NAts] at h; obtain ⟨p, ps', rfl, h1, h2⟩ := h
  cases k with
  | zero => exact ⟨by simp, h1⟩
  | succ k =>
   obtain ⟨hp, hn⟩ := NAts.get ts ps' h2 k (by simpa using hk); exact ⟨by simpa using hp, by simpa using hn⟩
theorem counts_take : ∀ (ts : List Tr) (k : Nat) (hk : k < ts.length), Tr.counts (ts.take (k + 1)) = Tr.counts (ts.take k) + (ts[k]).count
 | [], k, hk => absurd hk (by simp)
 | t :: ts, 0, _ => by simp [counts_cons, counts_nil]
 | t :: ts, k + 1, hk => by
  have := counts_take ts k (by simpa using hk); simp only [List.take_succ_cons, counts_cons, List.getElem_cons_succ]; omega
theorem counts_le (ts : List Tr) (k : Nat) (hk : k < ts.length) : (ts[k]).count ≤ Tr.counts ts := by
 have h1 := counts_take ts k hk
 have h2 : Tr.counts ts = Tr.counts (ts.take (k + 1)) + Tr.counts (ts.drop (k + 1)) := by rw [← counts_app, List.take_append_drop]
 omega
theorem count_pos (t : Tr) : 1 ≤ t.count := by cases t with | mk kd tx n ks => rw [count_mk]; omega
theorem counts_len : ∀ (ts : List Tr), ts.length ≤ Tr.counts ts
 | [] => by simp
 | t :: ts => by
  have h1 := count_pos t; have h2 := counts_len ts; rw [counts_cons, List.length_cons]; omega
abbrev cntV (b : Nat) : Value := .func (.func 113) #[] #[.pointer (some ⟨b, 0, none⟩)]
theorem count1_any (v : Value) (b : Nat) (n : Int) (w : World) (hc : w.cell? ⟨b, 0, none⟩ = some (.int .i64 n)) (hf : ∀ o, w.frozen? ⟨b, o, none⟩ = false) (hn : 0 ≤ n) (hn2 : n ≤ 100000) :
  Calls Tryz.prog 113 #[v, .pointer (some ⟨b, 0, none⟩)] w fun e w' => e = .returned (.bool true) ∧ w' = w.setCell ⟨b, 0, none⟩ (.int .i64 (n + 1)) := by
 go_enter Tryz.func113, Tryz.ntmps113
 go_wp2_with fail
 go_ret
 exact ⟨rfl, rfl⟩
theorem NAt.opens2 {I : Nat → Prop} {w : World} {t : Tr} {p : Nat} (h : NAt I w t p) : ∃ u ps, w.heap[p]? = some (nodeObj t.kd t.tx t.n u) ∧ w.ownsRow 0 22 1 u ps.length (ps.map nPtr) ∧ (∀ g, u.ownBlock = some g → I g) ∧ NAts I w t.kids ps := by
 cases t with
 | mk kd tx n ks =>
  rw [NAt] at h; obtain ⟨_, u, ps, h1, h2, h3⟩ := h; exact ⟨u, ps, h1, h2.1, h2.2, h3⟩
structure Cnt (b : Nat) (n : Nat) (w : World) : Prop where
 blk : w.heap[b]? = some (.cells #[.int .i64 (n : Int)] 3 (0, 0))
theorem Cnt.set {b n : Nat} {w : World} (h : Cnt b n w) (m : Nat) {v : Int} (hv : v = (m : Int)) : Cnt b m (w.setCell ⟨b, 0, none⟩ (.int .i64 v)) := ⟨by rw [heap_set h.blk, hv]; rfl⟩
theorem en90 : ∀ args W, (callFunc 113 args).run Tryz.prog W = .ok (.enter 113 args) W := fun _ _ => by kernel_rfl
theorem walk_any (b : Nat) : ∀ (m : Nat) (t : Tr), t.count ≤ m → ∀ (p n : Nat) (w : World), NAt (fun x => x ≠ b) w t p → Cnt b n w → n + t.count ≤ 100000 →
  Calls Tryz.prog 20 #[nPtr p, cntV b] w fun e w' => e = .returned (.tuple #[]) ∧ Cnt b (n + t.count) w' ∧ Ap b w.heap.size w w' := by
 intro m
 induction m with
 | zero =>
  exact zbdt
 | succ m ih =>
  intro t ht p n w hnt hcn hbd; obtain ⟨u, ps, hblk, hrow, hri, hks⟩ := hnt.opens2; have hlen := NAts.length _ _ hks; have hpb : p ≠ b := by
   cases t with
   | mk kd tx nn ks => rw [NAt] at hnt; exact hnt.1
  have htc : t.count = 1 + Tr.counts t.kids := by cases t with | mk kd tx nn ks => exact count_mk _ _ _ _
  obtain ⟨_, _, _, f3, _⟩ := node_cells hblk; obtain ⟨ua, uc, hu⟩ := row_shut hrow; subst hu; have c0 : w.cell? ⟨b, 0, none⟩ = some (.int .i64 (n : Int)) := by rw [cell_of hcn.blk]; rfl
  have cf := frozen_of hcn.blk; have hen := en90; have hfn : ∀ W : World, (binOp .eql 35 (cntV b) .nilFunc).run Tryz.prog W = .ok (.bool false) W := fun W => by kernel_rfl
  have HC := hide (count1_any (nPtr p) b (n : Int) w c0 cf (by omega) (by omega)); have HCN := hide hcn; have HKS := hide hks; have HROW := hide hrow; have HRI := hide hri; have HIH := hide ih; have HTC := hide htc
  have HHT := hide ht; have HBD := hide hbd; have hpb2 : ¬ b = p := fun e => hpb e.symm; have g3 : (w.setCell ⟨b, 0, none⟩ (.int .i64 ((n : Int) + 1))).cell? ⟨p, 3, none⟩ = some (.slice ua ps.length uc) := by
   rw [World.cell?_of_block (w := w) (Below.heap_setCell w ⟨b, 0, none⟩ _ p hpb)]; exact f3
  rw [hlen] at g3; have HG3 := hide g3; clear c0 cf hcn hks hrow hri ih htc ht hbd hblk hnt f3 hpb hpb2 g3; have hg3 := unhide HG3; go_enter Tryz.func20, Tryz.ntmps20; go_wp2_with fail; refine cm HC.out ?_
  rintro e w1 ⟨rfl, rfl⟩; clear HC; go_wp2_with fail
  go_loopw [23] (fun i wr => ∃ k : Nat, k ≤ t.kids.length ∧ i = .int .i64 k ∧ Cnt b (n + 1 + Tr.counts (t.kids.take k)) wr ∧ Ap b w.heap.size w wr) (fun i _ => t.kids.length - (intOf i).toNat)
  case atStart => exact ⟨0, Nat.zero_le _, rfl, by simpa [counts_nil] using HCN.out.set (n + 1) (by omega), Ap.setCell (R := b) (Ap.refl _ _ _) (p := ⟨b, 0, none⟩) (Or.inr rfl) _⟩
  case round =>
   obtain ⟨k, hk, rfl, hcn, hap⟩ := hrel; have HCK := hide hcn; have HAK := hide hap; clear hcn hap
   by_cases hlt : k < t.kids.length
   ·
    obtain ⟨g, cap, hv, hcell⟩ := row_open HROW.out (by omega); simp only [Value.slice.injEq] at hv; obtain ⟨rfl, _, rfl⟩ := hv; obtain ⟨hkp, hnk⟩ := NAts.get _ _ HKS.out k hlt; have hgb : g ≠ b := unhide HRI g rfl
    have hgl : g < w.heap.size := (own_lt HROW.out g rfl).1; have hck : wr.cell? ⟨g, k, none⟩ = some (nPtr ps[k]) := by
     rw [HAK.out.cell (p := ⟨g, k, none⟩) hgl hgb]; exact hcell k hkp
    have hnk2 : NAt (fun x => x ≠ b) wr t.kids[k] ps[k] := NAt.later (fun x hx hl => HAK.out.block x hl hx) _ _ hnk; have hle := counts_le t.kids k hlt; have htk := counts_take t.kids k hlt; have h1 := unhide HTC
    have h2 := unhide HHT; have h3 := unhide HBD; have htot : Tr.counts (t.kids.take k) + (t.kids[k]).count ≤ Tr.counts t.kids := by
     exact zbdk
    have HC := hide (HIH.out t.kids[k] (by omega) ps[k] (n + 1 + Tr.counts (t.kids.take k)) wr hnk2 HCK.out (by omega)); have HTK := hide htk; obtain ⟨q, hq⟩ : ∃ q, q = ps[k] := ⟨_, rfl⟩; rw [← hq] at hck HC
    have hki : (k : Int) < (t.kids.length : Int) := by omega
    have hkb : t.kids.length ≤ 100000 := by have := counts_len t.kids; omega
    clear hcell hnk hnk2 hle htk h1 h2 h3 htot hq; go_wp2_with fail; refine cm HC.out ?_; rintro e w2 ⟨rfl, hc2, ha2⟩; have HC2 := hide hc2; have HA2 := hide (HAK.out.next ha2); clear hc2 ha2 HC hck; go_wp2_with fail
    go_roundw
    case rel => exact ⟨k + 1, by omega, by go_num, by rw [HTK.out]; have := unhide HC2; rw [Nat.add_assoc] at this; exact this, HA2.out⟩
    case measure => simp [intOf]; omega
   ·
    have hk2 : k = t.kids.length := by omega
    subst hk2; go_wp2_with fail
    go_end0
    refine ⟨rfl, ?_, HAK.out⟩; have := unhide HCK; rw [List.take_length] at this; rw [HTC.out, ← Nat.add_assoc]; exact this
theorem many_any (B : Nat) (t : Tr) (p : Nat) (w : World) (h : NAt (From B) w t p) (hc : t.count ≤ 90000) :
  Calls Tryz.prog 52 #[nPtr p] w fun e w' => e = .returned (.int .i64 (t.count : Int)) ∧ Below w.heap.size w w' := by
 have hmf := mf_run
 have hn : NAt (fun x => x ≠ w.heap.size) (w.alloc (.cells #[.int .i64 0] 3)) t p :=
  NAt.later (I := fun x => x ≠ w.heap.size) (fun b _ hl => Below.heap_alloc w _ b hl) _ _ (NAt.mono (fun b _ hl => by omega) _ _ h)
 have hcn : Cnt w.heap.size 0 (w.alloc (.cells #[.int .i64 0] 3)) := ⟨heap_new _ _⟩
 have HC := hide (walk_any w.heap.size t.count t (Nat.le_refl _) p 0 _ hn hcn (by omega))
 clear h hn hcn hc
 go_enter Tryz.func52, Tryz.ntmps52
 go_wp2_with fail
 refine cm HC.out ?_
 rintro e w1 ⟨rfl, hc1, ha1⟩
 have c0 : w1.cell? ⟨w.heap.size, 0, none⟩ = some (.int .i64 (((0 + t.count : Nat)) : Int)) := by rw [cell_of hc1.blk]; rfl
 rw [Nat.zero_add] at c0
 have HB : Hid (Below w.heap.size w w1) := ((Below.refl _ _).alloc (Nat.le_refl _) (.cells #[.int .i64 0] 3)).trans ((ha1.mono (by simp)).below (Nat.le_refl _))
 clear hc1 ha1 HC
 go_wp2_with fail
 go_ret
 exact ⟨rfl, HB.out⟩
inductive PaR where
 | ok (t : Tr)
 | at (er : Int) (p : Nat)
 | bare
abbrev KK : Nat := 24100
def parseS (ws gs : List ByteArray) (s : ByteArray) : PaR :=
 if 3000 < s.size then .bare
 else match toksR ws gs s (pastN gapB s 0) [] with
  | .bad er p => .at er p
  | .ok l => match progP l (fns l KK) with
   | .bad er p => .at er p
   | .ok t _ => if 1500 < t.count then .bare else .ok t
   | .out => .bare
def PaPost (r : PaR) (w : World) (e : Ending) (w' : World) : Prop :=
 match r with
 | .ok t => ∃ p, e = .returned (.tuple #[nPtr p, .nilIface]) ∧ NAt (From w.heap.size) w' t p ∧ Below w.heap.size w w'
 | .at er pl => ∃ b, e = .returned (.tuple #[.pointer none, .iface 129 (.pointer (some ⟨b, 0, none⟩))]) ∧ w'.heap[b]? = some (.cells #[.int .i64 er, .int .i64 (pl : Int)] 130 (0, 0)) ∧ w.heap.size ≤ b ∧ Below w.heap.size w w'
 | .bare => e = .returned (.tuple #[.pointer none, .iface 23 (.int .i64 4)]) ∧ Below w.heap.size w w'
theorem rdTok_kd {ws gs : List ByteArray} {s : ByteArray} {k : Nat} {kd n : Int} {tx : ByteArray} {e : Nat} (h : rdTok ws gs s k = .tok kd tx n e) : kd ≠ 6 := by
 unfold rdTok at h
 split at h
 ·
  unfold rdName at h
  split at h
  ·
   cases h; decide
  ·
   split at h
   ·
    cases h
   ·
    cases h; decide
 ·
  split at h
  ·
   unfold rdNum at h
   split at h
   ·
    cases h
   ·
    split at h
    ·
     cases h
    ·
     split at h
     ·
      cases h
     ·
      cases h; decide
  ·
   split at h
   ·
    unfold rdStr at h
    split at h
    ·
     split at h
     ·
      cases h
     ·
      cases h; decide
    ·
     cases h
   ·
    unfold rdSign at h
    split at h
    ·
     cases h; decide
    ·
     cases h
theorem toks_form (ws gs : List ByteArray) (s : ByteArray) (hgs : ∀ g ∈ gs, 1 ≤ g.size) : ∀ m i acc l, s.size - i = m → i ≤ s.size → toksR ws gs s i acc = .ok l →
  ∃ l', l = acc ++ l' ++ [⟨6, ⟨#[]⟩, 0, s.size⟩] ∧ (∀ t ∈ l', t.kd ≠ 6) ∧ l'.length ≤ s.size - i := by
 intro m
 induction m using Nat.strongRecOn with
 | ind m ih =>
  intro i acc l hm hi h
  by_cases hlt : i < s.size
  ·
   cases hr : rdTok ws gs s i with
   | bad er p => rw [toksR_bad ws gs s i acc er p hlt hr] at h; cases h
   | tok kd tx n e =>
    have hb := rdTok_bounds ws gs s i kd n tx e hlt hgs hr; rw [toksR_go ws gs s i acc kd n tx e hlt hr hb.1] at h; have hge := pastN_ge gapB s e; have hle := pastN_le gapB s e hb.2
    obtain ⟨l', h1, h2, h3⟩ := ih (s.size - pastN gapB s e) (by omega) (pastN gapB s e) _ l rfl hle h; refine ⟨⟨kd, tx, n, i⟩ :: l', by rw [h1]; simp, fun t ht => ?_, by simp; omega⟩
    rcases List.mem_cons.1 ht with rfl | ht
    ·
     exact rdTok_kd hr
    ·
     exact h2 t ht
  ·
   rw [toksR_end ws gs s i acc hlt] at h; exact ⟨[], by cases h; simp, fun t ht => absurd ht (by simp), by simp⟩
theorem toks_ends {ws gs : List ByteArray} {s : ByteArray} (hgs : ∀ g ∈ gs, 1 ≤ g.size) {l : List Tk} (h : toksR ws gs s (pastN gapB s 0) [] = .ok l) : Ends l ∧ 0 < l.length ∧ l.length ≤ s.size + 1 := by
 obtain ⟨l', h1, h2, h3⟩ := toks_form ws gs s hgs _ (pastN gapB s 0) [] l rfl (pastN_le gapB s 0 (Nat.zero_le _)) h
 rw [List.nil_append] at h1
 subst h1
 refine ⟨fun i hi => ?_, by simp, by simp; omega⟩
 rw [List.length_append, List.length_singleton] at hi
 unfold tkA
 rw [List.getD_eq_getElem?_getD, List.length_append, List.length_singleton]
 by_cases hil : i < l'.length
 ·
  rw [List.getElem?_append_left hil, List.getElem?_eq_getElem hil]; constructor
  ·
   intro h6; exact absurd h6 (h2 _ (List.getElem_mem hil))
  ·
   intro h6; omega
 ·
  have hi2 : i = l'.length := by omega
  subst hi2; rw [List.getElem?_append_right (Nat.le_refl _), Nat.sub_self]; simp
section
variable {l : List Tk} {k : Nat} {F : Fns} (hF : FNx l k F)
include l k F hF
theorem progLoop_nx (hk : 8 * l.length + 3 < k) : ∀ n acc i, i < l.length → l.length - i < n → progLoop l F n acc i ≠ .out := by
 intro n
 induction n with
 | zero => intro acc i hi hn; omega
 | succ n ih =>
  intro acc i hi hn; unfold progLoop
  split
  ·
   nofun
  ·
   have hd := deepP_nx (l := l) (d := 0) ((hF.st (0 + 1) i hi).imp (q' := True) (fun _ => by omega))
   cases hr : deepP l F.st 0 i with
   | out => exact absurd hr (hd.1 trivial)
   | bad er p => rw [PR.bind]; nofun
   | ok t j =>
    have := hd.2 t j hr; exact ih _ j this.2 (by omega)
theorem progLoop_lt : ∀ n acc i ts j, i < l.length → progLoop l F n acc i = .ok ts j → j < l.length := by
 intro n
 induction n with
 | zero => intro acc i ts j _ h; cases h
 | succ n ih =>
  intro acc i ts j hi h; unfold progLoop at h
  split at h
  ·
   cases h; exact hi
  ·
   obtain ⟨t, j1, h1, h⟩ := bind_inv h; exact ih _ j1 _ _ ((deepP_nx (l := l) (d := 0) (hF.st (0 + 1) i hi)).2 t j1 h1).2 h
end
theorem prog_total {l : List Tk} (hE : Ends l) (h0 : 0 < l.length) (hl : l.length ≤ 3001) : progP l (fns l KK) ≠ .out ∧ ∀ t j, progP l (fns l KK) = .ok t j → j < l.length := by
 have hF := fns_nx hE KK
 have h1 := progLoop_nx hF (by unfold KK; omega) (fns l KK).fuel [] 0 h0 (by rw [hF.fuel]; unfold KK; omega)
 unfold progP
 constructor
 ·
  cases hr : progLoop l (fns l KK) (fns l KK).fuel [] 0 with
  | out => exact absurd hr h1
  | bad er p => nofun
  | ok ts j => nofun
 ·
  intro t j h; obtain ⟨ts, j1, h2, h⟩ := bind_inv h; cases h; exact progLoop_lt hF _ _ _ _ _ h0 h2
end Go.Proofs.YtodmgaikhbmlnaaGreatDoor
