/-
  Statements that declare a name.
-/
import Derived.Test.YtoimgcjbcbhclaaGreatDoorAo0
import Derived.Test.YtoimgcjbcbhclaaGreatDoorAo1
import Derived.Test.YtoimgcjbcbhclaaGreatDoorAo7
import Derived.Test.YtoimgcjbcbhclaaGreatDoorAo11
import Derived.Test.YtoimgcjbcbhclaaGreatDoorAo6
import Derived.Test.YtoimgcjbcbhclaaGreatDoorAo10
import Derived.Deep.MidRow
import Derived.Laws.AppendOwnNone
set_option maxRecDepth 100000
set_option maxHeartbeats 16000000
namespace Go.Proofs.YtoimgcjbcbhclaaGreatDoor
open Go.RowKit
theorem decl_any {c : Ctx} {F : Fns} (hF : FC c F) (w : World) (d i : Nat) (r : PR Tr) (hk : (tkA c.l i).kd ≠ 6) (hs : declP c.l F d i = r) (ho : r ≠ .out) (h : Rdr c w i d) : Calls Tryz.prog 163 #[rPtr c] w (PPost c w d (NV w.heap.size) r) := by
 have hmf := mf_bound c.R 243
 have HKD := hide hk
 have HLO := hide h.base.size
 obtain ⟨i0, hi0, hz0, hz1, hz2⟩ := info_parts info22
 clear hk
 have HR0 := hide h
 have HA0 := hide (Ap.refl c.R w.heap.size w)
 have HLT := hide h.rlt
 unfold declP at hs
 have HS := hide hs
 have HO := hide ho
 clear h hs ho
 go_enter Tryz.func163, Tryz.ntmps163
 obtain ⟨hd, hhd⟩ : ∃ hd, hd = hdKind (tkA c.l i).tx := ⟨_, rfl⟩
 rw [← hhd] at HS
 have HC := hide (kind_any c w i d HR0.out HKD.out)
 rw [← hhd] at HC
 clear hhd
 go_wp2_with fail
 refine cm HC.out ?_
 rintro e wk ⟨rfl, hrk, hak⟩
 clear HC
 have HRk := hide hrk
 have HAk := hide (HA0.out.next hak)
 clear hrk hak HR0 HA0
 cases hr : nameP c.l (i + 1) with
 | out =>
  exact zbak
 | bad er p =>
  have HC := hide (name_any c wk (i + 1) d HRk.out); exact zber
 | ok x1 j1 =>
  have HC := hide (name_any c wk (i + 1) d HRk.out); rw [hr] at HC HS; simp only [bind_ok] at HS; clear hr; go_wp2_with fail; refine cm HC.out ?_; intro e w1 hp; obtain ⟨⟨v1, rfl, rfl⟩, hrd, ha⟩ := hp; clear HC
  have HA1 := hide (HAk.out.next ha); have HR1 := hide hrd; clear hrd ha HAk HRk; have HC := hide (node_any hd x1 (.slice none 0 0) w1 ⟨_, _, _, rfl⟩); go_wp2_with fail; refine cm HC.out ?_; rintro e wn0 ⟨rfl, rfl⟩
  clear HC; obtain ⟨m1, m2, m3⟩ := made0 HR1.out HA1.out (KV.nil _ _) hd x1 _ rfl; obtain ⟨t0, ht0⟩ : ∃ t0 : Tr, t0 = .mk hd x1 0 [] := ⟨_, rfl⟩; rw [← ht0] at m1; have HKL : Hid (t0.kids.length = 0) := by
   show _ = _
   rw [ht0]; rfl
  have HTK : Hid (t0.kd = hd) := by
   show _ = _
   rw [ht0]; rfl
  have HT0 := hide ht0; obtain ⟨p0, u0, ps0, hpe, hop⟩ := m1.opens; have hpe2 : p0 = w1.heap.size := by simpa [nPtr] using hpe.symm
  obtain ⟨hk0, _, _, _, _⟩ := node_cells hop.blk; rw [HTK.out] at hk0; have hkl0 := lt_of_heap hop.blk; rw [hpe2] at hop hk0 hkl0; have HOP0 := hide hop; have HRn := hide m2; have HAn := hide m3; clear m1 m2 m3 hop hpe ht0
  obtain ⟨wn, hwn⟩ : ∃ wn, wn = w1.alloc (nodeObj hd x1 0 (.slice none 0 0)) := ⟨_, rfl⟩; rw [← hwn] at HOP0 HRn HAn hk0 hkl0; rw [← hpe2] at HOP0 hk0 hkl0; rw [← hwn, ← hpe2]; clear hwn hpe2
  by_cases h4 : hd = 4
  ·
   have b4 : (hd == 4) = true := beq_iff_eq.2 h4; have HC := hide (fixed_any c wn j1 d HRn.out)
   by_cases hx : fx c.l j1 = tEq
   ·
    rw [if_neg (fun hh => hh.2 hx)] at HS; have bx : ((fx c.l j1).toList == [61]) = true := tl_eqL (b := tEq) rfl hx; clear h4; go_wp2_with fail; refine cm HC.out ?_; rintro e wf ⟨rfl, hbf⟩; clear HC
    have HRf := hide (HRn.out.later hbf); have HAf := hide (HAn.out.next (Ap.of hbf)); have HOP := hide (Open.later HOP0.out (Ap.of hbf) HLT.out); clear hbf hk0 hkl0; clear hx
    by_cases hy : fx c.l j1 = tEq
    ·
     rw [if_pos hy] at HS; have HC := hide (take_yes c tEq wf j1 d HRf.out hy (by decide)); clear hy; go_wp2_with fail; refine cm HC.out ?_; rintro e wy ⟨rfl, hry, hay⟩; clear HC; have HRy := hide hry
     have HAy := hide (HAf.out.next hay); replace HOP := hide (Open.later HOP.out hay HLT.out); clear hry hay; obtain ⟨hc3, hcf, hcl⟩ := HOP.out.cell; obtain ⟨ua, uc, hue⟩ := HOP.out.shape; subst hue
     cases hr : deepP c.l F.vl d (j1 + 1) with
     | out =>
      exact zbak
     | bad er p =>
      exact zbbt
     | ok tx1 jx =>
      have HC := hide (deepV hF wy.drew d (j1 + 1) HRy.out.drew (by rw [hr]; nofun))
      rw [hr] at HC HS; simp only [bind_ok] at HS; clear hr; go_wp2_with fail; refine via2 (H := fun wc pc => Ap c.R wy.heap.size wy wc ∧ Rdr c wc jx d ∧ NAt (From wy.heap.size) wc tx1 pc) (G := ?G1) (fun CONT => ?_) ?_
      rotate_left
      ·
       exact zcae
      intro wc pc hY; obtain ⟨ha0, hrd, hnc⟩ := hY; have HAc := hide (HAy.out.next ha0); have HRc := hide hrd; have HOc := hide (Open.later HOP.out ha0 HLT.out)
      have HNc := hide (Open.apart HOP.out HAy.out.size ha0 HLT.out (NAts.cons hnc NAts.nil)); obtain ⟨gc3, gcf, gcl⟩ := HOc.out.cell; clear hrd ha0 hnc; have hlen := NAts.length _ _ HOc.out.kids; have hown := HOc.out.row
      rw [hlen] at hown; have HOWN := hide hown; have hsz := HAc.out.size; have hkl : t0.kids.length ≤ 3 := by rw [HKL.out]; decide
      clear hown hlen; refine wr1 10 fun K hK => ?_
      refine step_append_lies _ rfl _ _ 46 rfl w.heap.size 22 i0 (.pointer none) 1 8 Tryz.underlying46 hi0 hz0 hz1 hz2 rfl (by decide) _ _ _ rfl (HOWN.out.alloc _) ⟨wc.heap.size, 0, none⟩ 1 1 [nPtr pc] rfl rfl (one_cells wc pc _ rfl) (one_one pc) (by decide) (by unfold maxLen; omega) (by omega) (by simp; omega) (wc.heap.size + 1) (by simp) ?_
      intro g cap w3 hown3 hgr3 hg3 _; refine hK _ _ ?_; clear hK K; have HP1 := hide (push1 HOc.out HNc.out HRc.out HAc.out HLO.out hown3 hgr3 hg3)
      have hp3 : w3.cell? ⟨p0, 3, none⟩ = wc.cell? ⟨p0, 3, none⟩ ∧ w3.frozen? ⟨p0, 3, none⟩ = wc.frozen? ⟨p0, 3, none⟩ := by
       exact zcal
      obtain ⟨hp3c, hp3f⟩ := hp3; rw [gc3] at hp3c; rw [gcf 3] at hp3f; clear hown3 hgr3 hg3; refine wt 11 (nPtr p0) ?_; refine wt 12 (.pointer (some ⟨p0, 3, none⟩)) ?_; refine wr1 13 fun K hK => ?_; go_simp
      refine hK _ _ ?_; clear hK K hp3c hp3f gc3 gcf gcl HOWN; refine wpAny_done (by kernel_rfl) ?_ _; go_simp; obtain ⟨m1, m2, m3⟩ := unhide HP1; have HM1 := hide m1; have HM2 := hide m2; have HM3 := hide m3
      clear m1 m2 m3
      cases hr : mustP c.l tSemi jx with
      | out =>
       exact zbak
      | bad er p =>
       exact zbbj
      | ok x2 j2 =>
       exact zbci
    ·
     rw [if_neg hy] at HS; have HC := hide (take_not c tEq wf j1 d HRf.out hy); clear hy; go_wp2_with fail; refine cm HC.out ?_; rintro e wy ⟨rfl, hby⟩; clear HC; have HRy := hide (HRf.out.later hby)
     have HAy := hide (HAf.out.next (Ap.of hby)); exact zcbs
   ·
    rw [if_pos ⟨h4, hx⟩] at HS; have bx : ((fx c.l j1).toList == [61]) = false := tl_neL (b := tEq) rfl hx; clear h4 hx; go_wp2_with fail; refine cm HC.out ?_; rintro e wf ⟨rfl, hbf⟩; clear HC
    have HRf := hide (HRn.out.later hbf); have HAf := hide (HAn.out.next (Ap.of hbf)); have HOP := hide (Open.later HOP0.out (Ap.of hbf) HLT.out); clear hbf hk0 hkl0; have HC := hide (fault_any c 3 wf j1 d HRf.out)
    go_wp2_with fail; refine cm HC.out ?_; rintro e w9 ⟨rfl, hb9⟩; exact ⟨rfl, ppBad HS.out.symm (HAf.out.next (Ap.of hb9))⟩
  ·
   have b4 : (hd == 4) = false := beq_eq_false_iff_ne.2 h4; rw [if_neg (fun hh => h4 hh.1)] at HS; clear h4; have HOP := hide HOP0.out
   by_cases hy : fx c.l j1 = tEq
   ·
    rw [if_pos hy] at HS; have HC := hide (take_yes c tEq wn j1 d HRn.out hy (by decide)); clear hy; go_wp2_with fail; refine cm HC.out ?_; rintro e wy ⟨rfl, hry, hay⟩; clear HC; have HRy := hide hry
    have HAy := hide (HAn.out.next hay); replace HOP := hide (Open.later HOP.out hay HLT.out); clear hry hay; obtain ⟨hc3, hcf, hcl⟩ := HOP.out.cell; obtain ⟨ua, uc, hue⟩ := HOP.out.shape; subst hue
    cases hr : deepP c.l F.vl d (j1 + 1) with
    | out =>
     exact zbak
    | bad er p =>
     exact zbbt
    | ok tx1 jx =>
     have HC := hide (deepV hF wy.drew d (j1 + 1) HRy.out.drew (by rw [hr]; nofun))
     rw [hr] at HC HS; simp only [bind_ok] at HS; clear hr; go_wp2_with fail; refine via2 (H := fun wc pc => Ap c.R wy.heap.size wy wc ∧ Rdr c wc jx d ∧ NAt (From wy.heap.size) wc tx1 pc) (G := ?G2) (fun CONT => ?_) ?_
     rotate_left
     ·
      exact zcae
     intro wc pc hY; obtain ⟨ha0, hrd, hnc⟩ := hY; have HAc := hide (HAy.out.next ha0); have HRc := hide hrd; have HOc := hide (Open.later HOP.out ha0 HLT.out)
     have HNc := hide (Open.apart HOP.out HAy.out.size ha0 HLT.out (NAts.cons hnc NAts.nil)); obtain ⟨gc3, gcf, gcl⟩ := HOc.out.cell; clear hrd ha0 hnc; have hlen := NAts.length _ _ HOc.out.kids; have hown := HOc.out.row
     rw [hlen] at hown; have HOWN := hide hown; have hsz := HAc.out.size; have hkl : t0.kids.length ≤ 3 := by rw [HKL.out]; decide
     clear hown hlen; refine wr1 10 fun K hK => ?_
     refine step_append_lies _ rfl _ _ 46 rfl w.heap.size 22 i0 (.pointer none) 1 8 Tryz.underlying46 hi0 hz0 hz1 hz2 rfl (by decide) _ _ _ rfl (HOWN.out.alloc _) ⟨wc.heap.size, 0, none⟩ 1 1 [nPtr pc] rfl rfl (one_cells wc pc _ rfl) (one_one pc) (by decide) (by unfold maxLen; omega) (by omega) (by simp; omega) (wc.heap.size + 1) (by simp) ?_
     intro g cap w3 hown3 hgr3 hg3 _; refine hK _ _ ?_; clear hK K; have HP1 := hide (push1 HOc.out HNc.out HRc.out HAc.out HLO.out hown3 hgr3 hg3)
     have hp3 : w3.cell? ⟨p0, 3, none⟩ = wc.cell? ⟨p0, 3, none⟩ ∧ w3.frozen? ⟨p0, 3, none⟩ = wc.frozen? ⟨p0, 3, none⟩ := by
      exact zcal
     obtain ⟨hp3c, hp3f⟩ := hp3; rw [gc3] at hp3c; rw [gcf 3] at hp3f; clear hown3 hgr3 hg3; refine wt 11 (nPtr p0) ?_; refine wt 12 (.pointer (some ⟨p0, 3, none⟩)) ?_; refine wr1 13 fun K hK => ?_; go_simp
     refine hK _ _ ?_; clear hK K hp3c hp3f gc3 gcf gcl HOWN; refine wpAny_done (by kernel_rfl) ?_ _; go_simp; obtain ⟨m1, m2, m3⟩ := unhide HP1; have HM1 := hide m1; have HM2 := hide m2; have HM3 := hide m3
     clear m1 m2 m3
     cases hr : mustP c.l tSemi jx with
     | out =>
      exact zbak
     | bad er p =>
      exact zbbj
     | ok x2 j2 =>
      exact zbci
   ·
    rw [if_neg hy] at HS; have HC := hide (take_not c tEq wn j1 d HRn.out hy); clear hy; go_wp2_with fail; refine cm HC.out ?_; rintro e wy ⟨rfl, hby⟩; clear HC; have HRy := hide (HRn.out.later hby)
    have HAy := hide (HAn.out.next (Ap.of hby)); exact zcbs
theorem w3_any {c : Ctx} {b : Nat} {w1 W2 : World} {i d : Nat} {v0 v1 v2 v3 : Value} (h : Rdr c w1 i d) (hlo : c.lo ≤ b) (p1 : w1.heap[b]? = some O160)
  (hW : W2 = (((w1.setCell ⟨b, 0, none⟩ v0).setCell ⟨b, 1, none⟩ v1).setCell ⟨b, 2, none⟩ v2).setCell ⟨b, 3, none⟩ v3) :
  Rdr c W2 i d ∧ Below b w1 W2 ∧ C160 b W2 v0 v1 v2 v3 := by
 have hB : Below b w1 W2 := by
  rw [hW]
  exact ((((Below.refl _ w1).setCell (p := ⟨b, 0, none⟩) (Nat.le_refl _) v0).setCell (p := ⟨b, 1, none⟩) (Nat.le_refl _) v1).setCell (p := ⟨b, 2, none⟩) (Nat.le_refl _) v2).setCell (p := ⟨b, 3, none⟩) (Nat.le_refl _) v3
 refine ⟨h.ap hB hlo, hB, c160 ?_⟩
 rw [hW]
 exact set4 p1 v0 v1 v2 v3
section
variable {c : Ctx} (w : World) (d i : Nat)
include c w d i
theorem av_name (hk : (tkA c.l i).kd = 1) (h : Rdr c w i d) : Calls Tryz.prog 312 #[rPtr c] w fun e w' => e = .returned (.bool true) ∧ Below w.heap.size w w' := by
 have HR0 := hide h
 have HB0 := hide (Below.refl w.heap.size w)
 have b1 : ((tkA c.l i).kd == 1) = true := by rw [hk]; decide
 have b3 : ((tkA c.l i).kd == 3) = false := by rw [hk]; decide
 have b4 : ((tkA c.l i).kd == 4) = false := by rw [hk]; decide
 exact zbcc
theorem av_num (hk : (tkA c.l i).kd = 3) (h : Rdr c w i d) : Calls Tryz.prog 312 #[rPtr c] w fun e w' => e = .returned (.bool true) ∧ Below w.heap.size w w' := by
 have HR0 := hide h
 have HB0 := hide (Below.refl w.heap.size w)
 have b1 : ((tkA c.l i).kd == 1) = false := by rw [hk]; decide
 have b3 : ((tkA c.l i).kd == 3) = true := by rw [hk]; decide
 have b4 : ((tkA c.l i).kd == 4) = false := by rw [hk]; decide
 exact zbcc
theorem av_str (hk : (tkA c.l i).kd = 4) (h : Rdr c w i d) : Calls Tryz.prog 312 #[rPtr c] w fun e w' => e = .returned (.bool true) ∧ Below w.heap.size w w' := by
 have HR0 := hide h
 have HB0 := hide (Below.refl w.heap.size w)
 have b1 : ((tkA c.l i).kd == 1) = false := by rw [hk]; decide
 have b3 : ((tkA c.l i).kd == 3) = false := by rw [hk]; decide
 have b4 : ((tkA c.l i).kd == 4) = true := by rw [hk]; decide
 exact zbcc
end
section
variable {c : Ctx} (w : World) (d i : Nat) (h1 : (tkA c.l i).kd ≠ 1) (h3 : (tkA c.l i).kd ≠ 3) (h4 : (tkA c.l i).kd ≠ 4)
include c w d i h1 h3 h4
theorem av_map (q : Nat) (hq : look2 vlKeys (fx c.l i) = some q) (h : Rdr c w i d) : Calls Tryz.prog 312 #[rPtr c] w fun e w' => e = .returned (.bool true) ∧ Below w.heap.size w w' := by
 have HR0 := hide h
 have HB0 := hide (Below.refl w.heap.size w)
 have b1 : ((tkA c.l i).kd == 1) = false := beq_eq_false_iff_ne.2 h1
 have b3 : ((tkA c.l i).kd == 3) = false := beq_eq_false_iff_ne.2 h3
 have b4 : ((tkA c.l i).kd == 4) = false := beq_eq_false_iff_ne.2 h4
 have HL : Hid (∀ W : World, Rdr c W i d → (Instr.lookup 201 (.map (some c.mV)) (.string (fx c.l i)) true).run Tryz.prog W = .ok (.tuple #[.func (.func (vlFn q)) #[.pointer (some ⟨c.R, 0, none⟩)] #[], .bool true]) W) := fun W hW => by
  exact zbcq
 clear h h1 h3 h4 hq
 go_enter Tryz.func312, Tryz.ntmps312
 have HC := hide (token_any c w i d HR0.out)
 unfold tkV at HC
 have hfl := fldKind (tkA c.l i)
 go_wp2_with fail
 refine cm HC.out ?_
 rintro e wt ⟨rfl, hbt⟩
 clear HC
 have HRt := hide (HR0.out.later hbt)
 have HBt := hide hbt
 clear hbt
 go_wp2_with fail
 refine wp_region_held (S := fun W => Rdr c W i d) (by kernel_rfl) ?_
 change wpAnyH _ _ _ _ _ _ _ _ (World.drew _)
 refine wh 0 (rPtr c) HRt.out.drew ?_
 refine wh 1 (rPtr c) HRt.out.drew ?_
 refine wh 2 (.pointer (some ⟨c.R, 5, none⟩)) HRt.out.drew ?_
 refine wg 3 (.map (some c.mV)) rfl (Or.inl ⟨by kernel_rfl, fun W hW => by have hh := Rdr.c5 hW; go_simp⟩) HRt.out.drew ?_
 refine wh 4 (rPtr c) HRt.out.drew ?_
 refine wq1 5 fun K hK => ?_
 go_simp
 refine cm (fixed_any c _ i d HRt.out.drew) ?_
 rintro e wq ⟨rfl, hbq⟩
 have HRq := hide (HRt.out.drew.later hbq)
 have HBq := hide (HBt.out.trans (((Below.refl _ _).drew.trans hbq).mono HBt.out.size))
 clear hbq
 refine hK.out _ _ HRq.out (fun _ => ?_)
 clear hK K
 refine wg 6 (.tuple #[.func (.func (vlFn q)) #[.pointer (some ⟨c.R, 0, none⟩)] #[], .bool true]) rfl (Or.inl ⟨by kernel_rfl, fun W hW => by have hh := HL.out W hW; go_simp⟩) HRq.out ?_
 refine wh 7 (.tuple #[.func (.func (vlFn q)) #[.pointer (some ⟨c.R, 0, none⟩)] #[], .bool true]) HRq.out ?_
 refine wh 8 (.func (.func (vlFn q)) #[.pointer (some ⟨c.R, 0, none⟩)] #[]) HRq.out ?_
 refine wh 9 (.bool true) HRq.out ?_
 refine wh 10 (.func (.func (vlFn q)) #[.pointer (some ⟨c.R, 0, none⟩)] #[]) HRq.out ?_
 refine wh 11 (.bool true) HRq.out ?_
 refine wpAnyH_done (by kernel_rfl) ?_ _
 go_simp
 go_wp2_with fail
 go_ret
 exact ⟨rfl, HBq.out⟩
theorem av_none (hq : look2 vlKeys (fx c.l i) = none) (hsg : sgOf (fx c.l i) = none) (h : Rdr c w i d) : Calls Tryz.prog 312 #[rPtr c] w fun e w' => e = .returned (.bool false) ∧ Below w.heap.size w w' := by
 have HR0 := hide h
 have HB0 := hide (Below.refl w.heap.size w)
 have b1 : ((tkA c.l i).kd == 1) = false := beq_eq_false_iff_ne.2 h1
 have b3 : ((tkA c.l i).kd == 3) = false := beq_eq_false_iff_ne.2 h3
 have b4 : ((tkA c.l i).kd == 4) = false := beq_eq_false_iff_ne.2 h4
 have HL : Hid (∀ W : World, Rdr c W i d → (Instr.lookup 201 (.map (some c.mV)) (.string (fx c.l i)) true).run Tryz.prog W = .ok (.tuple #[.nilFunc, .bool false]) W) := fun W hW => by
  exact zbcq
 have HL2 : Hid (∀ W : World, Rdr c W i d → (Instr.lookup 199 (.map (some c.mS)) (.string (fx c.l i)) true).run Tryz.prog W = .ok (.tuple #[.agg #[.string ⟨#[]⟩, .int .i64 0, .int .i64 0, .int .i64 0], .bool false]) W) := fun W hW => by
  have := look_signs c (fx c.l i) W hW.base.signs; rw [hsg] at this; exact this
 clear h h1 h3 h4 hq hsg
 go_enter Tryz.func312, Tryz.ntmps312
 have HC := hide (token_any c w i d HR0.out)
 unfold tkV at HC
 have hfl := fldKind (tkA c.l i)
 go_wp2_with fail
 refine cm HC.out ?_
 rintro e wt ⟨rfl, hbt⟩
 clear HC
 have HRt := hide (HR0.out.later hbt)
 have HBt := hide hbt
 clear hbt
 go_wp2_with fail
 refine wp_region_held (S := fun W => Rdr c W i d) (by kernel_rfl) ?_
 change wpAnyH _ _ _ _ _ _ _ _ (World.drew _)
 refine wh 0 (rPtr c) HRt.out.drew ?_
 refine wh 1 (rPtr c) HRt.out.drew ?_
 refine wh 2 (.pointer (some ⟨c.R, 5, none⟩)) HRt.out.drew ?_
 refine wg 3 (.map (some c.mV)) rfl (Or.inl ⟨by kernel_rfl, fun W hW => by have hh := Rdr.c5 hW; go_simp⟩) HRt.out.drew ?_
 refine wh 4 (rPtr c) HRt.out.drew ?_
 refine wq1 5 fun K hK => ?_
 go_simp
 refine cm (fixed_any c _ i d HRt.out.drew) ?_
 rintro e wq ⟨rfl, hbq⟩
 have HRq := hide (HRt.out.drew.later hbq)
 have HBq := hide (HBt.out.trans (((Below.refl _ _).drew.trans hbq).mono HBt.out.size))
 clear hbq
 refine hK.out _ _ HRq.out (fun _ => ?_)
 clear hK K
 refine wg 6 (.tuple #[.nilFunc, .bool false]) rfl (Or.inl ⟨by kernel_rfl, fun W hW => by have hh := HL.out W hW; go_simp⟩) HRq.out ?_
 refine wh 7 (.tuple #[.nilFunc, .bool false]) HRq.out ?_
 refine wh 8 .nilFunc HRq.out ?_
 refine wh 9 (.bool false) HRq.out ?_
 refine wh 10 .nilFunc HRq.out ?_
 refine wh 11 (.bool false) HRq.out ?_
 refine wpAnyH_done (by kernel_rfl) ?_ _
 go_simp
 have HLO := hide HRq.out.base.size
 go_wp2_with fail
 refine wp_region_held (S := fun W => Rdr c W i d) (by kernel_rfl) ?_
 change wpAnyH _ _ _ _ _ _ _ _ (World.drew _)
 refine wh 0 (rPtr c) HRq.out.drew ?_
 refine wh 1 (rPtr c) HRq.out.drew ?_
 refine wh 2 (.pointer (some ⟨c.R, 3, none⟩)) HRq.out.drew ?_
 refine wg 3 (.map (some c.mS)) rfl (Or.inl ⟨by kernel_rfl, fun W hW => by have hh := Rdr.c3 hW; go_simp⟩) HRq.out.drew ?_
 refine wh 4 (rPtr c) HRq.out.drew ?_
 refine wpAnyH_ready (rs := [5, 10]) (by kernel_rfl) (by simp) (AllReadyH.cons rfl (fun K hK => ?_) (AllReadyH.cons rfl (fun K hK => ?_) AllReadyH.nil))
 ·
  go_simp; refine cm (fixed_any c _ i d HRq.out.drew) ?_; rintro e w1 ⟨rfl, hb⟩; have HR1 := hide (HRq.out.drew.later hb); have HB1 := hide (HBq.out.trans (((Below.refl _ _).drew.trans hb).mono HBq.out.size)); clear hb
  refine hK.out _ _ HR1.out (fun _ => ?_); clear hK K
  refine wg 6 (.tuple #[.agg #[.string ⟨#[]⟩, .int .i64 0, .int .i64 0, .int .i64 0], .bool false]) rfl (Or.inl ⟨by kernel_rfl, fun W hW => by have hh := HL2.out W hW; go_simp⟩) HR1.out ?_
  refine wh 7 (.tuple #[.agg #[.string ⟨#[]⟩, .int .i64 0, .int .i64 0, .int .i64 0], .bool false]) HR1.out ?_; refine wh 8 (.agg #[.string ⟨#[]⟩, .int .i64 0, .int .i64 0, .int .i64 0]) HR1.out ?_
  refine wh 9 (.bool false) HR1.out ?_; refine wq1 10 fun K hK => ?_; go_simp; refine hK.out _ _ (HR1.out.alloc O160) (fun _ => ?_); clear hK K; refine wq1 11 fun K hK => ?_; go_simp
  have HR2 := hide (HR1.out.alloc (.cells #[.string ⟨#[]⟩, .int .i64 0, .int .i64 0, .int .i64 0] 189)); have HW2 := hide (HB1.out.alloc HB1.out.size (.cells #[.string ⟨#[]⟩, .int .i64 0, .int .i64 0, .int .i64 0] 189))
  exact zbev
 ·
  go_simp; have HR' := hide ((HRq.out.alloc O160).drew); refine hK.out _ _ (unhide HR') (fun _ => ?_); clear hK K; refine wq1 5 fun K hK => ?_; go_simp; refine cm (fixed_any c _ i d (unhide HR')) ?_; rintro e w1 ⟨rfl, hb⟩
  have HR1 := hide ((unhide HR').later hb); have HB1 := hide (HBq.out.trans ((((Below.refl wq.heap.size wq).alloc (Nat.le_refl _) O160).drew.trans (hb.mono (by simp))).mono HBq.out.size))
  have p1 : w1.heap[wq.heap.size]? = some O160 := (hb.block _ (by simp)).trans (heap_new wq O160); obtain ⟨r0, r1, r2, r3, rf, rlt⟩ := c160 p1; have P1 := hide p1; clear hb p1; refine hK.out _ _ HR1.out (fun _ => ?_)
  clear hK K; refine wg 6 (.tuple #[.agg #[.string ⟨#[]⟩, .int .i64 0, .int .i64 0, .int .i64 0], .bool false]) rfl (Or.inl ⟨by kernel_rfl, fun W hW => by have hh := HL2.out W hW; go_simp⟩) HR1.out ?_
  refine wh 7 (.tuple #[.agg #[.string ⟨#[]⟩, .int .i64 0, .int .i64 0, .int .i64 0], .bool false]) HR1.out ?_; refine wh 8 (.agg #[.string ⟨#[]⟩, .int .i64 0, .int .i64 0, .int .i64 0]) HR1.out ?_
  refine wh 9 (.bool false) HR1.out ?_; refine wq1 11 fun K hK => ?_; go_simp; clear r0 r1 r2 r3 rf rlt
  obtain ⟨W2, hW2⟩ : ∃ W2, W2 = (((w1.setCell ⟨wq.heap.size, 0, none⟩ (.string ⟨#[]⟩)).setCell ⟨wq.heap.size, 1, none⟩ (.int .i64 0)).setCell ⟨wq.heap.size, 2, none⟩ (.int .i64 0)).setCell ⟨wq.heap.size, 3, none⟩ (.int .i64 0) := ⟨_, rfl⟩
  obtain ⟨hr2, hb2, ⟨s0, s1, s2, s3, sf, slt⟩⟩ := w3_any (v0 := .string ⟨#[]⟩) (v1 := .int .i64 0) (v2 := .int .i64 0) (v3 := .int .i64 0) HR1.out HLO.out P1.out hW2; have HR2 := hide hr2
  have HW2 := hide (HB1.out.trans (hb2.mono HBq.out.size)); rw [← hW2]; clear hW2 hr2 hb2; exact zbev
theorem av_some (x : Sg) (hq : look2 vlKeys (fx c.l i) = none) (hsg : sgOf (fx c.l i) = some x) (h : Rdr c w i d) : Calls Tryz.prog 312 #[rPtr c] w fun e w' => e = .returned (.bool (decide (x.parts < 2))) ∧ Below w.heap.size w w' := by
 have HR0 := hide h
 have HB0 := hide (Below.refl w.heap.size w)
 have b1 : ((tkA c.l i).kd == 1) = false := beq_eq_false_iff_ne.2 h1
 have b3 : ((tkA c.l i).kd == 3) = false := beq_eq_false_iff_ne.2 h3
 have b4 : ((tkA c.l i).kd == 4) = false := beq_eq_false_iff_ne.2 h4
 have HL : Hid (∀ W : World, Rdr c W i d → (Instr.lookup 201 (.map (some c.mV)) (.string (fx c.l i)) true).run Tryz.prog W = .ok (.tuple #[.nilFunc, .bool false]) W) := fun W hW => by
  exact zbcq
 have HL2 : Hid (∀ W : World, Rdr c W i d → (Instr.lookup 199 (.map (some c.mS)) (.string (fx c.l i)) true).run Tryz.prog W = .ok (.tuple #[.agg #[.string x.tx, .int .i64 x.kd, .int .i64 x.parts, .int .i64 x.str], .bool true]) W) := fun W hW => by
  have := look_signs c (fx c.l i) W hW.base.signs; rw [hsg] at this; exact this
 clear h h1 h3 h4 hq hsg
 go_enter Tryz.func312, Tryz.ntmps312
 have HC := hide (token_any c w i d HR0.out)
 unfold tkV at HC
 have hfl := fldKind (tkA c.l i)
 go_wp2_with fail
 refine cm HC.out ?_
 rintro e wt ⟨rfl, hbt⟩
 clear HC
 have HRt := hide (HR0.out.later hbt)
 have HBt := hide hbt
 clear hbt
 go_wp2_with fail
 refine wp_region_held (S := fun W => Rdr c W i d) (by kernel_rfl) ?_
 change wpAnyH _ _ _ _ _ _ _ _ (World.drew _)
 refine wh 0 (rPtr c) HRt.out.drew ?_
 refine wh 1 (rPtr c) HRt.out.drew ?_
 refine wh 2 (.pointer (some ⟨c.R, 5, none⟩)) HRt.out.drew ?_
 refine wg 3 (.map (some c.mV)) rfl (Or.inl ⟨by kernel_rfl, fun W hW => by have hh := Rdr.c5 hW; go_simp⟩) HRt.out.drew ?_
 refine wh 4 (rPtr c) HRt.out.drew ?_
 refine wq1 5 fun K hK => ?_
 go_simp
 refine cm (fixed_any c _ i d HRt.out.drew) ?_
 rintro e wq ⟨rfl, hbq⟩
 have HRq := hide (HRt.out.drew.later hbq)
 have HBq := hide (HBt.out.trans (((Below.refl _ _).drew.trans hbq).mono HBt.out.size))
 clear hbq
 refine hK.out _ _ HRq.out (fun _ => ?_)
 clear hK K
 refine wg 6 (.tuple #[.nilFunc, .bool false]) rfl (Or.inl ⟨by kernel_rfl, fun W hW => by have hh := HL.out W hW; go_simp⟩) HRq.out ?_
 refine wh 7 (.tuple #[.nilFunc, .bool false]) HRq.out ?_
 refine wh 8 .nilFunc HRq.out ?_
 refine wh 9 (.bool false) HRq.out ?_
 refine wh 10 .nilFunc HRq.out ?_
 refine wh 11 (.bool false) HRq.out ?_
 refine wpAnyH_done (by kernel_rfl) ?_ _
 go_simp
 have HLO := hide HRq.out.base.size
 go_wp2_with fail
 refine wp_region_held (S := fun W => Rdr c W i d) (by kernel_rfl) ?_
 change wpAnyH _ _ _ _ _ _ _ _ (World.drew _)
 refine wh 0 (rPtr c) HRq.out.drew ?_
 refine wh 1 (rPtr c) HRq.out.drew ?_
 refine wh 2 (.pointer (some ⟨c.R, 3, none⟩)) HRq.out.drew ?_
 refine wg 3 (.map (some c.mS)) rfl (Or.inl ⟨by kernel_rfl, fun W hW => by have hh := Rdr.c3 hW; go_simp⟩) HRq.out.drew ?_
 refine wh 4 (rPtr c) HRq.out.drew ?_
 refine wpAnyH_ready (rs := [5, 10]) (by kernel_rfl) (by simp) (AllReadyH.cons rfl (fun K hK => ?_) (AllReadyH.cons rfl (fun K hK => ?_) AllReadyH.nil))
 ·
  go_simp; refine cm (fixed_any c _ i d HRq.out.drew) ?_; rintro e w1 ⟨rfl, hb⟩; have HR1 := hide (HRq.out.drew.later hb); have HB1 := hide (HBq.out.trans (((Below.refl _ _).drew.trans hb).mono HBq.out.size)); clear hb
  refine hK.out _ _ HR1.out (fun _ => ?_); clear hK K
  refine wg 6 (.tuple #[.agg #[.string x.tx, .int .i64 x.kd, .int .i64 x.parts, .int .i64 x.str], .bool true]) rfl (Or.inl ⟨by kernel_rfl, fun W hW => by have hh := HL2.out W hW; go_simp⟩) HR1.out ?_
  refine wh 7 (.tuple #[.agg #[.string x.tx, .int .i64 x.kd, .int .i64 x.parts, .int .i64 x.str], .bool true]) HR1.out ?_; refine wh 8 (.agg #[.string x.tx, .int .i64 x.kd, .int .i64 x.parts, .int .i64 x.str]) HR1.out ?_
  refine wh 9 (.bool true) HR1.out ?_; refine wq1 10 fun K hK => ?_; go_simp; refine hK.out _ _ (HR1.out.alloc O160) (fun _ => ?_); clear hK K; refine wq1 11 fun K hK => ?_; go_simp
  have HR2 := hide (HR1.out.alloc (.cells #[.string x.tx, .int .i64 x.kd, .int .i64 x.parts, .int .i64 x.str] 189))
  have HW2 := hide (HB1.out.alloc HB1.out.size (.cells #[.string x.tx, .int .i64 x.kd, .int .i64 x.parts, .int .i64 x.str] 189)); exact zben
 ·
  go_simp; have HR' := hide ((HRq.out.alloc O160).drew); refine hK.out _ _ (unhide HR') (fun _ => ?_); clear hK K; refine wq1 5 fun K hK => ?_; go_simp; refine cm (fixed_any c _ i d (unhide HR')) ?_; rintro e w1 ⟨rfl, hb⟩
  have HR1 := hide ((unhide HR').later hb); have HB1 := hide (HBq.out.trans ((((Below.refl wq.heap.size wq).alloc (Nat.le_refl _) O160).drew.trans (hb.mono (by simp))).mono HBq.out.size))
  have p1 : w1.heap[wq.heap.size]? = some O160 := (hb.block _ (by simp)).trans (heap_new wq O160); obtain ⟨r0, r1, r2, r3, rf, rlt⟩ := c160 p1; have P1 := hide p1; clear hb p1; refine hK.out _ _ HR1.out (fun _ => ?_)
  clear hK K; refine wg 6 (.tuple #[.agg #[.string x.tx, .int .i64 x.kd, .int .i64 x.parts, .int .i64 x.str], .bool true]) rfl (Or.inl ⟨by kernel_rfl, fun W hW => by have hh := HL2.out W hW; go_simp⟩) HR1.out ?_
  refine wh 7 (.tuple #[.agg #[.string x.tx, .int .i64 x.kd, .int .i64 x.parts, .int .i64 x.str], .bool true]) HR1.out ?_; refine wh 8 (.agg #[.string x.tx, .int .i64 x.kd, .int .i64 x.parts, .int .i64 x.str]) HR1.out ?_
  refine wh 9 (.bool true) HR1.out ?_; refine wq1 11 fun K hK => ?_; go_simp; clear r0 r1 r2 r3 rf rlt
  obtain ⟨W2, hW2⟩ : ∃ W2, W2 = (((w1.setCell ⟨wq.heap.size, 0, none⟩ (.string x.tx)).setCell ⟨wq.heap.size, 1, none⟩ (.int .i64 x.kd)).setCell ⟨wq.heap.size, 2, none⟩ (.int .i64 x.parts)).setCell ⟨wq.heap.size, 3, none⟩ (.int .i64 x.str) := ⟨_, rfl⟩
  obtain ⟨hr2, hb2, ⟨s0, s1, s2, s3, sf, slt⟩⟩ := w3_any (v0 := .string x.tx) (v1 := .int .i64 x.kd) (v2 := .int .i64 x.parts) (v3 := .int .i64 x.str) HR1.out HLO.out P1.out hW2; have HR2 := hide hr2
  have HW2 := hide (HB1.out.trans (hb2.mono HBq.out.size)); rw [← hW2]; clear hW2 hr2 hb2; exact zben
end
theorem atValue_any (c : Ctx) : Asks c 312 (isVal c.l) := by
 intro w d i h
 unfold isVal
 by_cases h1 : (tkA c.l i).kd = 1
 ·
  rw [h1]; exact av_name w d i h1 h
 ·
  by_cases h3 : (tkA c.l i).kd = 3
  ·
   rw [h3]; exact av_num w d i h3 h
  ·
   by_cases h4 : (tkA c.l i).kd = 4
   ·
    rw [h4]; exact av_str w d i h4 h
   ·
    rw [beq_eq_false_iff_ne.2 h1, beq_eq_false_iff_ne.2 h3, beq_eq_false_iff_ne.2 h4]; simp only [Bool.false_or]
    cases hq : look2 vlKeys (fx c.l i) with
    | some q => exact av_map w d i h1 h3 h4 q hq h
    | none =>
     cases hsg : sgOf (fx c.l i) with
     | none => exact av_none w d i h1 h3 h4 hq hsg h
     | some x =>
      have hx := av_some w d i h1 h3 h4 x hq hsg h
      cases hp : decide (x.parts < 2) with
      | true => rw [hp] at hx; simpa [Option.filter, hp] using hx
      | false => rw [hp] at hx; simpa [Option.filter, hp] using hx
theorem push0 {c : Ctx} {w w1 : World} {j d : Nat} {t : Tr} {p : Nat} {u : Value} {ps : List Nat} (hO : Open w.heap.size w1 t p u ps) (hR : Rdr c w1 j d) (hA : Ap c.R w.heap.size w w1) (hlo : c.lo ≤ w.heap.size) :
  EV w.heap.size (w1.setCell ⟨p, 3, none⟩ u) (.mk t.kd t.tx t.n (t.kids ++ [])) (nPtr p) ∧ Rdr c (w1.setCell ⟨p, 3, none⟩ u) j d ∧ Ap c.R w.heap.size w (w1.setCell ⟨p, 3, none⟩ u) := by
 have hset : ∀ b, b ≠ p → (w1.setCell ⟨p, 3, none⟩ u).heap[b]? = w1.heap[b]? := fun b hb => Below.heap_setCell w1 ⟨p, 3, none⟩ _ b hb
 have hB : Below w.heap.size w1 (w1.setCell ⟨p, 3, none⟩ u) := (Below.refl _ _).setCell (p := ⟨p, 3, none⟩) hO.low _
 refine ⟨?_, hR.ap hB hlo, hA.trans (Ap.of hB)⟩
 rw [List.append_nil]
 refine ⟨p, u, ps, rfl, hO.low, by rw [heap_set hO.blk]; rfl, ?_, hO.own, NAts.later (fun b hb _ => hset b hb.2.1) _ _ hO.kids⟩
 exact owns_stay (I := fun b => b ≠ p) (fun b hb _ => hset b hb) (fun g hg e => hO.own (by rw [hg, e])) hO.row
theorem pushN {c : Ctx} {w w1 w3 : World} {j d : Nat} {t : Tr} {us : List Tr} {p g cap m : Nat} {u : Value} {ps qs : List Nat} (hO : Open w.heap.size w1 t p u ps) (hx : NAts (fun b => w.heap.size ≤ b ∧ b ≠ p ∧ u.ownBlock ≠ some b) w1 (t.kids ++ us) (ps ++ qs)) (hR : Rdr c w1 j d) (hA : Ap c.R w.heap.size w w1) (hlo : c.lo ≤ w.heap.size)
  (hown : w3.ownsRow w.heap.size 22 1 (.slice (some ⟨g, 0, none⟩) m cap) m (ps.map nPtr ++ qs.map nPtr)) (hm : m = ps.length + qs.length) (hgr : w1.grownBy w3 u.ownBlock) (hg : u.ownBlock = some g ∨ g = w1.heap.size) :
  EV w.heap.size (w3.setCell ⟨p, 3, none⟩ (.slice (some ⟨g, 0, none⟩) m cap)) (.mk t.kd t.tx t.n (t.kids ++ us)) (nPtr p) ∧
  Rdr c (w3.setCell ⟨p, 3, none⟩ (.slice (some ⟨g, 0, none⟩) m cap)) j d ∧
  Ap c.R w.heap.size w (w3.setCell ⟨p, 3, none⟩ (.slice (some ⟨g, 0, none⟩) m cap)) := by
 have hrow : ∀ k, u.ownBlock = some k → w.heap.size ≤ k := fun k hk => (own_lt hO.row k hk).2
 have hgrow : Below w.heap.size w1 w3 := (Below.refl w.heap.size w1).grown hgr hA.size hrow
 have hset : Below w.heap.size w1 (w3.setCell ⟨p, 3, none⟩ (.slice (some ⟨g, 0, none⟩) m cap)) := hgrow.setCell (p := ⟨p, 3, none⟩) hO.low _
 refine ⟨?_, hR.ap hset hlo, hA.trans (Ap.of hset)⟩
 exact ev_push hO.low hO.blk hO.own hx (by rw [List.map_append]; exact hown) (by rw [hm, List.length_append]) hgr hg
theorem en239 : ∀ args W, (callFunc 312 args).run Tryz.prog W = .ok (.enter 312 args) W := fun _ _ => by kernel_rfl
theorem en240 : ∀ args W, (callFunc 313 args).run Tryz.prog W = .ok (.enter 313 args) W := fun _ _ => by kernel_rfl
theorem LV.many {B : Nat} {w : World} {ts : List Tr} {v : Value} (h : LV B w ts v) (hne : ts ≠ []) : ∃ g cap qs, v = .slice (some ⟨g, 0, none⟩) ts.length cap ∧ qs.length = ts.length ∧ NAts (From B) w ts qs ∧ (∀ j u, (qs.map nPtr)[j]? = some u → w.cell? ((⟨g, 0, none⟩ : Addr).add j) = some u) := by
 obtain ⟨⟨qs, hr, hk⟩, _, _⟩ := h
 have hl := NAts.length _ _ hk
 have hp : 0 < qs.length := by rw [hl]; exact List.length_pos_iff.2 hne
 obtain ⟨g, cap, hv, hc⟩ := row_open hr hp
 refine ⟨g, cap, qs, by rw [hv, hl], hl, NAts.mono (fun b hb _ => hb.1) _ _ hk, fun j u hj => ?_⟩
 rw [Addr.add_mid, Nat.zero_add]
 rw [List.getElem?_map] at hj
 cases hq : qs[j]? with
 | none => rw [hq] at hj; cases hj
 | some q =>
  rw [hq] at hj; obtain ⟨hlt, he⟩ := List.getElem?_eq_some_iff.1 hq; rw [hc j hlt, he]; exact hj
theorem map_one (qs : List Nat) : ∀ u ∈ qs.map nPtr, u.oneCell' = true := by
 intro u hu
 obtain ⟨q, _, rfl⟩ := List.mem_map.1 hu
 rfl
theorem Open.cap {B : Nat} {w : World} {t : Tr} {p : Nat} {ua : Option Addr} {n uc : Nat} {ps : List Nat} (h : Open B w t p (.slice ua n uc) ps) (hp : 0 < t.kids.length) : n ≤ uc ∧ ∃ g, ua = some ⟨g, 0, none⟩ := by
 have hl := NAts.length _ _ h.kids
 rcases h.row.2 with hn | ⟨g, cap, cur, hv, _, _, h1, _⟩
 ·
  omega
 ·
  simp only [Value.slice.injEq] at hv; obtain ⟨rfl, rfl, rfl⟩ := hv; exact ⟨h1, g, rfl⟩
theorem asked_any {c : Ctx} {F : Fns} (hF : FC c F) (hN : ∃ k, FNx c.l k F) (hK : FOk F) : Does c 303 NV (askedP c.l F) := by
 have hmf := mf_bound c.R 312
 have hmf2 := mf_bound c.R 313
 intro w d i r hs ho h
 have HLO := hide h.base.size
 have HE := hide h.base.ends
 have HL := hide h.base.len
 obtain ⟨i0, hi0, hz0, hz1, hz2⟩ := info_parts info22
 have HNX := hide hN
 have HFC := hide hF
 have HR0 := hide h
 have HA0 := hide (Ap.refl c.R w.heap.size w)
 have HLT := hide h.rlt
 unfold askedP at hs
 have HS := hide hs
 have HO := hide ho
 clear h hs ho
 go_enter Tryz.func303, Tryz.ntmps303
 cases hr : aloneP c.l F d i with
 | out =>
  exact zbak
 | bad er p =>
  have HC := hide (alone_any hF hN hK w d i _ rfl (by rw [hr]; nofun) HR0.out)
  exact zbas
 | ok x1 j1 =>
  have HC := hide (alone_any hF hN hK w d i _ rfl (by rw [hr]; nofun) HR0.out)
  rw [hr] at HC HS; simp only [bind_ok] at HS; clear hr; go_wp2_with fail; refine cm HC.out ?_; intro e w1 hp; obtain ⟨⟨v1, rfl, p1, rfl, hn1⟩, hrd, ha⟩ := hp; clear HC; have HA1 := hide (HA0.out.next ha)
  have HR1 := hide hrd; have HN1 := hide (nat_mono hn1 HA0.out.size); clear hn1; clear hrd ha HA0 HR0; clear hF hN hK; go_wp2_with fail
  go_loopw [3] (fun v wr => ∃ k t j p, v = nPtr p ∧ askedLoop c.l F d k t j = r ∧ Rdr c wr j d ∧ Ap c.R w.heap.size w wr ∧ NAt (From w.heap.size) wr t p) (fun _ wr => c.l.length - nxt c wr)
  case atStart => exact ⟨F.fuel, x1, j1, p1, rfl, HS.out, HR1.out, HA1.out, HN1.out⟩
  case round =>
   obtain ⟨k, t, j, p0, rfl, hq, hrd, hap, hnt⟩ := hrel; clear HS HR1 HA1 HN1
   cases k with
   | zero => exact absurd hq.symm HO.out
   | succ k =>
    have HRr := hide hrd; have HRM := hide hrd; have HAr := hide hap; have HNt := hide hnt; have hjl := hrd.lt; have hL := unhide HL; unfold askedLoop at hq; have HS := hide hq; have HC := hide (fixed_any c wr j d hrd)
    clear hq hrd hap hnt
    by_cases hx : fx c.l j = tDot
    ·
     rw [if_pos hx] at HS; have bx : ((fx c.l j).toList == [46]) = true := tl_eqL (b := tDot) rfl hx; have hi := fx_lt HE.out hjl hx (by decide); clear hx; go_wp2_with fail; refine cm HC.out ?_; rintro e wf ⟨rfl, hbf⟩
     clear HC; have HRf := hide (HRr.out.later hbf); have HAf := hide (HAr.out.next (Ap.of hbf)); replace HNt := hide (nat_later (c := c) HNt.out (Ap.of hbf) HLT.out); clear hbf; have hc1 := HRf.out.c1
     have hcz := HRf.out.fz; have hcl := HRf.out.rlt; obtain ⟨hsr, hsa⟩ := stepped HRf.out HAf.out hi; have HRs := hide hsr; have HAs := hide hsa
     replace HNt := hide (nat_later (c := c) HNt.out (Ap.setCell (R := c.R) (Ap.refl _ _ _) (p := ⟨c.R, 1, none⟩) (Or.inr rfl) (.int .i64 ((j : Int) + 1))) HLT.out); clear hsr hsa HRf HAf
     cases hr : nameP c.l (j + 1) with
     | out =>
      exact zbak
     | bad er p =>
      have HC := hide (name_any c (wf.setCell ⟨c.R, 1, none⟩ (.int .i64 ((j : Int) + 1))) (j + 1) d HRs.out); rw [hr] at HC HS; simp only [bind_bad] at HS; clear hr; go_wp2_with fail; refine cm HC.out ?_; intro e w' hp
      obtain ⟨rfl, ha⟩ := hp; exact ⟨rfl, ppBad HS.out.symm (HAs.out.next ha)⟩
     | ok x2 j2 =>
      have hgt := ((nameP_nx (q := True) HE.out hi).2 _ _ hr).1; have HC := hide (name_any c (wf.setCell ⟨c.R, 1, none⟩ (.int .i64 ((j : Int) + 1))) (j + 1) d HRs.out); rw [hr] at HC HS; simp only [bind_ok] at HS; clear hr
      go_wp2_with fail; refine cm HC.out ?_; intro e w2 hp; obtain ⟨⟨v2, rfl, rfl⟩, hrd, ha⟩ := hp; clear HC; have HA2 := hide (HAs.out.next ha); have HR2 := hide hrd; replace HNt := hide (nat_later HNt.out ha HLT.out)
      clear hrd ha HAs HRs; have hlt2 := HR2.out.lt; have HC := hide (node_any 36 x2 (.slice (some ⟨w2.heap.size, 0, none⟩) 1 1) (w2.alloc (.cells #[nPtr p0] 22)) ⟨_, _, _, rfl⟩); go_wp2_with fail; refine cm HC.out ?_
      rintro e wn ⟨rfl, rfl⟩; clear HC; obtain ⟨m1, m2, m3⟩ := made HR2.out HA2.out (NAts.cons HNt.out NAts.nil) (by simp [maxLen]) #[nPtr p0] rfl 1 rfl 36 x2 (w2.heap.size + 1) rfl; obtain ⟨pm, hpm, hnm⟩ := m1.nv
      have hpe : pm = w2.heap.size + 1 := by simpa [nPtr] using hpm.symm
      subst hpe; have HM1 := hide hnm; have HM2 := hide m2; have HM3 := hide m3; clear m1 m2 m3 hpm hnm; go_wp2_with fail
      go_roundw
      case rel => exact ⟨k, .mk 36 x2 0 [t], j2, w2.heap.size + 1, by simp, HS.out, HM2.out, HM3.out, HM1.out⟩
      case measure => rw [nxt_eq HM2.out, nxt_eq HRM.out]; omega
    ·
     rw [if_neg hx] at HS; have bx : ((fx c.l j).toList == [46]) = false := tl_neL (b := tDot) rfl hx; clear hx
     by_cases hy : fx c.l j = tOpen
     ·
      rw [if_pos hy] at HS; have by1 : ((fx c.l j).toList == [40]) = true := tl_eqL (b := tOpen) rfl hy; clear hy; go_wp2_with fail; refine cm HC.out ?_; rintro e wf ⟨rfl, hbf⟩; clear HC
      have HRf := hide (HRr.out.later hbf); have HAf := hide (HAr.out.next (Ap.of hbf)); replace HNt := hide (nat_later (c := c) HNt.out (Ap.of hbf) HLT.out); clear hbf
      have HC := hide (node_any 35 noText (.slice (some ⟨wf.heap.size, 0, none⟩) 1 1) (wf.alloc (.cells #[nPtr p0] 22)) ⟨_, _, _, rfl⟩); go_wp2_with fail; refine cm HC.out ?_; rintro e wn0 ⟨rfl, rfl⟩; clear HC
      obtain ⟨m1, m2, m3⟩ := made HRf.out HAf.out (NAts.cons HNt.out NAts.nil) (by simp [maxLen]) #[nPtr p0] rfl 1 rfl 35 noText (wf.heap.size + 1) rfl; obtain ⟨t0, ht0⟩ : ∃ t0 : Tr, t0 = .mk 35 noText 0 [t] := ⟨_, rfl⟩
      rw [← ht0] at m1; have HKL : Hid (t0.kids.length = 1) := by
       show _ = _
       rw [ht0]; rfl
      have HT0 := hide ht0; obtain ⟨pq, u0, ps0, hpe, hop⟩ := m1.opens; have hpe2 : pq = wf.heap.size + 1 := by simpa [nPtr] using hpe.symm
      rw [hpe2] at hop; have HOP := hide hop; have HRn := hide m2; have HAn := hide m3; clear m1 m2 m3 hop hpe ht0
      obtain ⟨wn, hwn⟩ : ∃ wn, wn = (wf.alloc (.cells #[nPtr p0] 22)).alloc (nodeObj 35 noText 0 (.slice (some ⟨wf.heap.size, 0, none⟩) 1 1)) := ⟨_, rfl⟩; rw [← hwn] at HOP HRn HAn; rw [← hpe2] at HOP
      rw [show (wf.alloc (.cells #[nPtr p0] 22)).heap.size = pq by rw [hpe2]; simp, ← hwn]
      clear hwn hpe2; obtain ⟨hc3, hcf, hcl⟩ := HOP.out.cell; obtain ⟨ua, uc, hue⟩ := HOP.out.shape; subst hue; obtain ⟨kk, hkk⟩ := unhide HNX
      cases hr : listP c.l tOpen tShut (isVal c.l) (argP c.l F d) F.fuel j with
      | out =>
       exact zbak
      | bad er p =>
       have HC := hide (list_any 312 313 (isVal c.l) (argP c.l F) tOpen tShut (atValue_any c) (arg_any HFC.out) en239 en240 (by decide) (by decide) (argP_go hkk) F.fuel wn.drew d j _ rfl (by rw [hr]; nofun) HRn.out.drew)
       rw [hr] at HC HS; simp only [bind_bad] at HS; clear hr hkk; go_wp2_with fail; refine wp_region_any (by kernel_rfl) ?_; change wpAny _ _ _ _ _ _ _ (World.drew _); refine wt 0 (nPtr pq) ?_; refine wt 1 (nPtr pq) ?_
       refine wt 2 (nPtr pq) ?_; refine wt 3 (.pointer (some ⟨pq, 3, none⟩)) ?_; refine wt 5 (rPtr c) ?_; refine wt 6 (rPtr c) ?_; refine wt 7 (.func (.func 312) #[rPtr c] #[]) ?_; refine wt 8 (rPtr c) ?_
       refine wt 9 (.func (.func 313) #[rPtr c] #[]) ?_; refine wr2 4 10 (fun K hK => ?_) fun K hK => ?_
       ·
        go_simp; refine hK _ _ ?_; clear hK K; refine wr1 10 fun K hK => ?_; exact zbcx
       ·
        exact zbcx
      | ok us j2 =>
       have HC := hide (list_any 312 313 (isVal c.l) (argP c.l F) tOpen tShut (atValue_any c) (arg_any HFC.out) en239 en240 (by decide) (by decide) (argP_go hkk) F.fuel wn.drew d j _ rfl (by rw [hr]; nofun) HRn.out.drew)
       have hgt := ((listP_nx (q := False) HE.out hjl (by decide) (by decide) (fun h => h.elim) (fun j1 _ h1 => argP_nx hkk h1 (fun h => h.elim))).2 _ _ hr).1; rw [hr] at HC HS; simp only [bind_ok] at HS; clear hr hkk
       go_wp2_with fail; refine wp_region_any (by kernel_rfl) ?_; change wpAny _ _ _ _ _ _ _ (World.drew _); refine wt 0 (nPtr pq) ?_; refine wt 1 (nPtr pq) ?_; refine wt 2 (nPtr pq) ?_
       refine wt 3 (.pointer (some ⟨pq, 3, none⟩)) ?_; refine wt 5 (rPtr c) ?_; refine wt 6 (rPtr c) ?_; refine wt 7 (.func (.func 312) #[rPtr c] #[]) ?_; refine wt 8 (rPtr c) ?_
       refine wt 9 (.func (.func 313) #[rPtr c] #[]) ?_; refine wr2 4 10 (fun K hK => ?_) fun K hK => ?_
       ·
        go_simp; refine hK _ _ ?_; clear hK K; refine wr1 10 fun K hK => ?_; go_simp; refine cm HC.out ?_; intro e wc hp; obtain ⟨⟨vc, rfl, hlv⟩, hrd, ha⟩ := hp; have HAc := hide (HAn.out.drew.next ha)
        have HRc := hide hrd; have hlt2 := hrd.lt; have HOc := hide (Open.later HOP.out (((Ap.refl c.R wn.heap.size wn).drew).next ha) HLT.out); have HOA := hide (((Ap.refl c.R wn.heap.size wn).drew).next ha)
        have HLV := hide hlv; obtain ⟨gc3, gcf, gcl⟩ := HOc.out.cell; clear hrd ha hlv; exact zban
       ·
        go_simp; refine cm HC.out ?_; intro e wc hp; obtain ⟨⟨vc, rfl, hlv⟩, hrd, ha⟩ := hp; have HAc := hide (HAn.out.drew.next ha); have HRc := hide hrd; have hlt2 := hrd.lt
        have HOc := hide (Open.later HOP.out (((Ap.refl c.R wn.heap.size wn).drew).next ha) HLT.out); have HOA := hide (((Ap.refl c.R wn.heap.size wn).drew).next ha); have HLV := hide hlv
        obtain ⟨gc3, gcf, gcl⟩ := HOc.out.cell; clear hrd ha hlv; refine hK _ _ ?_; clear hK K; refine wr1 4 fun K hK => ?_; go_simp; exact zban
     ·
      rw [if_neg hy] at HS; have by1 : ((fx c.l j).toList == [40]) = false := tl_neL (b := tOpen) rfl hy; clear hy; go_wp2_with fail; refine cm HC.out ?_; rintro e wf ⟨rfl, hbf⟩; clear HC
      have HRf := hide (HRr.out.later hbf); have HAf := hide (HAr.out.next (Ap.of hbf)); replace HNt := hide (nat_later (c := c) HNt.out (Ap.of hbf) HLT.out); clear hbf; go_wp2_with fail; go_ret
      exact ppOk HS.out.symm ⟨p0, rfl, HNt.out⟩ HRf.out HAf.out
end Go.Proofs.YtoimgcjbcbhclaaGreatDoor
