/-
  The document's parser: return, while, with.
-/
import Derived.Test.YtoimgcjbcbhclaaGreatDoorAo27
set_option maxRecDepth 100000
set_option maxHeartbeats 16000000
namespace Go.Proofs.YtoimgcjbcbhclaaGreatDoor
open Go.RowKit
structure Stk (c : PC) (w : World) (k : Int) (i : Nat) (W : World) : Prop where
 ps : Ps c W i 0 (-1)
 nd : W.heap[w.heap.size]? = some (nodeObj k noText 0 (.slice none 0 0))
 ap : Ap c.P w.heap.size w W
section
variable {c : PC} {w : World}
include c w
theorem Stk.below {k : Int} {i : Nat} {W W' : World} (h : Stk c w k i W) (hb : Below W.heap.size W W') : Stk c w k i W' := ⟨h.ps.later hb, (hb.block _ (lt_of_heap h.nd)).trans h.nd, h.ap.next (Ap.of hb)⟩
theorem Stn.kind {i : Nat} {W : World} (h : Stn c w i W) (hlo : c.lo ≤ w.heap.size) (k : Int) : Stk c w k i (W.setCell ⟨w.heap.size, 0, none⟩ (.int .i64 k)) :=
 ⟨h.ps.ap ((Below.refl w.heap.size W).setCell (p := ⟨w.heap.size, 0, none⟩) (Nat.le_refl _) _) hlo, by rw [heap_set h.nd]; rfl, h.ap.setCell (p := ⟨w.heap.size, 0, none⟩) (Or.inl (Nat.le_refl _)) _⟩
theorem Stk.kind {k0 : Int} {i : Nat} {W : World} (h : Stk c w k0 i W) (hlo : c.lo ≤ w.heap.size) (k : Int) : Stk c w k i (W.setCell ⟨w.heap.size, 0, none⟩ (.int .i64 k)) :=
 ⟨h.ps.ap ((Below.refl w.heap.size W).setCell (p := ⟨w.heap.size, 0, none⟩) (Nat.le_refl _) _) hlo, by rw [heap_set h.nd]; rfl, h.ap.setCell (p := ⟨w.heap.size, 0, none⟩) (Or.inl (Nat.le_refl _)) _⟩
theorem Stk.stepped {k : Int} {i : Nat} {W : World} (h : Stk c w k i W) (hP : c.P < w.heap.size) (hl : i + 1 < c.l.length) : Stk c w k (i + 1) (W.setCell ⟨c.P, 1, none⟩ (.int .i64 ((i : Int) + 1))) := by
 have hn : ((i : Int) + 1) = (((i + 1 : Nat)) : Int) := by omega
 rw [hn]
 exact ⟨h.ps.step hl, by rw [Below.heap_setCell _ _ _ _ (by first | exact Nat.ne_of_gt hP | exact Nat.ne_of_lt hP)]; exact h.nd, h.ap.setCell (p := ⟨c.P, 1, none⟩) (Or.inr rfl) _⟩
end
section
variable {c : PC} {F : Fns} (hF : RCt c F) (hN : ∃ k, FNx c.l k F) (hK : FOk F) (w : World) (d i : Nat) (r : PR Tr) (hd : d ≤ 30)
include c F hF hN hK w d i r hd
theorem rst_return (hf : fx c.l i = tReturn) (hs : r = if ¬ fx c.l (i + 1) = tSemi then (deepP c.l F.vl d (i + 1)).bind fun v i1 => (mustP c.l tSemi i1).bind fun _ i2 => .ok (.mk 10 noText 0 [v]) i2 else (mustP c.l tSemi (i + 1)).bind fun _ i2 => .ok (.mk 10 noText 0 []) i2) (ho : r ≠ .out) (h : Ps c w i 0 (-1)) :
  Calls Tryz.prog 111 #[pPtr c, .int .i64 (d : Int)] w (QPost c w (NV w.heap.size) ZN r) := by
 have HLT := hide h.rlt
 have HLO := hide h.base.size
 have HO := hide ho
 have HF := hide hF
 have HNN := hide hN
 have HKK := hide hK
 have hdd : decide ((30 : Int) < (d : Int)) = false := decide_eq_false (by omega)
 have n0 : ¬ fx c.l i = tLBrace := by rw [hf]; decide
 have n1 : ¬ fx c.l i = tSemi := by rw [hf]; decide
 have n2 : ¬ fx c.l i = tFunction := by rw [hf]; decide
 have n3 : ¬ fx c.l i = tIf := by rw [hf]; decide
 have n4 : ¬ fx c.l i = tWhile := by rw [hf]; decide
 have n5 : ¬ fx c.l i = tWith := by rw [hf]; decide
 have n6 : ¬ fx c.l i = tTry := by rw [hf]; decide
 have n7 : ¬ fx c.l i = tVar := by rw [hf]; decide
 have n8 : ¬ fx c.l i = tLet := by rw [hf]; decide
 have n9 : ¬ fx c.l i = tConst := by rw [hf]; decide
 have HQ := hide hs
 clear hs
 have HS0 := hide (Stn.new h)
 have hc := rnext_any c (w.alloc nd0) i tLBrace (by decide) HS0.out.ps
 rw [decide_eq_false n0] at hc
 have HC := hide hc
 clear hc
 clear h
 go_enter Tryz.func111, Tryz.ntmps111
 go_wp2_with fail
 refine cm HC.out ?_
 rintro e w1 ⟨rfl, hb⟩
 have HS1 := hide (HS0.out.below hb)
 clear hb HC HS0
 have HC := hide (rskip_no c w1 i tSemi (by decide) n1 HS1.out.ps)
 go_wp2_with fail
 refine cm HC.out ?_
 rintro e w2 ⟨rfl, hb⟩
 have HS2 := hide (HS1.out.below hb)
 clear hb HC HS1
 have HC := hide (rskip_no c w2 i tFunction (by decide) n2 HS2.out.ps)
 go_wp2_with fail
 refine cm HC.out ?_
 rintro e w3 ⟨rfl, hb⟩
 have HS3 := hide (HS2.out.below hb)
 clear hb HC HS2
 have HC := hide (rskip_no c w3 i tIf (by decide) n3 HS3.out.ps)
 go_wp2_with fail
 refine cm HC.out ?_
 rintro e w4 ⟨rfl, hb⟩
 have HS4 := hide (HS3.out.below hb)
 clear hb HC HS3
 have hc := rnext_any c w4 i tWhile (by decide) HS4.out.ps
 rw [decide_eq_false n4] at hc
 have HC := hide hc
 clear hc
 go_wp2_with fail
 refine cm HC.out ?_
 rintro e w5 ⟨rfl, hb⟩
 have HS5 := hide (HS4.out.below hb)
 clear hb HC HS4
 have hc := rnext_any c w5 i tWith (by decide) HS5.out.ps
 rw [decide_eq_false n5] at hc
 have HC := hide hc
 clear hc
 go_wp2_with fail
 refine cm HC.out ?_
 rintro e w6 ⟨rfl, hb⟩
 have HS6 := hide (HS5.out.below hb)
 clear hb HC HS5
 have HC := hide (rskip_no c w6 i tTry (by decide) n6 HS6.out.ps)
 go_wp2_with fail
 refine cm HC.out ?_
 rintro e w7 ⟨rfl, hb⟩
 have HS7 := hide (HS6.out.below hb)
 clear hb HC HS6
 have hc := rnext_any c w7 i tVar (by decide) HS7.out.ps
 rw [decide_eq_false n7] at hc
 have HC := hide hc
 clear hc
 go_wp2_with fail
 refine cm HC.out ?_
 rintro e w8 ⟨rfl, hb⟩
 have HS8 := hide (HS7.out.below hb)
 clear hb HC HS7
 have hc := rnext_any c w8 i tLet (by decide) HS8.out.ps
 rw [decide_eq_false n8] at hc
 have HC := hide hc
 clear hc
 go_wp2_with fail
 refine cm HC.out ?_
 rintro e w9 ⟨rfl, hb⟩
 have HS9 := hide (HS8.out.below hb)
 clear hb HC HS8
 have hc := rnext_any c w9 i tConst (by decide) HS9.out.ps
 rw [decide_eq_false n9] at hc
 have HC := hide hc
 clear hc
 go_wp2_with fail
 refine cm HC.out ?_
 rintro e w10 ⟨rfl, hb⟩
 have HS10 := hide (HS9.out.below hb)
 clear hb HC HS9
 have HC := hide (rskip_yes c w10 i tReturn (by decide) hf HS10.out.ps)
 go_wp2_with fail
 refine cm HC.out ?_
 rintro e w11 ⟨rfl, hp, ha⟩
 have HS11 := hide (HS10.out.on HLT.out hp ha)
 clear hp ha HC HS10
 clear ho hF hN hK
 have HK0 := hide (HS11.out.kind HLO.out 10)
 have hc := rnext_any c _ (i + 1) tSemi (by decide) HK0.out.ps
 have nb := HS11.out.nd
 obtain ⟨c0, c1, c2, c3, cf⟩ := node_cells nb
 have cf0 := cf 0
 have cf3 := cf 3
 have hnl := lt_of_heap nb
 clear nb
 by_cases hx : fx c.l (i + 1) = tSemi
 ·
  rw [decide_eq_true hx] at hc; have HC := hide hc; rw [if_neg (fun h => h hx)] at HQ; clear hc hx; go_wp2_with fail; refine cm HC.out ?_; rintro e wx ⟨rfl, hb⟩; have HK1 := hide (HK0.out.below hb)
  clear hb HC c0 c1 c2 c3 cf cf0 cf3 hnl; have HA := hide HK1.out.ap; have HN : Hid (NV w.heap.size wx (.mk 10 noText 0 []) (nPtr w.heap.size)) := st_done (Nat.le_refl _) HK1.out.nd owns_nil NAts.nil
  have HC2 := hide (rmust_any c wx (i + 1) tSemi (by decide) HK1.out.ps); have HQ2 := HQ; clear HQ; go_wp2_with fail; refine cm HC2.out ?_; intro e wz hp
  cases hr2 : mustP c.l tSemi (i + 1) with
  | out => rw [hr2] at HQ2; exact absurd HQ2.out HO.out
  | bad er pl =>
   exact zbbv
  | ok x j2 =>
   rw [hr2] at hp HQ2; have hq : r = .ok (.mk 10 noText 0 []) j2 := unhide HQ2; exact zbbx
 ·
  rw [decide_eq_false hx] at hc; have HC := hide hc; rw [if_pos hx] at HQ; clear hc hx; go_wp2_with fail; refine cm HC.out ?_; rintro e wx ⟨rfl, hb⟩; have HK1 := hide (HK0.out.below hb)
  clear hb HC c0 c1 c2 c3 cf cf0 cf3 hnl
  cases hr : deepP c.l F.vl d (i + 1) with
  | out => rw [hr] at HQ; exact absurd HQ.out HO.out
  | bad er pl =>
   have HC := hide (HF.out.vl wx d (i + 1) _ hd hr.symm (by nofun) HK1.out.ps); rw [hr] at HQ; have hq : r = .bad er pl := unhide HQ; subst hq; clear hr HQ; go_wp2_with fail; refine cm HC.out ?_
   rintro e wv ⟨⟨v, rfl, q, rfl⟩, ⟨j, hp1⟩, he, ha⟩; have nb := (ha.block _ (lt_of_heap HK1.out.nd) (by have := unhide HLT; omega)).trans HK1.out.nd
   obtain ⟨c0, c1, c2, c3, cf⟩ := node_cells nb; have cf3 := cf 3; have hnl := lt_of_heap nb; have hA := HK1.out.ap.next ha
   have HB : Hid (Below w.heap.size wv ((wv.setCell ⟨w.heap.size, 3, none⟩ (.slice (some ⟨wv.heap.size, 0, none⟩) 1 1)).alloc (.cells #[nPtr q] 22))) := ((Below.refl w.heap.size wv).setCell (p := ⟨w.heap.size, 3, none⟩) (Nat.le_refl _) _).alloc (by simp; omega) _
   exact zbce
  | ok t j =>
   have HC := hide (HF.out.vl wx d (i + 1) _ hd hr.symm (by nofun) HK1.out.ps); rw [hr] at HQ; have hq : r = (mustP c.l tSemi j).bind fun _ i2 => .ok (.mk 10 noText 0 [t]) i2 := unhide HQ; have HQ2 := hide hq
   clear hr HQ hq; go_wp2_with fail; refine cm HC.out ?_; rintro e wv ⟨⟨v, rfl, q, rfl, hn⟩, hp1, ha⟩; have nb := (ha.block _ (lt_of_heap HK1.out.nd) (by have := unhide HLT; omega)).trans HK1.out.nd
   obtain ⟨c0, c1, c2, c3, cf⟩ := node_cells nb; have cf3 := cf 3; have hnl := lt_of_heap nb; have hA := HK1.out.ap.next ha
   have HB : Hid (Below w.heap.size wv ((wv.setCell ⟨w.heap.size, 3, none⟩ (.slice (some ⟨wv.heap.size, 0, none⟩) 1 1)).alloc (.cells #[nPtr q] 22))) := ((Below.refl w.heap.size wv).setCell (p := ⟨w.heap.size, 3, none⟩) (Nat.le_refl _) _).alloc (by simp; omega) _
   have HA := hide (hA.trans (Ap.of HB.out)); have HP := hide (hp1.ap HB.out HLO.out)
   have HN : Hid (NV w.heap.size ((wv.setCell ⟨w.heap.size, 3, none⟩ (.slice (some ⟨wv.heap.size, 0, none⟩) 1 1)).alloc (.cells #[nPtr q] 22)) (.mk 10 noText 0 [t]) (nPtr w.heap.size)) := st_row (Nat.le_refl _) (lt_of_heap HK1.out.nd) (set1 wv w.heap.size _) (by simp) ha.size (by rw [heap_set nb]; rfl) (NAts.cons hn NAts.nil) rfl #[nPtr q] rfl (by simp [maxLen])
   have HC2 := hide (rmust_any c _ j tSemi (by decide) HP.out); clear hp1 ha HC nb hA hn; go_wp2_with fail; refine cm HC2.out ?_; intro e wz hp
   cases hr2 : mustP c.l tSemi j with
   | out => rw [hr2] at HQ2; exact absurd HQ2.out HO.out
   | bad er pl =>
    exact zbbv
   | ok x j2 =>
    rw [hr2] at hp HQ2; have hq : r = .ok (.mk 10 noText 0 [t]) j2 := unhide HQ2; exact zbbx
theorem rst_while (hf : fx c.l i = tWhile) (hs : r = (inParP c.l F d (i + 1)).bind fun v i1 => (deepP c.l F.st d i1).bind fun s i2 => .ok (.mk 8 noText 0 [v, s]) i2) (ho : r ≠ .out) (h : Ps c w i 0 (-1)) :
  Calls Tryz.prog 111 #[pPtr c, .int .i64 (d : Int)] w (QPost c w (NV w.heap.size) ZN r) := by
 have HLT := hide h.rlt
 have HLO := hide h.base.size
 have HO := hide ho
 have HF := hide hF
 have HNN := hide hN
 have HKK := hide hK
 have hdd : decide ((30 : Int) < (d : Int)) = false := decide_eq_false (by omega)
 have n0 : ¬ fx c.l i = tLBrace := by rw [hf]; decide
 have n1 : ¬ fx c.l i = tSemi := by rw [hf]; decide
 have n2 : ¬ fx c.l i = tFunction := by rw [hf]; decide
 have n3 : ¬ fx c.l i = tIf := by rw [hf]; decide
 have HS0 := hide (Stn.new h)
 have hc := rnext_any c (w.alloc nd0) i tLBrace (by decide) HS0.out.ps
 rw [decide_eq_false n0] at hc
 have HC := hide hc
 clear hc
 clear h
 go_enter Tryz.func111, Tryz.ntmps111
 go_wp2_with fail
 refine cm HC.out ?_
 rintro e w1 ⟨rfl, hb⟩
 have HS1 := hide (HS0.out.below hb)
 clear hb HC HS0
 have HC := hide (rskip_no c w1 i tSemi (by decide) n1 HS1.out.ps)
 go_wp2_with fail
 refine cm HC.out ?_
 rintro e w2 ⟨rfl, hb⟩
 have HS2 := hide (HS1.out.below hb)
 clear hb HC HS1
 have HC := hide (rskip_no c w2 i tFunction (by decide) n2 HS2.out.ps)
 go_wp2_with fail
 refine cm HC.out ?_
 rintro e w3 ⟨rfl, hb⟩
 have HS3 := hide (HS2.out.below hb)
 clear hb HC HS2
 have HC := hide (rskip_no c w3 i tIf (by decide) n3 HS3.out.ps)
 go_wp2_with fail
 refine cm HC.out ?_
 rintro e w4 ⟨rfl, hb⟩
 have HS4 := hide (HS3.out.below hb)
 clear hb HC HS3
 have hc := rnext_any c w4 i tWhile (by decide) HS4.out.ps
 rw [decide_eq_true hf] at hc
 have HC := hide hc
 clear hc
 go_wp2_with fail
 refine cm HC.out ?_
 rintro e w5 ⟨rfl, hb⟩
 have HS5 := hide (HS4.out.below hb)
 clear hb HC HS4
 have HQ := hide hs
 clear ho hs hF hN hK
 have hl := fx_lt HS5.out.ps.base.ends HS5.out.ps.lt hf (by decide)
 have hl3 := HS5.out.ps.base.len
 have HK0 := hide (HS5.out.kind HLO.out 8)
 have hc := rnext_any c _ i tWith (by decide) HK0.out.ps
 rw [decide_eq_false (by rw [hf]; decide)] at hc
 have HC := hide hc
 clear hc
 have nb := HS5.out.nd
 obtain ⟨c0, c1, c2, c3, cf⟩ := node_cells nb
 have cf0 := cf 0
 have cf3 := cf 3
 have hnl := lt_of_heap nb
 clear nb
 go_wp2_with fail
 refine cm HC.out ?_
 rintro e wx ⟨rfl, hb⟩
 have HK1 := hide (HK0.out.below hb)
 clear hb HC c0 c1 c2 c3 cf cf0 cf3 hnl
 have x1 := HK1.out.ps.c1
 have xf := HK1.out.ps.fz 1
 have hR := HK1.out.ps.rlt
 have hPN : c.P < w.heap.size := unhide HLT
 have nb := HK1.out.nd
 obtain ⟨c0, c1, c2, c3, cf⟩ := node_cells nb
 have cf0 := cf 0
 have cf3 := cf 3
 have hnl := lt_of_heap nb
 clear nb
 have HK2 := hide (HK1.out.stepped HLT.out hl)
 cases hr : inParP c.l F d (i + 1) with
 | out => rw [hr] at HQ; exact absurd HQ.out HO.out
 | bad er pl =>
  exact zcai
 | ok t j =>
  have HC := hide (rhead_any HF.out _ d (i + 1) _ hd hr.symm (by nofun) HK2.out.ps); rw [hr] at HQ; have HQ2 : Hid (r = (deepP c.l F.st d j).bind fun s i2 => .ok (.mk 8 noText 0 [t, s]) i2) := unhide HQ; clear hr HQ
  go_wp2_with fail; refine cm HC.out ?_; rintro e wh ⟨⟨v, rfl, q, rfl, hn⟩, hp1, ha⟩; have HNB := hide ((ha.block _ (lt_of_heap HK2.out.nd) (by have := unhide HLT; omega)).trans HK2.out.nd)
  have HA0 := hide (HK2.out.ap.next ha); have HP0 := hide hp1; have HN0 := hide hn; have HZ0 := hide ha.size; clear hp1 ha HC hn c0 c1 c2 c3 cf cf0 cf3 hnl x1 xf
  cases hr : deepP c.l F.st d j with
  | out => rw [hr] at HQ2; exact absurd HQ2.out HO.out
  | bad er pl =>
   exact zcbd
  | ok s j2 =>
   have HC2 := hide (rstatement2_any HF.out wh d j _ hd hr.symm (by nofun) HP0.out); rw [hr] at HQ2; have hq : r = .ok (.mk 8 noText 0 [t, s]) j2 := unhide HQ2; subst hq; clear hr HQ2; go_wp2_with fail
   refine cm HC2.out ?_; rintro e wv ⟨⟨v, rfl, q2, rfl, hn2⟩, hp2, ha2⟩; have nb := (ha2.block _ (lt_of_heap HNB.out) (by have := unhide HLT; omega)).trans HNB.out
   obtain ⟨c0, c1, c2, c3, cf⟩ := node_cells nb; have cf3 := cf 3; have hnl := lt_of_heap nb; have hA := HA0.out.next ha2
   have HB : Hid (Below w.heap.size wv ((wv.setCell ⟨w.heap.size, 3, none⟩ (.slice (some ⟨wv.heap.size, 0, none⟩) 2 2)).alloc (.cells #[nPtr q, nPtr q2] 22))) := ((Below.refl w.heap.size wv).setCell (p := ⟨w.heap.size, 3, none⟩) (Nat.le_refl _) _).alloc (by simp; omega) _
   have HA := hide (hA.trans (Ap.of HB.out)); have HP := hide (hp2.ap HB.out HLO.out); have HZW := hide (lt_of_heap HK2.out.nd)
   have n1' := nats_two ⟨q, rfl, HN0.out⟩ ha2 (by have h1 := unhide HLT; have h2 := unhide HZW; omega) HZ0.out hn2
   have HN : Hid (NV w.heap.size ((wv.setCell ⟨w.heap.size, 3, none⟩ (.slice (some ⟨wv.heap.size, 0, none⟩) 2 2)).alloc (.cells #[nPtr q, nPtr q2] 22)) (.mk 8 noText 0 [t, s]) (nPtr w.heap.size)) := st_row (Nat.le_refl _) HZW.out (set1 wv w.heap.size _) (by simp) (Nat.le_trans HZ0.out ha2.size) (by rw [heap_set nb]; rfl) n1' rfl #[nPtr q, nPtr q2] rfl (by simp [maxLen])
   clear hp2 ha2 HC2 nb hA hn2 n1'; go_wp2_with fail; go_ret; exact ⟨⟨_, rfl, HN.out⟩, HP.out, HA.out⟩
theorem rst_with (hf : fx c.l i = tWith) (hs : r = (inParP c.l F d (i + 1)).bind fun v i1 => (deepP c.l F.st d i1).bind fun s i2 => .ok (.mk 9 noText 0 [v, s]) i2) (ho : r ≠ .out) (h : Ps c w i 0 (-1)) :
  Calls Tryz.prog 111 #[pPtr c, .int .i64 (d : Int)] w (QPost c w (NV w.heap.size) ZN r) := by
 have HLT := hide h.rlt
 have HLO := hide h.base.size
 have HO := hide ho
 have HF := hide hF
 have HNN := hide hN
 have HKK := hide hK
 have hdd : decide ((30 : Int) < (d : Int)) = false := decide_eq_false (by omega)
 have n0 : ¬ fx c.l i = tLBrace := by rw [hf]; decide
 have n1 : ¬ fx c.l i = tSemi := by rw [hf]; decide
 have n2 : ¬ fx c.l i = tFunction := by rw [hf]; decide
 have n3 : ¬ fx c.l i = tIf := by rw [hf]; decide
 have n4 : ¬ fx c.l i = tWhile := by rw [hf]; decide
 have HS0 := hide (Stn.new h)
 have hc := rnext_any c (w.alloc nd0) i tLBrace (by decide) HS0.out.ps
 rw [decide_eq_false n0] at hc
 have HC := hide hc
 clear hc
 clear h
 go_enter Tryz.func111, Tryz.ntmps111
 go_wp2_with fail
 refine cm HC.out ?_
 rintro e w1 ⟨rfl, hb⟩
 have HS1 := hide (HS0.out.below hb)
 clear hb HC HS0
 have HC := hide (rskip_no c w1 i tSemi (by decide) n1 HS1.out.ps)
 go_wp2_with fail
 refine cm HC.out ?_
 rintro e w2 ⟨rfl, hb⟩
 have HS2 := hide (HS1.out.below hb)
 clear hb HC HS1
 have HC := hide (rskip_no c w2 i tFunction (by decide) n2 HS2.out.ps)
 go_wp2_with fail
 refine cm HC.out ?_
 rintro e w3 ⟨rfl, hb⟩
 have HS3 := hide (HS2.out.below hb)
 clear hb HC HS2
 have HC := hide (rskip_no c w3 i tIf (by decide) n3 HS3.out.ps)
 go_wp2_with fail
 refine cm HC.out ?_
 rintro e w4 ⟨rfl, hb⟩
 have HS4 := hide (HS3.out.below hb)
 clear hb HC HS3
 have hc := rnext_any c w4 i tWhile (by decide) HS4.out.ps
 rw [decide_eq_false n4] at hc
 have HC := hide hc
 clear hc
 go_wp2_with fail
 refine cm HC.out ?_
 rintro e w5 ⟨rfl, hb⟩
 have HS5 := hide (HS4.out.below hb)
 clear hb HC HS4
 have hc := rnext_any c w5 i tWith (by decide) HS5.out.ps
 rw [decide_eq_true hf] at hc
 have HC := hide hc
 clear hc
 go_wp2_with fail
 refine cm HC.out ?_
 rintro e w6 ⟨rfl, hb⟩
 have HS6 := hide (HS5.out.below hb)
 clear hb HC HS5
 have HQ := hide hs
 clear ho hs hF hN hK
 have hl := fx_lt HS6.out.ps.base.ends HS6.out.ps.lt hf (by decide)
 have hl3 := HS6.out.ps.base.len
 have HK0 := hide (HS6.out.kind HLO.out 8)
 have hc := rnext_any c _ i tWith (by decide) HK0.out.ps
 rw [decide_eq_true hf] at hc
 have HC := hide hc
 clear hc
 have nb := HS6.out.nd
 obtain ⟨c0, c1, c2, c3, cf⟩ := node_cells nb
 have cf0 := cf 0
 have cf3 := cf 3
 have hnl := lt_of_heap nb
 clear nb
 go_wp2_with fail
 refine cm HC.out ?_
 rintro e wx ⟨rfl, hb⟩
 have HK1 := hide (HK0.out.below hb)
 clear hb HC c0 c1 c2 c3 cf cf0 cf3 hnl
 have x1 := HK1.out.ps.c1
 have xf := HK1.out.ps.fz 1
 have hR := HK1.out.ps.rlt
 have hPN : c.P < w.heap.size := unhide HLT
 have nb := HK1.out.nd
 obtain ⟨c0, c1, c2, c3, cf⟩ := node_cells nb
 have cf0 := cf 0
 have cf3 := cf 3
 have hnl := lt_of_heap nb
 clear nb
 have HK2 := hide ((HK1.out.kind HLO.out 9).stepped HLT.out hl)
 cases hr : inParP c.l F d (i + 1) with
 | out => rw [hr] at HQ; exact absurd HQ.out HO.out
 | bad er pl =>
  exact zcai
 | ok t j =>
  have HC := hide (rhead_any HF.out _ d (i + 1) _ hd hr.symm (by nofun) HK2.out.ps); rw [hr] at HQ; have HQ2 : Hid (r = (deepP c.l F.st d j).bind fun s i2 => .ok (.mk 9 noText 0 [t, s]) i2) := unhide HQ; clear hr HQ
  go_wp2_with fail; refine cm HC.out ?_; rintro e wh ⟨⟨v, rfl, q, rfl, hn⟩, hp1, ha⟩; have HNB := hide ((ha.block _ (lt_of_heap HK2.out.nd) (by have := unhide HLT; omega)).trans HK2.out.nd)
  have HA0 := hide (HK2.out.ap.next ha); have HP0 := hide hp1; have HN0 := hide hn; have HZ0 := hide ha.size; clear hp1 ha HC hn c0 c1 c2 c3 cf cf0 cf3 hnl x1 xf
  cases hr : deepP c.l F.st d j with
  | out => rw [hr] at HQ2; exact absurd HQ2.out HO.out
  | bad er pl =>
   exact zcbd
  | ok s j2 =>
   have HC2 := hide (rstatement2_any HF.out wh d j _ hd hr.symm (by nofun) HP0.out); rw [hr] at HQ2; have hq : r = .ok (.mk 9 noText 0 [t, s]) j2 := unhide HQ2; subst hq; clear hr HQ2; go_wp2_with fail
   refine cm HC2.out ?_; rintro e wv ⟨⟨v, rfl, q2, rfl, hn2⟩, hp2, ha2⟩; have nb := (ha2.block _ (lt_of_heap HNB.out) (by have := unhide HLT; omega)).trans HNB.out
   obtain ⟨c0, c1, c2, c3, cf⟩ := node_cells nb; have cf3 := cf 3; have hnl := lt_of_heap nb; have hA := HA0.out.next ha2
   have HB : Hid (Below w.heap.size wv ((wv.setCell ⟨w.heap.size, 3, none⟩ (.slice (some ⟨wv.heap.size, 0, none⟩) 2 2)).alloc (.cells #[nPtr q, nPtr q2] 22))) := ((Below.refl w.heap.size wv).setCell (p := ⟨w.heap.size, 3, none⟩) (Nat.le_refl _) _).alloc (by simp; omega) _
   have HA := hide (hA.trans (Ap.of HB.out)); have HP := hide (hp2.ap HB.out HLO.out); have HZW := hide (lt_of_heap HK2.out.nd)
   have n1' := nats_two ⟨q, rfl, HN0.out⟩ ha2 (by have h1 := unhide HLT; have h2 := unhide HZW; omega) HZ0.out hn2
   have HN : Hid (NV w.heap.size ((wv.setCell ⟨w.heap.size, 3, none⟩ (.slice (some ⟨wv.heap.size, 0, none⟩) 2 2)).alloc (.cells #[nPtr q, nPtr q2] 22)) (.mk 9 noText 0 [t, s]) (nPtr w.heap.size)) := st_row (Nat.le_refl _) HZW.out (set1 wv w.heap.size _) (by simp) (Nat.le_trans HZ0.out ha2.size) (by rw [heap_set nb]; rfl) n1' rfl #[nPtr q, nPtr q2] rfl (by simp [maxLen])
   clear hp2 ha2 HC2 nb hA hn2 n1'; go_wp2_with fail; go_ret; exact ⟨⟨_, rfl, HN.out⟩, HP.out, HA.out⟩
end
theorem rpart_kd {l : List Tk} {F : Fns} {d q i j : Nat} {t : Tr} (h : rpartP l F d q i = .ok t j) : t.kd ≠ 15 := by
 by_cases hq : q = 1
 ·
  subst hq; have h' : rfuncP l F d i = .ok t j := h; unfold rfuncP at h'; obtain ⟨_, _, _, h'⟩ := bind_inv h'; obtain ⟨s, _, _, h'⟩ := bind_inv h'; unfold rfuncTail at h'; obtain ⟨ps, _, _, h'⟩ := bind_inv h'
  obtain ⟨b, _, _, h'⟩ := bind_inv h'
  cases h'
  show (5 : Int) ≠ 15
  decide
 ·
  have he : rpartP l F d q i = partP l F d q i := by
   match q with
   | 0 => rfl
   | 1 => exact absurd rfl hq
   | 2 => rfl
   | 3 => rfl
   | 4 => rfl
   | 5 => rfl
   | 6 => rfl
   | n + 7 => rfl
  rw [he] at h; exact part_kd h
theorem rfns_ok (l : List Tk) : ∀ k, FOk (rfns l k) := by
 intro k
 cases k with
 | zero => intro d i t j h; cases h
 | succ k =>
  intro d i t j h h15; have h' : rstatementP l (rfns l k) d i = .ok t j := h; unfold rstatementP at h'
  split at h'
  ·
   exact absurd h15 (rpart_kd h')
  ·
   exact zbft
structure RestC (c : PC) (F : Fns) : Prop where
 choice : ∀ w d i r, d ≤ 30 → fx c.l i = tIf → r = choiceP c.l F d i → r ≠ .out → Ps c w i 0 (-1) → Calls Tryz.prog 111 #[pPtr c, .int .i64 (d : Int)] w (QPost c w (NV w.heap.size) ZN r)
 attempt : ∀ w d i r, d ≤ 30 → fx c.l i = tTry → r = attemptP c.l F d i → r ≠ .out → Ps c w i 0 (-1) → Calls Tryz.prog 111 #[pPtr c, .int .i64 (d : Int)] w (QPost c w (NV w.heap.size) ZN r)
 decl : ∀ w d i r, d ≤ 30 → (fx c.l i = tVar ∨ fx c.l i = tLet ∨ fx c.l i = tConst) → r = declP c.l F d i → r ≠ .out → Ps c w i 0 (-1) → Calls Tryz.prog 111 #[pPtr c, .int .i64 (d : Int)] w (QPost c w (NV w.heap.size) ZN r)
theorem st_part {l : List Tk} {F : Fns} {d i : Nat} {r : PR Tr} {s : ByteArray} (q : Nat) (hf : fx l i = s) (hk : look2 stKeys s = some q) (hs : r = rstatementP l F d i) : r = rpartP l F d q i := by
 unfold rstatementP at hs
 rw [hf, hk] at hs
 exact hs
theorem tx_of {l : List Tk} {i : Nat} {s : ByteArray} (hs : s ≠ noText) (hf : fx l i = s) : (tkA l i).tx = s := ((fx_is hs).1 hf).2
theorem rst_any {c : PC} {F : Fns} (hF : RCt c F) (hN : ∃ k, FNx c.l k F) (hK : FOk F) (hR : RestC c F) (w : World) (d i : Nat) (r : PR Tr) (hd : d ≤ 30) (hs : r = rstatementP c.l F d i) (ho : r ≠ .out) (h : Ps c w i 0 (-1)) :
  Calls Tryz.prog 111 #[pPtr c, .int .i64 (d : Int)] w (QPost c w (NV w.heap.size) ZN r) := by
 by_cases n0 : fx c.l i = tLBrace
 ·
  exact rst_block hF hN hK w d i r hd n0 (st_part 2 n0 (by decide +kernel) hs) ho h
 by_cases n1 : fx c.l i = tSemi
 ·
  have h1 : r = (mustP c.l tSemi i).bind fun _ i1 => .ok (.mk 16 noText 0 []) i1 := st_part 3 n1 (by decide +kernel) hs; unfold mustP at h1; rw [if_pos n1] at h1; exact rst_empty hF hN hK w d i r hd n1 h1 ho h
 by_cases n2 : fx c.l i = tFunction
 ·
  have h1 : r = (mustP c.l tFunction i).bind fun _ i1 => (nameP c.l i1).bind fun s i2 => rfuncTail c.l F 5 s d i2 := st_part 1 n2 (by decide +kernel) hs; unfold mustP at h1; rw [if_pos n2] at h1
  exact rst_func hF hN hK w d i r hd n2 h1 ho h
 by_cases n3 : fx c.l i = tIf
 ·
  exact hR.choice w d i r hd n3 (st_part 4 n3 (by decide +kernel) hs) ho h
 by_cases n4 : fx c.l i = tWhile
 ·
  have h1 : r = behindP c.l F d i := st_part 5 n4 (by decide +kernel) hs; unfold behindP at h1; rw [tx_of (by decide) n4, show hdKind tWhile = 8 from by decide +kernel] at h1; exact rst_while hF hN hK w d i r hd n4 h1 ho h
 by_cases n5 : fx c.l i = tWith
 ·
  have h1 : r = behindP c.l F d i := st_part 5 n5 (by decide +kernel) hs; unfold behindP at h1; rw [tx_of (by decide) n5, show hdKind tWith = 9 from by decide +kernel] at h1; exact rst_with hF hN hK w d i r hd n5 h1 ho h
 by_cases n6 : fx c.l i = tTry
 ·
  exact hR.attempt w d i r hd n6 (st_part 7 n6 (by decide +kernel) hs) ho h
 by_cases n7 : fx c.l i = tVar
 ·
  exact hR.decl w d i r hd (Or.inl n7) (st_part 0 n7 (by decide +kernel) hs) ho h
 by_cases n8 : fx c.l i = tLet
 ·
  exact hR.decl w d i r hd (Or.inr (Or.inl n8)) (st_part 0 n8 (by decide +kernel) hs) ho h
 by_cases n9 : fx c.l i = tConst
 ·
  exact hR.decl w d i r hd (Or.inr (Or.inr n9)) (st_part 0 n9 (by decide +kernel) hs) ho h
 by_cases n10 : fx c.l i = tReturn
 ·
  have h1 : r = givingP c.l F d i := st_part 6 n10 (by decide +kernel) hs; unfold givingP at h1; rw [tx_of (by decide) n10, show hdKind tReturn = 10 from by decide +kernel] at h1
  have h2 : ((10 : Int) = 11 ∨ ¬ fx c.l (i + 1) = tSemi) ↔ ¬ fx c.l (i + 1) = tSemi := ⟨fun h => h.resolve_left (by decide), Or.inr⟩; simp only [h2] at h1; exact rst_return hF hN hK w d i r hd n10 h1 ho h
 by_cases n11 : fx c.l i = tThrow
 ·
  have h1 : r = givingP c.l F d i := st_part 6 n11 (by decide +kernel) hs; unfold givingP at h1; rw [tx_of (by decide) n11, show hdKind tThrow = 11 from by decide +kernel, if_pos (Or.inl rfl)] at h1
  exact rst_throw hF hN hK w d i r hd n11 h1 ho h
 have hno : look2 stKeys (fx c.l i) = none := by
  unfold look2 stKeys; simp [n0, n1, n2, n3, n4, n5, n6, n7, n8, n9, n10, n11]
 unfold rstatementP at hs
 rw [hno] at hs
 exact rst_expr hF hN hK w d i r hd n0 n1 n2 n3 n4 n5 n6 n7 n8 n9 n10 n11 hs ho h
section
variable (c : PC) (w : World) (i : Nat) (h : Ps c w i 0 (-1))
include c w i h
theorem rst_limit :
  Calls Tryz.prog 111 #[pPtr c, .int .i64 31] w (QPost c w (NV w.heap.size) ZN (badF (α := Tr) c.l 4 i)) := by
 have HC := hide (rfail_new c w i 4 (by decide) h)
 clear h
 go_enter Tryz.func111, Tryz.ntmps111
 go_wp2_with fail
 refine cm HC.out ?_
 rintro e w2 ⟨⟨v, rfl, q, rfl⟩, hp, he, ha⟩
 have HP2 := hide hp
 have HA2 := hide ha
 clear hp ha HC
 exact zbck
theorem rvalue_limit :
  Calls Tryz.prog 193 #[pPtr c, .int .i64 31] w (QPost c w (NV w.heap.size) ZN (badF (α := Tr) c.l 4 i)) := by
 have HC := hide (rok_new h)
 have HC2 := hide (rfail_new c w i 4 (by decide) h)
 clear h
 go_enter Tryz.func193, Tryz.ntmps193
 go_wp2_with fail
 refine cm HC.out ?_
 rintro e w1 ⟨rfl, rfl⟩
 clear HC
 go_wp2_with fail
 refine cm HC2.out ?_
 rintro e w2 ⟨⟨v, rfl, q, rfl⟩, hp, he, ha⟩
 have HP2 := hide hp
 have HA2 := hide ha
 clear hp ha HC2
 exact zbck
end
theorem rfns_does {c : PC} (hE : Ends c.l) (hR : ∀ F, RCt c F → (∃ k, FNx c.l k F) → FOk F → RestC c F) : ∀ k, RCt c (rfns c.l k) := by
 intro k
 induction k with
 | zero =>
  refine ⟨?_, ?_, ?_, ?_⟩
  ·
   intro w d i r hd hs ho h; unfold deepP at hs
   by_cases h30 : d = 30
   ·
    rw [if_pos h30] at hs; subst h30; rw [hs]; exact rst_limit c w i h
   ·
    rw [if_neg h30] at hs; exact absurd hs ho
  ·
   intro w d i r hd hs ho h; unfold deepP at hs
   by_cases h30 : d = 30
   ·
    rw [if_pos h30] at hs; subst h30; rw [hs]; exact rvalue_limit c w i h
   ·
    rw [if_neg h30] at hs; exact absurd hs ho
  ·
   intro w d i r g hd hs ho _ _ _; exact absurd hs ho
  ·
   intro w d i r hd hs ho _; exact absurd hs ho
 | succ k ih =>
  have hN : ∃ k', FNx c.l k' (rfns c.l k) := ⟨k, rfns_nx hE k⟩; have hK := rfns_ok c.l k; refine ⟨?_, ?_, ?_, ?_⟩
  ·
   intro w d i r hd hs ho h
   by_cases h30 : d = 30
   ·
    subst h30; have h1 : r = badF c.l 4 i := by unfold deepP at hs; rw [if_pos rfl] at hs; exact hs
    rw [h1]; exact rst_limit c w i h
   ·
    have h1 : r = rstatementP c.l (rfns c.l k) (d + 1) i := by unfold deepP at hs; rw [if_neg h30] at hs; exact hs
    have h2 := rst_any ih hN hK (hR _ ih hN hK) w (d + 1) i r (by omega) h1 ho h; have h3 : (((d + 1 : Nat) : Nat) : Int) = (d : Int) + 1 := by omega
    rw [h3] at h2; exact h2
  ·
   intro w d i r hd hs ho h; exact rvalue_any ih w d i r hd hs ho h
  ·
   intro w d i r g hd hs ho h hk hg; exact rpr_any ih w d i r g hd hs ho h hk hg
  ·
   intro w d i r hd hs ho h; exact rsingle_any ih hN hK w d i r hd hs ho h
theorem rst_if {c : PC} {F : Fns} (hF : RCt c F) (hN : ∃ k, FNx c.l k F) (hK : FOk F) (w : World) (d i : Nat) (r : PR Tr) (hd : d ≤ 30) (hf : fx c.l i = tIf) (hs : r = (inParP c.l F d (i + 1)).bind fun v i1 => (deepP c.l F.st d i1).bind fun s i2 => if fx c.l i2 = tElse then (deepP c.l F.st d (i2 + 1)).bind fun s2 i3 => .ok (.mk 7 noText 0 [v, s, s2]) i3 else .ok (.mk 7 noText 0 [v, s]) i2) (ho : r ≠ .out) (h : Ps c w i 0 (-1)) :
  Calls Tryz.prog 111 #[pPtr c, .int .i64 (d : Int)] w (QPost c w (NV w.heap.size) ZN r) := by
 have HLT := hide h.rlt
 have HLO := hide h.base.size
 have HO := hide ho
 have HF := hide hF
 have HNN := hide hN
 have HKK := hide hK
 have hdd : decide ((30 : Int) < (d : Int)) = false := decide_eq_false (by omega)
 have n0 : ¬ fx c.l i = tLBrace := by rw [hf]; decide
 have n1 : ¬ fx c.l i = tSemi := by rw [hf]; decide
 have n2 : ¬ fx c.l i = tFunction := by rw [hf]; decide
 have HS0 := hide (Stn.new h)
 have hc := rnext_any c (w.alloc nd0) i tLBrace (by decide) HS0.out.ps
 rw [decide_eq_false n0] at hc
 have HC := hide hc
 clear hc
 clear h
 go_enter Tryz.func111, Tryz.ntmps111
 go_wp2_with fail
 refine cm HC.out ?_
 rintro e w1 ⟨rfl, hb⟩
 have HS1 := hide (HS0.out.below hb)
 clear hb HC HS0
 have HC := hide (rskip_no c w1 i tSemi (by decide) n1 HS1.out.ps)
 go_wp2_with fail
 refine cm HC.out ?_
 rintro e w2 ⟨rfl, hb⟩
 have HS2 := hide (HS1.out.below hb)
 clear hb HC HS1
 have HC := hide (rskip_no c w2 i tFunction (by decide) n2 HS2.out.ps)
 go_wp2_with fail
 refine cm HC.out ?_
 rintro e w3 ⟨rfl, hb⟩
 have HS3 := hide (HS2.out.below hb)
 clear hb HC HS2
 have HC := hide (rskip_yes c w3 i tIf (by decide) hf HS3.out.ps)
 go_wp2_with fail
 refine cm HC.out ?_
 rintro e w4 ⟨rfl, hp, ha⟩
 have HS4 := hide (HS3.out.on HLT.out hp ha)
 clear hp ha HC HS3
 have HQ := hide hs
 clear ho hs hF hN hK
 obtain ⟨i0, hi0, hz0, hz1, hz2⟩ := info_parts info22
 have HK2 := hide (HS4.out.kind HLO.out 7)
 have hPN : c.P < w.heap.size := unhide HLT
 have nb := HS4.out.nd
 obtain ⟨c0, c1, c2, c3, cf⟩ := node_cells nb
 have cf0 := cf 0
 have cf3 := cf 3
 have hnl := lt_of_heap nb
 clear nb
 cases hr : inParP c.l F d (i + 1) with
 | out => rw [hr] at HQ; exact absurd HQ.out HO.out
 | bad er pl =>
  have HC := hide (rhead_any HF.out _ d (i + 1) _ hd hr.symm (by nofun) HK2.out.ps); rw [hr] at HQ; have hq : r = .bad er pl := unhide HQ; subst hq; clear hr HQ; go_wp2_with fail; refine cm HC.out ?_
  rintro e wh ⟨⟨v, rfl, q, rfl⟩, ⟨j, hp1⟩, he, ha⟩; have nb0 := (ha.block _ (lt_of_heap HK2.out.nd) (by have := unhide HLT; omega)).trans HK2.out.nd
  have hA0 := HK2.out.ap.next ha; have HC2 := hide (rstatement2_old c wh j er pl (d : Int) he hp1); have HNB := hide nb0; have HA0 := hide hA0; clear hp1 ha HC nb0 hA0 c0 c1 c2 c3 cf cf0 cf3 hnl; go_wp2_with fail
  refine cm HC2.out ?_; rintro e wv ⟨⟨v, rfl, q2, rfl⟩, ⟨j2, hp2⟩, _, ha2⟩; exact zbbq
 | ok t j =>
  have HC := hide (rhead_any HF.out _ d (i + 1) _ hd hr.symm (by nofun) HK2.out.ps); rw [hr] at HQ
  have HQ2 : Hid (r = (deepP c.l F.st d j).bind fun s i2 => if fx c.l i2 = tElse then (deepP c.l F.st d (i2 + 1)).bind fun s2 i3 => .ok (.mk 7 noText 0 [t, s, s2]) i3 else .ok (.mk 7 noText 0 [t, s]) i2) := unhide HQ
  clear hr HQ; go_wp2_with fail; refine cm HC.out ?_; rintro e wh ⟨⟨v, rfl, q, rfl, hn⟩, hp1, ha⟩; have HNB := hide ((ha.block _ (lt_of_heap HK2.out.nd) (by have := unhide HLT; omega)).trans HK2.out.nd)
  have HA0 := hide (HK2.out.ap.next ha); have HP0 := hide hp1; have HN0 := hide hn; have HZ0 := hide ha.size; clear hp1 ha HC hn c0 c1 c2 c3 cf cf0 cf3 hnl
  cases hr : deepP c.l F.st d j with
  | out => rw [hr] at HQ2; exact absurd HQ2.out HO.out
  | bad er pl =>
   have HC2 := hide (rstatement2_any HF.out wh d j _ hd hr.symm (by nofun) HP0.out); rw [hr] at HQ2; have hq : r = .bad er pl := unhide HQ2; subst hq; clear hr HQ2; go_wp2_with fail; refine cm HC2.out ?_
   rintro e wv ⟨⟨v, rfl, q2, rfl⟩, ⟨j2, hp2⟩, he, ha2⟩; exact zbbq
  | ok s j2 =>
   have HC2 := hide (rstatement2_any HF.out wh d j _ hd hr.symm (by nofun) HP0.out); rw [hr] at HQ2
   have HQ3 : Hid (r = if fx c.l j2 = tElse then (deepP c.l F.st d (j2 + 1)).bind fun s2 i3 => .ok (.mk 7 noText 0 [t, s, s2]) i3 else .ok (.mk 7 noText 0 [t, s]) j2) := unhide HQ2; clear hr HQ2; go_wp2_with fail
   refine cm HC2.out ?_; rintro e wv ⟨⟨v, rfl, q2, rfl, hn2⟩, hp2, ha2⟩; have nb := (ha2.block _ (lt_of_heap HNB.out) (by have := unhide HLT; omega)).trans HNB.out
   obtain ⟨c0, c1, c2, c3, cf⟩ := node_cells nb; have cf3 := cf 3; have hnl := lt_of_heap nb; have hA := HA0.out.next ha2
   have HB : Hid (Below w.heap.size wv ((wv.setCell ⟨w.heap.size, 3, none⟩ (.slice (some ⟨wv.heap.size, 0, none⟩) 2 2)).alloc (.cells #[nPtr q, nPtr q2] 22))) := ((Below.refl w.heap.size wv).setCell (p := ⟨w.heap.size, 3, none⟩) (Nat.le_refl _) _).alloc (by simp; omega) _
   have HA := hide (hA.trans (Ap.of HB.out)); have HP := hide (hp2.ap HB.out HLO.out); have HZW := hide (lt_of_heap HK2.out.nd)
   have n1' := nats_two ⟨q, rfl, HN0.out⟩ ha2 (by have h1 := unhide HLT; have h2 := unhide HZW; omega) HZ0.out hn2
   have HOP : Hid (Open w.heap.size ((wv.setCell ⟨w.heap.size, 3, none⟩ (.slice (some ⟨wv.heap.size, 0, none⟩) 2 2)).alloc (.cells #[nPtr q, nPtr q2] 22)) (.mk 7 noText 0 [t, s]) w.heap.size (.slice (some ⟨wv.heap.size, 0, none⟩) 2 2) [q, q2]) := st_open (Nat.le_refl _) HZW.out (set1 wv w.heap.size _) (by simp) (Nat.le_trans HZ0.out ha2.size) (by rw [heap_set nb]; rfl) n1' rfl #[nPtr q, nPtr q2] rfl (by simp [maxLen])
   clear hp2 ha2 HC2 nb hA hn2 n1'
   by_cases hx : fx c.l j2 = tElse
   ·
    rw [if_pos hx] at HQ3; have HC3 := hide (rskip_yes c _ j2 tElse (by decide) hx HP.out); clear hx; go_wp2_with fail; refine cm HC3.out ?_; rintro e w6 ⟨rfl, hp6, ha6⟩; have HP6 := hide hp6
    have HA6 := hide (HA.out.next ha6); have HO6 := hide (HOP.out.stay ha6 HLT.out); clear hp6 ha6 HC3 c0 c1 c2 c3 cf cf3 hnl HOP HA HP; obtain ⟨hc3, hcf, hcl⟩ := HO6.out.cell
    cases hr : deepP c.l F.st d (j2 + 1) with
    | out => rw [hr] at HQ3; exact absurd HQ3.out HO.out
    | bad er pl =>
     have HC := hide (rstatement2_any HF.out w6.drew d (j2 + 1) _ hd hr.symm (by nofun) HP6.out.drew); rw [hr] at HQ3; have hq : r = .bad er pl := unhide HQ3; subst hq; clear hr HQ3; go_wp2_with fail
     refine wp_region_any (by kernel_rfl) ?_; change wpAny _ _ _ _ _ _ _ (World.drew _); refine wt 0 (nPtr w.heap.size) ?_; refine wt 1 (nPtr w.heap.size) ?_; refine wt 2 (nPtr w.heap.size) ?_
     refine wt 3 (.pointer (some ⟨w.heap.size, 3, none⟩)) ?_; refine wt 5 (pPtr c) ?_; refine wt 6 (.int .i64 (d : Int)) ?_; refine wr2 4 7 (fun K hK => ?_) fun K hK => ?_
     ·
      go_simp; refine hK _ _ ?_; clear hK K; refine wr1 7 fun K hK => ?_; go_simp; refine cm HC.out ?_; rintro e wc ⟨⟨vc, rfl, pc, rfl⟩, ⟨jc, hpc⟩, he, ha⟩; have HAc := hide (HA6.out.drew.next ha); have HPc := hide hpc
      have HOc := hide (HO6.out.stay (((Ap.refl c.P w6.heap.size w6).drew).next ha) HLT.out); obtain ⟨gc3, gcf, gcl⟩ := HOc.out.cell; clear ha hpc; refine hK _ _ ?_; clear hK K; refine wr1 8 fun K hK => ?_; exact zbao
     ·
      go_simp; refine cm HC.out ?_; rintro e wc ⟨⟨vc, rfl, pc, rfl⟩, ⟨jc, hpc⟩, he, ha⟩; have HAc := hide (HA6.out.drew.next ha); have HPc := hide hpc
      have HOc := hide (HO6.out.stay (((Ap.refl c.P w6.heap.size w6).drew).next ha) HLT.out); obtain ⟨gc3, gcf, gcl⟩ := HOc.out.cell; clear ha hpc; refine hK _ _ ?_; clear hK K
      refine wr2 4 8 (fun K hK => ?_) fun K hK => ?_
      ·
       go_simp; refine hK _ _ ?_; clear hK K; refine wr1 8 fun K hK => ?_; exact zbao
      ·
       go_simp; refine hK _ _ ?_; clear hK K; refine wr1 4 fun K hK => ?_; exact zbao
    | ok s2 j3 =>
     have HC := hide (rstatement2_any HF.out w6.drew d (j2 + 1) _ hd hr.symm (by nofun) HP6.out.drew); rw [hr] at HQ3; have hq : r = .ok (.mk 7 noText 0 [t, s, s2]) j3 := unhide HQ3; subst hq; clear hr HQ3
     go_wp2_with fail; refine wp_region_any (by kernel_rfl) ?_; change wpAny _ _ _ _ _ _ _ (World.drew _); refine wt 0 (nPtr w.heap.size) ?_; refine wt 1 (nPtr w.heap.size) ?_; refine wt 2 (nPtr w.heap.size) ?_
     refine wt 3 (.pointer (some ⟨w.heap.size, 3, none⟩)) ?_; refine wt 5 (pPtr c) ?_; refine wt 6 (.int .i64 (d : Int)) ?_; refine wr2 4 7 (fun K hK => ?_) fun K hK => ?_
     ·
      go_simp; refine hK _ _ ?_; clear hK K; refine wr1 7 fun K hK => ?_; go_simp; refine cm HC.out ?_; rintro e wc ⟨⟨vc, rfl, pc, rfl, hnc⟩, hpc, ha⟩; have HAc := hide (HA6.out.drew.next ha); have HPc := hide hpc
      have HOc := hide (HO6.out.stay (((Ap.refl c.P w6.heap.size w6).drew).next ha) HLT.out)
      have HNc := hide (HO6.out.apart2 HA6.out.size (Nat.le_refl _) (NAts.cons hnc NAts.nil) (HO6.out.kb (((Ap.refl c.P w6.heap.size w6).drew).next ha) HLT.out)); obtain ⟨gc3, gcf, gcl⟩ := HOc.out.cell; clear ha hpc hnc
      refine hK _ _ ?_; clear hK K; refine wr1 8 fun K hK => ?_; exact zbal
     ·
      go_simp; refine cm HC.out ?_; rintro e wc ⟨⟨vc, rfl, pc, rfl, hnc⟩, hpc, ha⟩; have HAc := hide (HA6.out.drew.next ha); have HPc := hide hpc
      have HOc := hide (HO6.out.stay (((Ap.refl c.P w6.heap.size w6).drew).next ha) HLT.out)
      have HNc := hide (HO6.out.apart2 HA6.out.size (Nat.le_refl _) (NAts.cons hnc NAts.nil) (HO6.out.kb (((Ap.refl c.P w6.heap.size w6).drew).next ha) HLT.out)); obtain ⟨gc3, gcf, gcl⟩ := HOc.out.cell; clear ha hpc hnc
      refine hK _ _ ?_; clear hK K; refine wr2 4 8 (fun K hK => ?_) fun K hK => ?_
      ·
       go_simp; refine hK _ _ ?_; clear hK K; refine wr1 8 fun K hK => ?_; exact zbal
      ·
       go_simp; refine hK _ _ ?_; clear hK K; refine wr1 4 fun K hK => ?_; exact zbal
   ·
    rw [if_neg hx] at HQ3; have hq : r = .ok (.mk 7 noText 0 [t, s]) j2 := unhide HQ3; subst hq; have HC3 := hide (rskip_no c _ j2 tElse (by decide) hx HP.out); clear hx HQ3; go_wp2_with fail; refine cm HC3.out ?_
    rintro e wz ⟨rfl, hb⟩; have HA9 := hide (HA.out.next (Ap.of hb)); have HP9 := hide (HP.out.later hb); have HN9 := hide (HOP.out.stay (Ap.of hb) HLT.out).nv; clear hb HC3 c0 c1 c2 c3 cf cf3 hnl; go_wp2_with fail; go_ret
    exact ⟨⟨_, rfl, HN9.out⟩, HP9.out, HA9.out⟩
end Go.Proofs.YtoimgcjbcbhclaaGreatDoor
