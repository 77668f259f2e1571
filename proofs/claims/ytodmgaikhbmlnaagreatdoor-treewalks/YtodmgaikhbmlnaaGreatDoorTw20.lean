/-
  The document's parser: return, while, with.
-/
import Derived.Test.YtodmgaikhbmlnaaGreatDoorTw18
import Derived.Test.YtodmgaikhbmlnaaGreatDoorTw19
set_option maxRecDepth 100000
set_option maxHeartbeats 16000000
namespace Go.Proofs.YtodmgaikhbmlnaaGreatDoor
open Go.RowKit
structure Stk (c : PC) (w : World) (k : Int) (i : Nat) (W : World) : Prop where
 ps : Ps c W i 0 (-1)
 nd : W.heap[w.heap.size]? = some (nodeObj k noText 0 (.slice none 0 0))
 ap : Ap c.P w.heap.size w W
theorem Stk.below {c : PC} {w : World} {k : Int} {i : Nat} {W W' : World} (h : Stk c w k i W) (hb : Below W.heap.size W W') : Stk c w k i W' := ⟨h.ps.later hb, (hb.block _ (lt_of_heap h.nd)).trans h.nd, h.ap.next (Ap.of hb)⟩
theorem Stn.kind {c : PC} {w : World} {i : Nat} {W : World} (h : Stn c w i W) (hlo : c.lo ≤ w.heap.size) (k : Int) : Stk c w k i (W.setCell ⟨w.heap.size, 0, none⟩ (.int .i64 k)) :=
 ⟨h.ps.ap ((Below.refl w.heap.size W).setCell (p := ⟨w.heap.size, 0, none⟩) (Nat.le_refl _) _) hlo, by rw [heap_set h.nd]; rfl, h.ap.setCell (p := ⟨w.heap.size, 0, none⟩) (Or.inl (Nat.le_refl _)) _⟩
theorem Stk.kind {c : PC} {w : World} {k0 : Int} {i : Nat} {W : World} (h : Stk c w k0 i W) (hlo : c.lo ≤ w.heap.size) (k : Int) : Stk c w k i (W.setCell ⟨w.heap.size, 0, none⟩ (.int .i64 k)) :=
 ⟨h.ps.ap ((Below.refl w.heap.size W).setCell (p := ⟨w.heap.size, 0, none⟩) (Nat.le_refl _) _) hlo, by rw [heap_set h.nd]; rfl, h.ap.setCell (p := ⟨w.heap.size, 0, none⟩) (Or.inl (Nat.le_refl _)) _⟩
theorem Stk.stepped {c : PC} {w : World} {k : Int} {i : Nat} {W : World} (h : Stk c w k i W) (hP : c.P < w.heap.size) (hl : i + 1 < c.l.length) : Stk c w k (i + 1) (W.setCell ⟨c.P, 1, none⟩ (.int .i64 ((i : Int) + 1))) := by
 have hn : ((i : Int) + 1) = (((i + 1 : Nat)) : Int) := by omega
 rw [hn]
 exact ⟨h.ps.step hl, by rw [Below.heap_setCell _ _ _ _ (by first | exact Nat.ne_of_gt hP | exact Nat.ne_of_lt hP)]; exact h.nd, h.ap.setCell (p := ⟨c.P, 1, none⟩) (Or.inr rfl) _⟩
theorem rst_return {c : PC} {F : Fns} (hF : RCt c F) (hN : ∃ k, FNx c.l k F) (hK : FOk F) (w : World) (d i : Nat) (r : PR Tr) (hd : d ≤ 30) (hf : fx c.l i = tReturn) (hs : r = if ¬ fx c.l (i + 1) = tSemi then (deepP c.l F.vl d (i + 1)).bind fun v i1 => (mustP c.l tSemi i1).bind fun _ i2 => .ok (.mk 10 noText 0 [v]) i2 else (mustP c.l tSemi (i + 1)).bind fun _ i2 => .ok (.mk 10 noText 0 []) i2) (ho : r ≠ .out) (h : Ps c w i 0 (-1)) :
  Calls Tryz.prog 47 #[pPtr c, .int .i64 (d : Int)] w (QPost c w (NV w.heap.size) ZN r) := by
 have HLT := hide h.rlt
 have HLO := hide h.base.size
 have HO := hide ho
 have HF := hide hF
 have HNN := hide hN
 have HKK := hide hK
 have hdd : decide ((30 : Int) < (d : Int)) = false := decide_eq_false (by omega)
 have n0 : ¬ fx c.l i = tLBrace := by rw [hf]; decide
 have n1 : ¬ fx c.l i = tSemi := by rw [hf]; decide
 have n2 : ¬ fx c.l i = tFunction := by rw [hf]; decide
 have n3 : ¬ fx c.l i = tIf := by rw [hf]; decide
 have n4 : ¬ fx c.l i = tWhile := by rw [hf]; decide
 have n5 : ¬ fx c.l i = tWith := by rw [hf]; decide
 have n6 : ¬ fx c.l i = tTry := by rw [hf]; decide
 have n7 : ¬ fx c.l i = tVar := by rw [hf]; decide
 have n8 : ¬ fx c.l i = tLet := by rw [hf]; decide
 have n9 : ¬ fx c.l i = tConst := by rw [hf]; decide
 have HQ := hide hs
 clear hs
 have HS0 := hide (Stn.new h)
 have hc := rnext_any c (w.alloc nd0) i tLBrace (by decide) HS0.out.ps
 rw [decide_eq_false n0] at hc
 have HC := hide hc
 clear hc
 clear h
 go_enter Tryz.func47, Tryz.ntmps47
 go_wp2_with fail
 refine cm HC.out ?_
 rintro e w1 ⟨rfl, hb⟩
 have HS1 := hide (HS0.out.below hb)
 clear hb HC HS0
 have HC := hide (rskip_no c w1 i tSemi (by decide) n1 HS1.out.ps)
 go_wp2_with fail
 refine cm HC.out ?_
 rintro e w2 ⟨rfl, hb⟩
 have HS2 := hide (HS1.out.below hb)
 clear hb HC HS1
 have HC := hide (rskip_no c w2 i tFunction (by decide) n2 HS2.out.ps)
 go_wp2_with fail
 refine cm HC.out ?_
 rintro e w3 ⟨rfl, hb⟩
 have HS3 := hide (HS2.out.below hb)
 clear hb HC HS2
 have HC := hide (rskip_no c w3 i tIf (by decide) n3 HS3.out.ps)
 go_wp2_with fail
 refine cm HC.out ?_
 rintro e w4 ⟨rfl, hb⟩
 have HS4 := hide (HS3.out.below hb)
 clear hb HC HS3
 have hc := rnext_any c w4 i tWhile (by decide) HS4.out.ps
 rw [decide_eq_false n4] at hc
 have HC := hide hc
 clear hc
 go_wp2_with fail
 refine cm HC.out ?_
 rintro e w5 ⟨rfl, hb⟩
 have HS5 := hide (HS4.out.below hb)
 clear hb HC HS4
 have hc := rnext_any c w5 i tWith (by decide) HS5.out.ps
 rw [decide_eq_false n5] at hc
 have HC := hide hc
 clear hc
 go_wp2_with fail
 refine cm HC.out ?_
 rintro e w6 ⟨rfl, hb⟩
 have HS6 := hide (HS5.out.below hb)
 clear hb HC HS5
 have HC := hide (rskip_no c w6 i tTry (by decide) n6 HS6.out.ps)
 go_wp2_with fail
 refine cm HC.out ?_
 rintro e w7 ⟨rfl, hb⟩
 have HS7 := hide (HS6.out.below hb)
 clear hb HC HS6
 have hc := rnext_any c w7 i tVar (by decide) HS7.out.ps
 rw [decide_eq_false n7] at hc
 have HC := hide hc
 clear hc
 go_wp2_with fail
 refine cm HC.out ?_
 rintro e w8 ⟨rfl, hb⟩
 have HS8 := hide (HS7.out.below hb)
 clear hb HC HS7
 have hc := rnext_any c w8 i tLet (by decide) HS8.out.ps
 rw [decide_eq_false n8] at hc
 have HC := hide hc
 clear hc
 go_wp2_with fail
 refine cm HC.out ?_
 rintro e w9 ⟨rfl, hb⟩
 have HS9 := hide (HS8.out.below hb)
 clear hb HC HS8
 have hc := rnext_any c w9 i tConst (by decide) HS9.out.ps
 rw [decide_eq_false n9] at hc
 have HC := hide hc
 clear hc
 go_wp2_with fail
 refine cm HC.out ?_
 rintro e w10 ⟨rfl, hb⟩
 have HS10 := hide (HS9.out.below hb)
 clear hb HC HS9
 have HC := hide (rskip_yes c w10 i tReturn (by decide) hf HS10.out.ps)
 go_wp2_with fail
 refine cm HC.out ?_
 rintro e w11 ⟨rfl, hp, ha⟩
 have HS11 := hide (HS10.out.on HLT.out hp ha)
 clear hp ha HC HS10
 clear ho hF hN hK
 have HK0 := hide (HS11.out.kind HLO.out 10)
 have hc := rnext_any c _ (i + 1) tSemi (by decide) HK0.out.ps
 have nb := HS11.out.nd
 obtain ⟨c0, c1, c2, c3, cf⟩ := node_cells nb
 have cf0 := cf 0
 have cf3 := cf 3
 have hnl := lt_of_heap nb
 clear nb
 by_cases hx : fx c.l (i + 1) = tSemi
 ·
  rw [decide_eq_true hx] at hc; have HC := hide hc; rw [if_neg (fun h => h hx)] at HQ; clear hc hx; go_wp2_with fail; refine cm HC.out ?_; rintro e wx ⟨rfl, hb⟩; have HK1 := hide (HK0.out.below hb)
  clear hb HC c0 c1 c2 c3 cf cf0 cf3 hnl; have HA := hide HK1.out.ap; have HN : Hid (NV w.heap.size wx (.mk 10 noText 0 []) (nPtr w.heap.size)) := st_done (Nat.le_refl _) HK1.out.nd owns_nil NAts.nil
  have HC2 := hide (rmust_any c wx (i + 1) tSemi (by decide) HK1.out.ps); have HQ2 := HQ; clear HQ; go_wp2_with fail; refine cm HC2.out ?_; intro e wz hp
  cases hr2 : mustP c.l tSemi (i + 1) with
  | out => rw [hr2] at HQ2; exact absurd HQ2.out HO.out
  | bad er pl =>
   rw [hr2] at hp HQ2; have hq : r = .bad er pl := unhide HQ2; subst hq; obtain ⟨⟨v, rfl, rfl⟩, hp2, he, ha2⟩ := hp; have HP2 := hide hp2; have HA2 := hide (HA.out.next ha2); clear hp2 ha2 HC2 hr2; go_wp2_with fail; go_ret
   exact ⟨⟨_, rfl, _, rfl⟩, HP2.out, he, HA2.out⟩
  | ok x j2 =>
   rw [hr2] at hp HQ2; have hq : r = .ok (.mk 10 noText 0 []) j2 := unhide HQ2; subst hq; obtain ⟨⟨v, rfl, rfl⟩, hp2, ha2⟩ := hp; have HP2 := hide hp2; have HA2 := hide (HA.out.next ha2)
   have HN2 := hide (NV.later HN.out ha2 HLT.out); clear hp2 ha2 HC2 hr2; go_wp2_with fail; go_ret; exact ⟨⟨_, rfl, HN2.out⟩, HP2.out, HA2.out⟩
 ·
  rw [decide_eq_false hx] at hc; have HC := hide hc; rw [if_pos hx] at HQ; clear hc hx; go_wp2_with fail; refine cm HC.out ?_; rintro e wx ⟨rfl, hb⟩; have HK1 := hide (HK0.out.below hb)
  clear hb HC c0 c1 c2 c3 cf cf0 cf3 hnl
  cases hr : deepP c.l F.vl d (i + 1) with
  | out => rw [hr] at HQ; exact absurd HQ.out HO.out
  | bad er pl =>
   have HC := hide (HF.out.vl wx d (i + 1) _ hd hr.symm (by nofun) HK1.out.ps); rw [hr] at HQ; have hq : r = .bad er pl := unhide HQ; subst hq; clear hr HQ; go_wp2_with fail; refine cm HC.out ?_
   rintro e wv ⟨⟨v, rfl, q, rfl⟩, ⟨j, hp1⟩, he, ha⟩; have nb := (ha.block _ (lt_of_heap HK1.out.nd) (by have := unhide HLT; omega)).trans HK1.out.nd
   obtain ⟨c0, c1, c2, c3, cf⟩ := node_cells nb; have cf3 := cf 3; have hnl := lt_of_heap nb; have hA := HK1.out.ap.next ha
   have HB : Hid (Below w.heap.size wv ((wv.setCell ⟨w.heap.size, 3, none⟩ (.slice (some ⟨wv.heap.size, 0, none⟩) 1 1)).alloc (.cells #[nPtr q] 22))) := ((Below.refl w.heap.size wv).setCell (p := ⟨w.heap.size, 3, none⟩) (Nat.le_refl _) _).alloc (by simp; omega) _
   have HA := hide (hA.trans (Ap.of HB.out)); have HP := hide (hp1.ap HB.out HLO.out); have HC2 := hide (rmust_old c _ j er pl he tSemi HP.out); clear hp1 ha HC nb hA; go_wp2_with fail; refine cm HC2.out ?_
   rintro e wz ⟨rfl, rfl⟩; clear HC2; go_wp2_with fail; go_ret; exact ⟨⟨_, rfl, _, rfl⟩, ⟨j, HP.out⟩, he, HA.out⟩
  | ok t j =>
   have HC := hide (HF.out.vl wx d (i + 1) _ hd hr.symm (by nofun) HK1.out.ps); rw [hr] at HQ; have hq : r = (mustP c.l tSemi j).bind fun _ i2 => .ok (.mk 10 noText 0 [t]) i2 := unhide HQ; have HQ2 := hide hq
   clear hr HQ hq; go_wp2_with fail; refine cm HC.out ?_; rintro e wv ⟨⟨v, rfl, q, rfl, hn⟩, hp1, ha⟩; have nb := (ha.block _ (lt_of_heap HK1.out.nd) (by have := unhide HLT; omega)).trans HK1.out.nd
   obtain ⟨c0, c1, c2, c3, cf⟩ := node_cells nb; have cf3 := cf 3; have hnl := lt_of_heap nb; have hA := HK1.out.ap.next ha
   have HB : Hid (Below w.heap.size wv ((wv.setCell ⟨w.heap.size, 3, none⟩ (.slice (some ⟨wv.heap.size, 0, none⟩) 1 1)).alloc (.cells #[nPtr q] 22))) := ((Below.refl w.heap.size wv).setCell (p := ⟨w.heap.size, 3, none⟩) (Nat.le_refl _) _).alloc (by simp; omega) _
   have HA := hide (hA.trans (Ap.of HB.out)); have HP := hide (hp1.ap HB.out HLO.out)
   have HN : Hid (NV w.heap.size ((wv.setCell ⟨w.heap.size, 3, none⟩ (.slice (some ⟨wv.heap.size, 0, none⟩) 1 1)).alloc (.cells #[nPtr q] 22)) (.mk 10 noText 0 [t]) (nPtr w.heap.size)) := st_row (Nat.le_refl _) (lt_of_heap HK1.out.nd) (set1 wv w.heap.size _) (by simp) ha.size (by rw [heap_set nb]; rfl) (NAts.cons hn NAts.nil) rfl #[nPtr q] rfl (by simp [maxLen])
   have HC2 := hide (rmust_any c _ j tSemi (by decide) HP.out); clear hp1 ha HC nb hA hn; go_wp2_with fail; refine cm HC2.out ?_; intro e wz hp
   cases hr2 : mustP c.l tSemi j with
   | out => rw [hr2] at HQ2; exact absurd HQ2.out HO.out
   | bad er pl =>
    rw [hr2] at hp HQ2; have hq : r = .bad er pl := unhide HQ2; subst hq; obtain ⟨⟨v, rfl, rfl⟩, hp2, he, ha2⟩ := hp; have HP2 := hide hp2; have HA2 := hide (HA.out.next ha2); clear hp2 ha2 HC2 hr2; go_wp2_with fail
    go_ret; exact ⟨⟨_, rfl, _, rfl⟩, HP2.out, he, HA2.out⟩
   | ok x j2 =>
    rw [hr2] at hp HQ2; have hq : r = .ok (.mk 10 noText 0 [t]) j2 := unhide HQ2; subst hq; obtain ⟨⟨v, rfl, rfl⟩, hp2, ha2⟩ := hp; have HP2 := hide hp2; have HA2 := hide (HA.out.next ha2)
    have HN2 := hide (NV.later HN.out ha2 HLT.out); clear hp2 ha2 HC2 hr2; go_wp2_with fail; go_ret; exact ⟨⟨_, rfl, HN2.out⟩, HP2.out, HA2.out⟩
theorem rst_while {c : PC} {F : Fns} (hF : RCt c F) (hN : ∃ k, FNx c.l k F) (hK : FOk F) (w : World) (d i : Nat) (r : PR Tr) (hd : d ≤ 30) (hf : fx c.l i = tWhile) (hs : r = (inParP c.l F d (i + 1)).bind fun v i1 => (deepP c.l F.st d i1).bind fun s i2 => .ok (.mk 8 noText 0 [v, s]) i2) (ho : r ≠ .out) (h : Ps c w i 0 (-1)) :
  Calls Tryz.prog 47 #[pPtr c, .int .i64 (d : Int)] w (QPost c w (NV w.heap.size) ZN r) := by
 have HLT := hide h.rlt
 have HLO := hide h.base.size
 have HO := hide ho
 have HF := hide hF
 have HNN := hide hN
 have HKK := hide hK
 have hdd : decide ((30 : Int) < (d : Int)) = false := decide_eq_false (by omega)
 have n0 : ¬ fx c.l i = tLBrace := by rw [hf]; decide
 have n1 : ¬ fx c.l i = tSemi := by rw [hf]; decide
 have n2 : ¬ fx c.l i = tFunction := by rw [hf]; decide
 have n3 : ¬ fx c.l i = tIf := by rw [hf]; decide
 have HS0 := hide (Stn.new h)
 have hc := rnext_any c (w.alloc nd0) i tLBrace (by decide) HS0.out.ps
 rw [decide_eq_false n0] at hc
 have HC := hide hc
 clear hc
 clear h
 go_enter Tryz.func47, Tryz.ntmps47
 go_wp2_with fail
 refine cm HC.out ?_
 rintro e w1 ⟨rfl, hb⟩
 have HS1 := hide (HS0.out.below hb)
 clear hb HC HS0
 have HC := hide (rskip_no c w1 i tSemi (by decide) n1 HS1.out.ps)
 go_wp2_with fail
 refine cm HC.out ?_
 rintro e w2 ⟨rfl, hb⟩
 have HS2 := hide (HS1.out.below hb)
 clear hb HC HS1
 have HC := hide (rskip_no c w2 i tFunction (by decide) n2 HS2.out.ps)
 go_wp2_with fail
 refine cm HC.out ?_
 rintro e w3 ⟨rfl, hb⟩
 have HS3 := hide (HS2.out.below hb)
 clear hb HC HS2
 have HC := hide (rskip_no c w3 i tIf (by decide) n3 HS3.out.ps)
 go_wp2_with fail
 refine cm HC.out ?_
 rintro e w4 ⟨rfl, hb⟩
 have HS4 := hide (HS3.out.below hb)
 clear hb HC HS3
 have hc := rnext_any c w4 i tWhile (by decide) HS4.out.ps
 rw [decide_eq_true hf] at hc
 have HC := hide hc
 clear hc
 go_wp2_with fail
 refine cm HC.out ?_
 rintro e w5 ⟨rfl, hb⟩
 have HS5 := hide (HS4.out.below hb)
 clear hb HC HS4
 have HQ := hide hs
 clear ho hs hF hN hK
 have hl := fx_lt HS5.out.ps.base.ends HS5.out.ps.lt hf (by decide)
 have hl3 := HS5.out.ps.base.len
 have HK0 := hide (HS5.out.kind HLO.out 8)
 have hc := rnext_any c _ i tWith (by decide) HK0.out.ps
 rw [decide_eq_false (by rw [hf]; decide)] at hc
 have HC := hide hc
 clear hc
 have nb := HS5.out.nd
 obtain ⟨c0, c1, c2, c3, cf⟩ := node_cells nb
 have cf0 := cf 0
 have cf3 := cf 3
 have hnl := lt_of_heap nb
 clear nb
 go_wp2_with fail
 refine cm HC.out ?_
 rintro e wx ⟨rfl, hb⟩
 have HK1 := hide (HK0.out.below hb)
 clear hb HC c0 c1 c2 c3 cf cf0 cf3 hnl
 have x1 := HK1.out.ps.c1
 have xf := HK1.out.ps.fz 1
 have hR := HK1.out.ps.rlt
 have hPN : c.P < w.heap.size := unhide HLT
 have nb := HK1.out.nd
 obtain ⟨c0, c1, c2, c3, cf⟩ := node_cells nb
 have cf0 := cf 0
 have cf3 := cf 3
 have hnl := lt_of_heap nb
 clear nb
 have HK2 := hide (HK1.out.stepped HLT.out hl)
 cases hr : inParP c.l F d (i + 1) with
 | out => rw [hr] at HQ; exact absurd HQ.out HO.out
 | bad er pl =>
  have HC := hide (rhead_any HF.out _ d (i + 1) _ hd hr.symm (by nofun) HK2.out.ps); rw [hr] at HQ; have hq : r = .bad er pl := unhide HQ; subst hq; clear hr HQ; go_wp2_with fail; refine cm HC.out ?_
  rintro e wh ⟨⟨v, rfl, q, rfl⟩, ⟨j, hp1⟩, he, ha⟩; have nb0 := (ha.block _ (lt_of_heap HK2.out.nd) (by have := unhide HLT; omega)).trans HK2.out.nd
  have hA0 := HK2.out.ap.next ha; have HC2 := hide (rstatement2_old c wh j er pl (d : Int) he hp1); have HNB := hide nb0; have HA0 := hide hA0; clear hp1 ha HC nb0 hA0 c0 c1 c2 c3 cf cf0 cf3 hnl x1 xf; go_wp2_with fail
  refine cm HC2.out ?_; rintro e wv ⟨⟨v, rfl, q2, rfl⟩, ⟨j2, hp2⟩, _, ha2⟩; have nb := (ha2.block _ (lt_of_heap HNB.out) (by have := unhide HLT; omega)).trans HNB.out
  obtain ⟨c0, c1, c2, c3, cf⟩ := node_cells nb; have cf3 := cf 3; have hnl := lt_of_heap nb; have hA := HA0.out.next ha2
  have HB : Hid (Below w.heap.size wv ((wv.setCell ⟨w.heap.size, 3, none⟩ (.slice (some ⟨wv.heap.size, 0, none⟩) 2 2)).alloc (.cells #[nPtr q, nPtr q2] 22))) := ((Below.refl w.heap.size wv).setCell (p := ⟨w.heap.size, 3, none⟩) (Nat.le_refl _) _).alloc (by simp; omega) _
  have HA := hide (hA.trans (Ap.of HB.out)); have HP := hide (hp2.ap HB.out HLO.out); clear hp2 ha2 HC2 nb hA; go_wp2_with fail; go_ret; exact ⟨⟨_, rfl, _, rfl⟩, ⟨j2, HP.out⟩, he, HA.out⟩
 | ok t j =>
  have HC := hide (rhead_any HF.out _ d (i + 1) _ hd hr.symm (by nofun) HK2.out.ps); rw [hr] at HQ; have HQ2 : Hid (r = (deepP c.l F.st d j).bind fun s i2 => .ok (.mk 8 noText 0 [t, s]) i2) := unhide HQ; clear hr HQ
  go_wp2_with fail; refine cm HC.out ?_; rintro e wh ⟨⟨v, rfl, q, rfl, hn⟩, hp1, ha⟩; have HNB := hide ((ha.block _ (lt_of_heap HK2.out.nd) (by have := unhide HLT; omega)).trans HK2.out.nd)
  have HA0 := hide (HK2.out.ap.next ha); have HP0 := hide hp1; have HN0 := hide hn; have HZ0 := hide ha.size; clear hp1 ha HC hn c0 c1 c2 c3 cf cf0 cf3 hnl x1 xf
  cases hr : deepP c.l F.st d j with
  | out => rw [hr] at HQ2; exact absurd HQ2.out HO.out
  | bad er pl =>
   have HC2 := hide (rstatement2_any HF.out wh d j _ hd hr.symm (by nofun) HP0.out); rw [hr] at HQ2; have hq : r = .bad er pl := unhide HQ2; subst hq; clear hr HQ2; go_wp2_with fail; refine cm HC2.out ?_
   rintro e wv ⟨⟨v, rfl, q2, rfl⟩, ⟨j2, hp2⟩, he, ha2⟩; have nb := (ha2.block _ (lt_of_heap HNB.out) (by have := unhide HLT; omega)).trans HNB.out
   obtain ⟨c0, c1, c2, c3, cf⟩ := node_cells nb; have cf3 := cf 3; have hnl := lt_of_heap nb; have hA := HA0.out.next ha2
   have HB : Hid (Below w.heap.size wv ((wv.setCell ⟨w.heap.size, 3, none⟩ (.slice (some ⟨wv.heap.size, 0, none⟩) 2 2)).alloc (.cells #[nPtr q, nPtr q2] 22))) := ((Below.refl w.heap.size wv).setCell (p := ⟨w.heap.size, 3, none⟩) (Nat.le_refl _) _).alloc (by simp; omega) _
   have HA := hide (hA.trans (Ap.of HB.out)); have HP := hide (hp2.ap HB.out HLO.out); clear hp2 ha2 HC2 nb hA; go_wp2_with fail; go_ret; exact ⟨⟨_, rfl, _, rfl⟩, ⟨j2, HP.out⟩, he, HA.out⟩
  | ok s j2 =>
   have HC2 := hide (rstatement2_any HF.out wh d j _ hd hr.symm (by nofun) HP0.out); rw [hr] at HQ2; have hq : r = .ok (.mk 8 noText 0 [t, s]) j2 := unhide HQ2; subst hq; clear hr HQ2; go_wp2_with fail
   refine cm HC2.out ?_; rintro e wv ⟨⟨v, rfl, q2, rfl, hn2⟩, hp2, ha2⟩; have nb := (ha2.block _ (lt_of_heap HNB.out) (by have := unhide HLT; omega)).trans HNB.out
   obtain ⟨c0, c1, c2, c3, cf⟩ := node_cells nb; have cf3 := cf 3; have hnl := lt_of_heap nb; have hA := HA0.out.next ha2
   have HB : Hid (Below w.heap.size wv ((wv.setCell ⟨w.heap.size, 3, none⟩ (.slice (some ⟨wv.heap.size, 0, none⟩) 2 2)).alloc (.cells #[nPtr q, nPtr q2] 22))) := ((Below.refl w.heap.size wv).setCell (p := ⟨w.heap.size, 3, none⟩) (Nat.le_refl _) _).alloc (by simp; omega) _
   have HA := hide (hA.trans (Ap.of HB.out)); have HP := hide (hp2.ap HB.out HLO.out); have HZW := hide (lt_of_heap HK2.out.nd)
   have n1' := nv_at (NV.later ⟨q, rfl, HN0.out⟩ ha2 (by have h1 := unhide HLT; have h2 := unhide HZW; omega))
   have n2' := NAt.mono (J := fun b => _ ≤ b) (fun b hb _ => Nat.le_trans HZ0.out hb) _ _ hn2
   have HN : Hid (NV w.heap.size ((wv.setCell ⟨w.heap.size, 3, none⟩ (.slice (some ⟨wv.heap.size, 0, none⟩) 2 2)).alloc (.cells #[nPtr q, nPtr q2] 22)) (.mk 8 noText 0 [t, s]) (nPtr w.heap.size)) := st_row (Nat.le_refl _) HZW.out (set1 wv w.heap.size _) (by simp) (Nat.le_trans HZ0.out ha2.size) (by rw [heap_set nb]; rfl) (NAts.cons n1' (NAts.cons n2' NAts.nil)) rfl #[nPtr q, nPtr q2] rfl (by simp [maxLen])
   clear hp2 ha2 HC2 nb hA hn2 n1' n2'; go_wp2_with fail; go_ret; exact ⟨⟨_, rfl, HN.out⟩, HP.out, HA.out⟩
theorem rst_with {c : PC} {F : Fns} (hF : RCt c F) (hN : ∃ k, FNx c.l k F) (hK : FOk F) (w : World) (d i : Nat) (r : PR Tr) (hd : d ≤ 30) (hf : fx c.l i = tWith) (hs : r = (inParP c.l F d (i + 1)).bind fun v i1 => (deepP c.l F.st d i1).bind fun s i2 => .ok (.mk 9 noText 0 [v, s]) i2) (ho : r ≠ .out) (h : Ps c w i 0 (-1)) :
  Calls Tryz.prog 47 #[pPtr c, .int .i64 (d : Int)] w (QPost c w (NV w.heap.size) ZN r) := by
 have HLT := hide h.rlt
 have HLO := hide h.base.size
 have HO := hide ho
 have HF := hide hF
 have HNN := hide hN
 have HKK := hide hK
 have hdd : decide ((30 : Int) < (d : Int)) = false := decide_eq_false (by omega)
 have n0 : ¬ fx c.l i = tLBrace := by rw [hf]; decide
 have n1 : ¬ fx c.l i = tSemi := by rw [hf]; decide
 have n2 : ¬ fx c.l i = tFunction := by rw [hf]; decide
 have n3 : ¬ fx c.l i = tIf := by rw [hf]; decide
 have n4 : ¬ fx c.l i = tWhile := by rw [hf]; decide
 have HS0 := hide (Stn.new h)
 have hc := rnext_any c (w.alloc nd0) i tLBrace (by decide) HS0.out.ps
 rw [decide_eq_false n0] at hc
 have HC := hide hc
 clear hc
 clear h
 go_enter Tryz.func47, Tryz.ntmps47
 go_wp2_with fail
 refine cm HC.out ?_
 rintro e w1 ⟨rfl, hb⟩
 have HS1 := hide (HS0.out.below hb)
 clear hb HC HS0
 have HC := hide (rskip_no c w1 i tSemi (by decide) n1 HS1.out.ps)
 go_wp2_with fail
 refine cm HC.out ?_
 rintro e w2 ⟨rfl, hb⟩
 have HS2 := hide (HS1.out.below hb)
 clear hb HC HS1
 have HC := hide (rskip_no c w2 i tFunction (by decide) n2 HS2.out.ps)
 go_wp2_with fail
 refine cm HC.out ?_
 rintro e w3 ⟨rfl, hb⟩
 have HS3 := hide (HS2.out.below hb)
 clear hb HC HS2
 have HC := hide (rskip_no c w3 i tIf (by decide) n3 HS3.out.ps)
 go_wp2_with fail
 refine cm HC.out ?_
 rintro e w4 ⟨rfl, hb⟩
 have HS4 := hide (HS3.out.below hb)
 clear hb HC HS3
 have hc := rnext_any c w4 i tWhile (by decide) HS4.out.ps
 rw [decide_eq_false n4] at hc
 have HC := hide hc
 clear hc
 go_wp2_with fail
 refine cm HC.out ?_
 rintro e w5 ⟨rfl, hb⟩
 have HS5 := hide (HS4.out.below hb)
 clear hb HC HS4
 have hc := rnext_any c w5 i tWith (by decide) HS5.out.ps
 rw [decide_eq_true hf] at hc
 have HC := hide hc
 clear hc
 go_wp2_with fail
 refine cm HC.out ?_
 rintro e w6 ⟨rfl, hb⟩
 have HS6 := hide (HS5.out.below hb)
 clear hb HC HS5
 have HQ := hide hs
 clear ho hs hF hN hK
 have hl := fx_lt HS6.out.ps.base.ends HS6.out.ps.lt hf (by decide)
 have hl3 := HS6.out.ps.base.len
 have HK0 := hide (HS6.out.kind HLO.out 8)
 have hc := rnext_any c _ i tWith (by decide) HK0.out.ps
 rw [decide_eq_true hf] at hc
 have HC := hide hc
 clear hc
 have nb := HS6.out.nd
 obtain ⟨c0, c1, c2, c3, cf⟩ := node_cells nb
 have cf0 := cf 0
 have cf3 := cf 3
 have hnl := lt_of_heap nb
 clear nb
 go_wp2_with fail
 refine cm HC.out ?_
 rintro e wx ⟨rfl, hb⟩
 have HK1 := hide (HK0.out.below hb)
 clear hb HC c0 c1 c2 c3 cf cf0 cf3 hnl
 have x1 := HK1.out.ps.c1
 have xf := HK1.out.ps.fz 1
 have hR := HK1.out.ps.rlt
 have hPN : c.P < w.heap.size := unhide HLT
 have nb := HK1.out.nd
 obtain ⟨c0, c1, c2, c3, cf⟩ := node_cells nb
 have cf0 := cf 0
 have cf3 := cf 3
 have hnl := lt_of_heap nb
 clear nb
 have HK2 := hide ((HK1.out.kind HLO.out 9).stepped HLT.out hl)
 cases hr : inParP c.l F d (i + 1) with
 | out => rw [hr] at HQ; exact absurd HQ.out HO.out
 | bad er pl =>
  have HC := hide (rhead_any HF.out _ d (i + 1) _ hd hr.symm (by nofun) HK2.out.ps); rw [hr] at HQ; have hq : r = .bad er pl := unhide HQ; subst hq; clear hr HQ; go_wp2_with fail; refine cm HC.out ?_
  rintro e wh ⟨⟨v, rfl, q, rfl⟩, ⟨j, hp1⟩, he, ha⟩; have nb0 := (ha.block _ (lt_of_heap HK2.out.nd) (by have := unhide HLT; omega)).trans HK2.out.nd
  have hA0 := HK2.out.ap.next ha; have HC2 := hide (rstatement2_old c wh j er pl (d : Int) he hp1); have HNB := hide nb0; have HA0 := hide hA0; clear hp1 ha HC nb0 hA0 c0 c1 c2 c3 cf cf0 cf3 hnl x1 xf; go_wp2_with fail
  refine cm HC2.out ?_; rintro e wv ⟨⟨v, rfl, q2, rfl⟩, ⟨j2, hp2⟩, _, ha2⟩; have nb := (ha2.block _ (lt_of_heap HNB.out) (by have := unhide HLT; omega)).trans HNB.out
  obtain ⟨c0, c1, c2, c3, cf⟩ := node_cells nb; have cf3 := cf 3; have hnl := lt_of_heap nb; have hA := HA0.out.next ha2
  have HB : Hid (Below w.heap.size wv ((wv.setCell ⟨w.heap.size, 3, none⟩ (.slice (some ⟨wv.heap.size, 0, none⟩) 2 2)).alloc (.cells #[nPtr q, nPtr q2] 22))) := ((Below.refl w.heap.size wv).setCell (p := ⟨w.heap.size, 3, none⟩) (Nat.le_refl _) _).alloc (by simp; omega) _
  have HA := hide (hA.trans (Ap.of HB.out)); have HP := hide (hp2.ap HB.out HLO.out); clear hp2 ha2 HC2 nb hA; go_wp2_with fail; go_ret; exact ⟨⟨_, rfl, _, rfl⟩, ⟨j2, HP.out⟩, he, HA.out⟩
 | ok t j =>
  have HC := hide (rhead_any HF.out _ d (i + 1) _ hd hr.symm (by nofun) HK2.out.ps); rw [hr] at HQ; have HQ2 : Hid (r = (deepP c.l F.st d j).bind fun s i2 => .ok (.mk 9 noText 0 [t, s]) i2) := unhide HQ; clear hr HQ
  go_wp2_with fail; refine cm HC.out ?_; rintro e wh ⟨⟨v, rfl, q, rfl, hn⟩, hp1, ha⟩; have HNB := hide ((ha.block _ (lt_of_heap HK2.out.nd) (by have := unhide HLT; omega)).trans HK2.out.nd)
  have HA0 := hide (HK2.out.ap.next ha); have HP0 := hide hp1; have HN0 := hide hn; have HZ0 := hide ha.size; clear hp1 ha HC hn c0 c1 c2 c3 cf cf0 cf3 hnl x1 xf
  cases hr : deepP c.l F.st d j with
  | out => rw [hr] at HQ2; exact absurd HQ2.out HO.out
  | bad er pl =>
   have HC2 := hide (rstatement2_any HF.out wh d j _ hd hr.symm (by nofun) HP0.out); rw [hr] at HQ2; have hq : r = .bad er pl := unhide HQ2; subst hq; clear hr HQ2; go_wp2_with fail; refine cm HC2.out ?_
   rintro e wv ⟨⟨v, rfl, q2, rfl⟩, ⟨j2, hp2⟩, he, ha2⟩; have nb := (ha2.block _ (lt_of_heap HNB.out) (by have := unhide HLT; omega)).trans HNB.out
   obtain ⟨c0, c1, c2, c3, cf⟩ := node_cells nb; have cf3 := cf 3; have hnl := lt_of_heap nb; have hA := HA0.out.next ha2
   have HB : Hid (Below w.heap.size wv ((wv.setCell ⟨w.heap.size, 3, none⟩ (.slice (some ⟨wv.heap.size, 0, none⟩) 2 2)).alloc (.cells #[nPtr q, nPtr q2] 22))) := ((Below.refl w.heap.size wv).setCell (p := ⟨w.heap.size, 3, none⟩) (Nat.le_refl _) _).alloc (by simp; omega) _
   have HA := hide (hA.trans (Ap.of HB.out)); have HP := hide (hp2.ap HB.out HLO.out); clear hp2 ha2 HC2 nb hA; go_wp2_with fail; go_ret; exact ⟨⟨_, rfl, _, rfl⟩, ⟨j2, HP.out⟩, he, HA.out⟩
  | ok s j2 =>
   have HC2 := hide (rstatement2_any HF.out wh d j _ hd hr.symm (by nofun) HP0.out); rw [hr] at HQ2; have hq : r = .ok (.mk 9 noText 0 [t, s]) j2 := unhide HQ2; subst hq; clear hr HQ2; go_wp2_with fail
   refine cm HC2.out ?_; rintro e wv ⟨⟨v, rfl, q2, rfl, hn2⟩, hp2, ha2⟩; have nb := (ha2.block _ (lt_of_heap HNB.out) (by have := unhide HLT; omega)).trans HNB.out
   obtain ⟨c0, c1, c2, c3, cf⟩ := node_cells nb; have cf3 := cf 3; have hnl := lt_of_heap nb; have hA := HA0.out.next ha2
   have HB : Hid (Below w.heap.size wv ((wv.setCell ⟨w.heap.size, 3, none⟩ (.slice (some ⟨wv.heap.size, 0, none⟩) 2 2)).alloc (.cells #[nPtr q, nPtr q2] 22))) := ((Below.refl w.heap.size wv).setCell (p := ⟨w.heap.size, 3, none⟩) (Nat.le_refl _) _).alloc (by simp; omega) _
   have HA := hide (hA.trans (Ap.of HB.out)); have HP := hide (hp2.ap HB.out HLO.out); have HZW := hide (lt_of_heap HK2.out.nd)
   have n1' := nv_at (NV.later ⟨q, rfl, HN0.out⟩ ha2 (by have h1 := unhide HLT; have h2 := unhide HZW; omega))
   have n2' := NAt.mono (J := fun b => _ ≤ b) (fun b hb _ => Nat.le_trans HZ0.out hb) _ _ hn2
   have HN : Hid (NV w.heap.size ((wv.setCell ⟨w.heap.size, 3, none⟩ (.slice (some ⟨wv.heap.size, 0, none⟩) 2 2)).alloc (.cells #[nPtr q, nPtr q2] 22)) (.mk 9 noText 0 [t, s]) (nPtr w.heap.size)) := st_row (Nat.le_refl _) HZW.out (set1 wv w.heap.size _) (by simp) (Nat.le_trans HZ0.out ha2.size) (by rw [heap_set nb]; rfl) (NAts.cons n1' (NAts.cons n2' NAts.nil)) rfl #[nPtr q, nPtr q2] rfl (by simp [maxLen])
   clear hp2 ha2 HC2 nb hA hn2 n1' n2'; go_wp2_with fail; go_ret; exact ⟨⟨_, rfl, HN.out⟩, HP.out, HA.out⟩
end Go.Proofs.YtodmgaikhbmlnaaGreatDoor
