/-
  The document's parser: try (a).
-/
import Derived.Test.YtodmgaikhbmlnaaGreatDoorTw20
import Derived.Test.YtodmgaikhbmlnaaGreatDoorTw22
set_option maxRecDepth 100000
set_option maxHeartbeats 16000000
namespace Go.Proofs.YtodmgaikhbmlnaaGreatDoor
open Go.RowKit
theorem rst_try_a {c : PC} {F : Fns} (hF : RCt c F) (hN : ∃ k, FNx c.l k F) (hK : FOk F) (w : World) (d i : Nat) (r : PR Tr) (hd : d ≤ 30) (er : Int) (pl : Nat) (hf : fx c.l i = tTry) (hb0 : blockP c.l F d (i + 1) = .bad er pl) (hs : r = (blockP c.l F d (i + 1)).bind fun b i1 => (catchP c.l F d i1).bind fun cc i2 => (finallyP c.l F d i2).bind fun f i3 => if cc.length + f.length = 0 then badF c.l 3 i3 else .ok (.mk 12 noText 0 (b :: (cc ++ f))) i3) (ho : r ≠ .out) (h : Ps c w i 0 (-1)) :
  Calls Tryz.prog 47 #[pPtr c, .int .i64 (d : Int)] w (QPost c w (NV w.heap.size) ZN r) := by
 have HLT := hide h.rlt
 have HLO := hide h.base.size
 have HO := hide ho
 have HF := hide hF
 have HNN := hide hN
 have HKK := hide hK
 have hdd : decide ((30 : Int) < (d : Int)) = false := decide_eq_false (by omega)
 have n0 : ¬ fx c.l i = tLBrace := by rw [hf]; decide
 have n1 : ¬ fx c.l i = tSemi := by rw [hf]; decide
 have n2 : ¬ fx c.l i = tFunction := by rw [hf]; decide
 have n3 : ¬ fx c.l i = tIf := by rw [hf]; decide
 have n4 : ¬ fx c.l i = tWhile := by rw [hf]; decide
 have n5 : ¬ fx c.l i = tWith := by rw [hf]; decide
 have HQ := hide hs
 clear hs
 have HS0 := hide (Stn.new h)
 have hc := rnext_any c (w.alloc nd0) i tLBrace (by decide) HS0.out.ps
 rw [decide_eq_false n0] at hc
 have HC := hide hc
 clear hc
 clear h
 go_enter Tryz.func47, Tryz.ntmps47
 go_wp2_with fail
 refine cm HC.out ?_
 rintro e w1 ⟨rfl, hb⟩
 have HS1 := hide (HS0.out.below hb)
 clear hb HC HS0
 have HC := hide (rskip_no c w1 i tSemi (by decide) n1 HS1.out.ps)
 go_wp2_with fail
 refine cm HC.out ?_
 rintro e w2 ⟨rfl, hb⟩
 have HS2 := hide (HS1.out.below hb)
 clear hb HC HS1
 have HC := hide (rskip_no c w2 i tFunction (by decide) n2 HS2.out.ps)
 go_wp2_with fail
 refine cm HC.out ?_
 rintro e w3 ⟨rfl, hb⟩
 have HS3 := hide (HS2.out.below hb)
 clear hb HC HS2
 have HC := hide (rskip_no c w3 i tIf (by decide) n3 HS3.out.ps)
 go_wp2_with fail
 refine cm HC.out ?_
 rintro e w4 ⟨rfl, hb⟩
 have HS4 := hide (HS3.out.below hb)
 clear hb HC HS3
 have hc := rnext_any c w4 i tWhile (by decide) HS4.out.ps
 rw [decide_eq_false n4] at hc
 have HC := hide hc
 clear hc
 go_wp2_with fail
 refine cm HC.out ?_
 rintro e w5 ⟨rfl, hb⟩
 have HS5 := hide (HS4.out.below hb)
 clear hb HC HS4
 have hc := rnext_any c w5 i tWith (by decide) HS5.out.ps
 rw [decide_eq_false n5] at hc
 have HC := hide hc
 clear hc
 go_wp2_with fail
 refine cm HC.out ?_
 rintro e w6 ⟨rfl, hb⟩
 have HS6 := hide (HS5.out.below hb)
 clear hb HC HS5
 have HC := hide (rskip_yes c w6 i tTry (by decide) hf HS6.out.ps)
 go_wp2_with fail
 refine cm HC.out ?_
 rintro e w7 ⟨rfl, hp, ha⟩
 have HS7 := hide (HS6.out.on HLT.out hp ha)
 clear hp ha HC HS6
 clear ho hF hN hK
 obtain ⟨i0, hi0, hz0, hz1, hz2⟩ := info_parts info22
 have HK2 := hide (HS7.out.kind HLO.out 12)
 have hPN : c.P < w.heap.size := unhide HLT
 have nb := HS7.out.nd
 obtain ⟨c0, c1, c2, c3, cf⟩ := node_cells nb
 have cf0 := cf 0
 have cf3 := cf 3
 have hnl := lt_of_heap nb
 clear nb
 have hq : r = .bad er pl := by have h1 := unhide HQ; rw [hb0] at h1; exact h1
 subst hq
 clear HQ
 have HC := hide (rbraces_any HF.out HNN.out HKK.out false _ d (i + 1) _ hd hb0.symm (by nofun) HK2.out.ps)
 clear hb0
 go_wp2_with fail
 refine cm HC.out ?_
 rintro e wv ⟨⟨v, rfl, q, rfl⟩, ⟨j2, hp2⟩, he, ha2⟩
 have nb := (ha2.block _ (lt_of_heap HK2.out.nd) (by have := unhide HLT; omega)).trans HK2.out.nd
 clear c0 c1 c2 c3 cf cf0 cf3 hnl
 obtain ⟨c0, c1, c2, c3, cf⟩ := node_cells nb
 have cf3 := cf 3
 have hnl := lt_of_heap nb
 have hA := HK2.out.ap.next ha2
 have HB : Hid (Below w.heap.size wv ((wv.setCell ⟨w.heap.size, 3, none⟩ (.slice (some ⟨wv.heap.size, 0, none⟩) 1 1)).alloc (.cells #[nPtr q] 22))) := ((Below.refl w.heap.size wv).setCell (p := ⟨w.heap.size, 3, none⟩) (Nat.le_refl _) _).alloc (by simp; omega) _
 have HA := hide (hA.trans (Ap.of HB.out))
 have HP := hide (hp2.ap HB.out HLO.out)
 have HNB : Hid (((wv.setCell ⟨w.heap.size, 3, none⟩ (.slice (some ⟨wv.heap.size, 0, none⟩) 1 1)).alloc (.cells #[nPtr q] 22)).heap[w.heap.size]? = some (nodeObj 12 noText 0 (.slice (some ⟨wv.heap.size, 0, none⟩) 1 1))) := by
  show _ = _
  rw [Below.heap_alloc _ _ _ (by simp; omega), heap_set nb]
  rfl
 clear hp2 ha2 HC nb hA
 have HC3 := hide (rskip_old c _ j2 _ _ he tCatch HP.out)
 go_wp2_with fail
 refine cm HC3.out ?_
 rintro e wx ⟨rfl, hb⟩
 have HA1 := hide (HA.out.next (Ap.of hb))
 have HP1 := hide (HP.out.later hb)
 have HN1 := hide ((hb.block _ (lt_of_heap HNB.out)).trans HNB.out)
 clear hb HC3 HA HP HNB
 have HC4 := hide (rskip_old c _ j2 _ _ he tFinally HP1.out)
 clear c0 c1 c2 c3 cf cf3 hnl
 go_wp2_with fail
 refine cm HC4.out ?_
 rintro e wy ⟨rfl, hb⟩
 have HA2 := hide (HA1.out.next (Ap.of hb))
 have HP2 := hide (HP1.out.later hb)
 have nb := (hb.block _ (lt_of_heap HN1.out)).trans HN1.out
 clear hb HC4 HA1 HP1 HN1
 obtain ⟨c0, c1, c2, c3, cf⟩ := node_cells nb
 have hnl := lt_of_heap nb
 clear nb
 have HC5 := hide (rfail_old c wy j2 _ _ 3 he HP2.out)
 go_wp2_with fail
 refine cm HC5.out ?_
 rintro e wz ⟨⟨v, rfl, q2, rfl⟩, hp3, _, ha3⟩
 have HA3 := hide (HA2.out.next ha3)
 have HP3 := hide hp3
 clear hp3 ha3 HC5 c0 c1 c2 c3 cf hnl
 go_wp2_with fail
 go_ret
 exact ⟨⟨_, rfl, _, rfl⟩, HP3.out, he, HA3.out⟩
theorem rst_try_b {c : PC} {F : Fns} (hF : RCt c F) (hN : ∃ k, FNx c.l k F) (hK : FOk F) (w : World) (d i : Nat) (r : PR Tr) (hd : d ≤ 30) (b : Tr) (j : Nat) (hf : fx c.l i = tTry) (hb0 : blockP c.l F d (i + 1) = .ok b j) (hc0 : ¬ fx c.l j = tCatch) (hf0 : ¬ fx c.l j = tFinally) (hs : r = (blockP c.l F d (i + 1)).bind fun b i1 => (catchP c.l F d i1).bind fun cc i2 => (finallyP c.l F d i2).bind fun f i3 => if cc.length + f.length = 0 then badF c.l 3 i3 else .ok (.mk 12 noText 0 (b :: (cc ++ f))) i3) (ho : r ≠ .out) (h : Ps c w i 0 (-1)) :
  Calls Tryz.prog 47 #[pPtr c, .int .i64 (d : Int)] w (QPost c w (NV w.heap.size) ZN r) := by
 have HLT := hide h.rlt
 have HLO := hide h.base.size
 have HO := hide ho
 have HF := hide hF
 have HNN := hide hN
 have HKK := hide hK
 have hdd : decide ((30 : Int) < (d : Int)) = false := decide_eq_false (by omega)
 have n0 : ¬ fx c.l i = tLBrace := by rw [hf]; decide
 have n1 : ¬ fx c.l i = tSemi := by rw [hf]; decide
 have n2 : ¬ fx c.l i = tFunction := by rw [hf]; decide
 have n3 : ¬ fx c.l i = tIf := by rw [hf]; decide
 have n4 : ¬ fx c.l i = tWhile := by rw [hf]; decide
 have n5 : ¬ fx c.l i = tWith := by rw [hf]; decide
 have HQ := hide hs
 clear hs
 have HS0 := hide (Stn.new h)
 have hc := rnext_any c (w.alloc nd0) i tLBrace (by decide) HS0.out.ps
 rw [decide_eq_false n0] at hc
 have HC := hide hc
 clear hc
 clear h
 go_enter Tryz.func47, Tryz.ntmps47
 go_wp2_with fail
 refine cm HC.out ?_
 rintro e w1 ⟨rfl, hb⟩
 have HS1 := hide (HS0.out.below hb)
 clear hb HC HS0
 have HC := hide (rskip_no c w1 i tSemi (by decide) n1 HS1.out.ps)
 go_wp2_with fail
 refine cm HC.out ?_
 rintro e w2 ⟨rfl, hb⟩
 have HS2 := hide (HS1.out.below hb)
 clear hb HC HS1
 have HC := hide (rskip_no c w2 i tFunction (by decide) n2 HS2.out.ps)
 go_wp2_with fail
 refine cm HC.out ?_
 rintro e w3 ⟨rfl, hb⟩
 have HS3 := hide (HS2.out.below hb)
 clear hb HC HS2
 have HC := hide (rskip_no c w3 i tIf (by decide) n3 HS3.out.ps)
 go_wp2_with fail
 refine cm HC.out ?_
 rintro e w4 ⟨rfl, hb⟩
 have HS4 := hide (HS3.out.below hb)
 clear hb HC HS3
 have hc := rnext_any c w4 i tWhile (by decide) HS4.out.ps
 rw [decide_eq_false n4] at hc
 have HC := hide hc
 clear hc
 go_wp2_with fail
 refine cm HC.out ?_
 rintro e w5 ⟨rfl, hb⟩
 have HS5 := hide (HS4.out.below hb)
 clear hb HC HS4
 have hc := rnext_any c w5 i tWith (by decide) HS5.out.ps
 rw [decide_eq_false n5] at hc
 have HC := hide hc
 clear hc
 go_wp2_with fail
 refine cm HC.out ?_
 rintro e w6 ⟨rfl, hb⟩
 have HS6 := hide (HS5.out.below hb)
 clear hb HC HS5
 have HC := hide (rskip_yes c w6 i tTry (by decide) hf HS6.out.ps)
 go_wp2_with fail
 refine cm HC.out ?_
 rintro e w7 ⟨rfl, hp, ha⟩
 have HS7 := hide (HS6.out.on HLT.out hp ha)
 clear hp ha HC HS6
 clear ho hF hN hK
 obtain ⟨i0, hi0, hz0, hz1, hz2⟩ := info_parts info22
 have HK2 := hide (HS7.out.kind HLO.out 12)
 have hPN : c.P < w.heap.size := unhide HLT
 have nb := HS7.out.nd
 obtain ⟨c0, c1, c2, c3, cf⟩ := node_cells nb
 have cf0 := cf 0
 have cf3 := cf 3
 have hnl := lt_of_heap nb
 clear nb
 have hq : r = .bad 3 (tkA c.l j).pl := by
  have h1 := unhide HQ; rw [hb0, bind_ok] at h1; unfold catchP at h1; rw [if_neg hc0, bind_ok] at h1; unfold finallyP at h1; rw [if_neg hf0, bind_ok] at h1; exact h1
 subst hq
 clear HQ
 have HC := hide (rbraces_any HF.out HNN.out HKK.out false _ d (i + 1) _ hd hb0.symm (by nofun) HK2.out.ps)
 clear hb0
 go_wp2_with fail
 refine cm HC.out ?_
 rintro e wv ⟨⟨v, rfl, q, rfl, hn⟩, hp2, ha2⟩
 have nb := (ha2.block _ (lt_of_heap HK2.out.nd) (by have := unhide HLT; omega)).trans HK2.out.nd
 clear c0 c1 c2 c3 cf cf0 cf3 hnl
 obtain ⟨c0, c1, c2, c3, cf⟩ := node_cells nb
 have cf3 := cf 3
 have hnl := lt_of_heap nb
 have hA := HK2.out.ap.next ha2
 have HB : Hid (Below w.heap.size wv ((wv.setCell ⟨w.heap.size, 3, none⟩ (.slice (some ⟨wv.heap.size, 0, none⟩) 1 1)).alloc (.cells #[nPtr q] 22))) := ((Below.refl w.heap.size wv).setCell (p := ⟨w.heap.size, 3, none⟩) (Nat.le_refl _) _).alloc (by simp; omega) _
 have HA := hide (hA.trans (Ap.of HB.out))
 have HP := hide (hp2.ap HB.out HLO.out)
 have HOP : Hid (Open w.heap.size ((wv.setCell ⟨w.heap.size, 3, none⟩ (.slice (some ⟨wv.heap.size, 0, none⟩) 1 1)).alloc (.cells #[nPtr q] 22)) (.mk 12 noText 0 [b]) w.heap.size (.slice (some ⟨wv.heap.size, 0, none⟩) 1 1) [q]) := st_open (Nat.le_refl _) (lt_of_heap HK2.out.nd) (set1 wv w.heap.size _) (by simp) ha2.size (by rw [heap_set nb]; rfl) (NAts.cons hn NAts.nil) rfl #[nPtr q] rfl (by simp [maxLen])
 clear hp2 ha2 HC nb hA hn
 have hx := hc0
 have HC3 := hide (rskip_no c _ j tCatch (by decide) hx HP.out)
 clear hx
 go_wp2_with fail
 refine cm HC3.out ?_
 rintro e wx ⟨rfl, hb⟩
 replace HOP := hide (HOP.out.stay (Ap.of hb) HLT.out)
 replace HA := hide (HA.out.next (Ap.of hb))
 replace HP := hide (HP.out.later hb)
 clear hb HC3
 clear c0 c1 c2 c3 cf cf3 hnl
 have hx := hf0
 have HC3 := hide (rskip_no c _ j tFinally (by decide) hx HP.out)
 clear hx
 go_wp2_with fail
 refine cm HC3.out ?_
 rintro e wy ⟨rfl, hb⟩
 replace HOP := hide (HOP.out.stay (Ap.of hb) HLT.out)
 replace HA := hide (HA.out.next (Ap.of hb))
 replace HP := hide (HP.out.later hb)
 clear hb HC3
 obtain ⟨c3, cf, hnl⟩ := HOP.out.cell
 have HC5 := hide (rfail_new c wy j 3 (by decide) HP.out)
 go_wp2_with fail
 refine cm HC5.out ?_
 rintro e wz ⟨⟨v, rfl, q2, rfl⟩, hp3, he, ha3⟩
 have HA3 := hide (HA.out.next ha3)
 have HP3 := hide hp3
 clear hp3 ha3 HC5 c3 cf hnl
 go_wp2_with fail
 go_ret
 exact ⟨⟨_, rfl, _, rfl⟩, HP3.out, he, HA3.out⟩
end Go.Proofs.YtodmgaikhbmlnaaGreatDoor
