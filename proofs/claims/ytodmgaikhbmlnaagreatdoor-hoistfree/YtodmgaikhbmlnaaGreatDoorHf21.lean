/-
  The document's parser: statements.
-/
import Derived.Test.YtodmgaikhbmlnaaGreatDoorHf18
import Derived.Laws.IdiomRangeMap
import Derived.Laws.OwnMore
import Derived.Maps.RangeRun
set_option maxRecDepth 100000
set_option maxHeartbeats 16000000
namespace Go.Proofs.YtodmgaikhbmlnaaGreatDoor
open Go.RowKit
abbrev nd0 : Obj := nodeObj 0 noText 0 (.slice none 0 0)
structure Stn (c : PC) (w : World) (i : Nat) (W : World) : Prop where
 ps : Ps c W i 0 (-1)
 nd : W.heap[w.heap.size]? = some nd0
 ap : Ap c.P w.heap.size w W
section
variable {c : PC} {w : World}
include c w
theorem Stn.new {i : Nat} (h : Ps c w i 0 (-1)) : Stn c w i (w.alloc nd0) := ⟨h.alloc _, heap_new _ _, (Ap.refl c.P w.heap.size w).alloc (Nat.le_refl _) _⟩
theorem Stn.below {i : Nat} {W W' : World} (h : Stn c w i W) (hb : Below W.heap.size W W') : Stn c w i W' := ⟨h.ps.later hb, (hb.block _ (lt_of_heap h.nd)).trans h.nd, h.ap.next (Ap.of hb)⟩
theorem Stn.on {i j : Nat} {W W' : World} (h : Stn c w i W) (hP : c.P < w.heap.size) (hp : Ps c W' j 0 (-1)) (ha : Ap c.P W.heap.size W W') : Stn c w j W' := ⟨hp, (ha.block _ (lt_of_heap h.nd) (by omega)).trans h.nd, h.ap.next ha⟩
end
theorem st_done {B N : Nat} {W : World} {kd z : Int} {tx : ByteArray} {u : Value} {ps : List Nat} {ks : List Tr} (hB : B ≤ N) (hb : W.heap[N]? = some (nodeObj kd tx z u)) (hr : W.ownsRow B 22 1 u ps.length (ps.map nPtr)) (hk : NAts (fun b => B ≤ b) W ks ps) : NV B W (.mk kd tx z ks) (nPtr N) := by
 refine ⟨N, rfl, ?_⟩
 rw [NAt]
 exact ⟨hB, u, ps, hb, ⟨owns_zero hr, fun g hg => (own_lt hr g hg).2⟩, hk⟩
theorem st_row {B N z4 n : Nat} {w5 X : World} {kd z : Int} {tx : ByteArray} {ks : List Tr} {ps : List Nat} (hBN : B ≤ N) (hN : N < z4) (hX : ∀ b, b ≠ N → X.heap[b]? = w5.heap[b]?) (hz : X.heap.size = w5.heap.size) (h5 : z4 ≤ w5.heap.size)
  (nb : X.heap[N]? = some (nodeObj kd tx z (.slice (some ⟨w5.heap.size, 0, none⟩) n n))) (hk : NAts (fun b => z4 ≤ b) w5 ks ps) (hn : n = ps.length) (cs : Array Value) (hc : cs.toList = ps.map nPtr) (hl : ps.length ≤ maxLen) : NV B (X.alloc (.cells cs 22)) (.mk kd tx z ks) (nPtr N) := by
 subst hn
 have hcs : cs.size = ps.length * 1 := by rw [← Array.length_toList, hc]; simp
 have ho := World.ownsRow_lit (base := B) (e := 22) (size := 1) X cs ps.length (by omega) hl hcs
 rw [hz, hc] at ho
 refine st_done hBN (by rw [Below.heap_alloc _ _ _ (by omega)]; exact nb) ho ?_
 have hs : Stay (fun b => z4 ≤ b) w5 (X.alloc (.cells cs 22)) := fun b hb hl => by rw [Below.heap_alloc _ _ _ (by omega)]; exact hX b (by have : z4 ≤ b := hb; omega)
 exact NAts.mono (fun b hb _ => by have : z4 ≤ b := hb; omega) _ _ (NAts.later hs _ _ hk)
theorem set2 (w5 : World) (N : Nat) (a b : Value) : ∀ k, k ≠ N → ((w5.setCell ⟨N, 0, none⟩ a).setCell ⟨N, 3, none⟩ b).heap[k]? = w5.heap[k]? := fun k hk => by rw [Below.heap_setCell _ _ _ k (by first | exact hk | exact Ne.symm hk), Below.heap_setCell _ _ _ k (by first | exact hk | exact Ne.symm hk)]
theorem set1 (w5 : World) (N : Nat) (b : Value) : ∀ k, k ≠ N → (w5.setCell ⟨N, 3, none⟩ b).heap[k]? = w5.heap[k]? := fun k hk => by rw [Below.heap_setCell _ _ _ k (by first | exact hk | exact Ne.symm hk)]
theorem owns_nil {B : Nat} {W : World} : W.ownsRow B 22 1 (.slice none 0 0) ([] : List Nat).length (([] : List Nat).map nPtr) := ⟨rfl, Or.inl ⟨rfl, rfl⟩⟩
section
variable {c : PC} {F : Fns} (hF : RCt c F) (hN : ∃ k, FNx c.l k F) (hK : FOk F) (w : World) (d i : Nat) (r : PR Tr) (hd : d ≤ 30)
include c F hF hN hK w d i r hd
theorem rst_block (hf : fx c.l i = tLBrace) (hs : r = blockP c.l F d i) (ho : r ≠ .out) (h : Ps c w i 0 (-1)) :
  Calls Tryz.prog 47 #[pPtr c, .int .i64 (d : Int)] w (QPost c w (NV w.heap.size) ZN r) := by
 have HLT := hide h.rlt
 have HLO := hide h.base.size
 have HO := hide ho
 have HF := hide hF
 have HNN := hide hN
 have HKK := hide hK
 have hdd : decide ((30 : Int) < (d : Int)) = false := decide_eq_false (by omega)
 have HS0 := hide (Stn.new h)
 have hc := rnext_any c (w.alloc nd0) i tLBrace (by decide) HS0.out.ps
 rw [decide_eq_true hf] at hc
 have HC := hide hc
 clear hc
 clear h
 go_enter Tryz.func47, Tryz.ntmps47
 go_wp2_with fail
 refine cm HC.out ?_
 rintro e w1 ⟨rfl, hb⟩
 have HS1 := hide (HS0.out.below hb)
 clear hb HC HS0
 have HC := hide (rbraces_any HF.out HNN.out HKK.out false w1 d i r hd (by rw [hs]; rfl) ho HS1.out.ps)
 clear ho hs hF hN hK
 go_wp2_with fail
 refine cm HC.out ?_
 intro e wz hp
 cases r with
 | out => exact absurd rfl HO.out
 | bad er pl =>
  obtain ⟨⟨v, rfl, q, rfl⟩, hp1, he, ha⟩ := hp; have HP := hide hp1; have HA := hide (HS1.out.ap.next ha); exact zcbt
 | ok t j =>
  obtain ⟨⟨v, rfl, q, rfl, hn⟩, hp1, ha⟩ := hp; have HP := hide hp1; have HA := hide (HS1.out.ap.next ha)
  have HN := hide (NAt.mono (fun b hb _ => Nat.le_trans HS1.out.ap.size hb) _ _ hn : NAt (fun b => w.heap.size ≤ b) wz t q); exact zcbq
theorem rst_empty (hf : fx c.l i = tSemi) (hs : r = .ok (.mk 16 noText 0 []) (i + 1)) (ho : r ≠ .out) (h : Ps c w i 0 (-1)) :
  Calls Tryz.prog 47 #[pPtr c, .int .i64 (d : Int)] w (QPost c w (NV w.heap.size) ZN r) := by
 have HLT := hide h.rlt
 have HLO := hide h.base.size
 have HO := hide ho
 have HF := hide hF
 have HNN := hide hN
 have HKK := hide hK
 have hdd : decide ((30 : Int) < (d : Int)) = false := decide_eq_false (by omega)
 have n0 : ¬ fx c.l i = tLBrace := by rw [hf]; decide
 have HS0 := hide (Stn.new h)
 have hc := rnext_any c (w.alloc nd0) i tLBrace (by decide) HS0.out.ps
 rw [decide_eq_false n0] at hc
 have HC := hide hc
 clear hc
 clear h
 go_enter Tryz.func47, Tryz.ntmps47
 go_wp2_with fail
 refine cm HC.out ?_
 rintro e w1 ⟨rfl, hb⟩
 have HS1 := hide (HS0.out.below hb)
 clear hb HC HS0
 have HC := hide (rskip_yes c w1 i tSemi (by decide) hf HS1.out.ps)
 go_wp2_with fail
 refine cm HC.out ?_
 rintro e w2 ⟨rfl, hp, ha⟩
 have HS2 := hide (HS1.out.on HLT.out hp ha)
 clear hp ha HC HS1
 subst hs
 have nb := HS2.out.nd
 obtain ⟨c0, c1, c2, c3, cf⟩ := node_cells nb
 have cf0 := cf 0
 have hnl := lt_of_heap nb
 have HB := hide nb
 clear nb
 go_wp2_with fail
 go_ret
 refine ⟨⟨_, rfl, st_done (Nat.le_refl _) (by rw [heap_set HB.out]; rfl) owns_nil NAts.nil⟩, ?_, ?_⟩
 ·
  exact HS2.out.ps.ap ((Below.refl w.heap.size w2).setCell (p := ⟨w.heap.size, 0, none⟩) (Nat.le_refl _) _) HLO.out
 ·
  exact HS2.out.ap.setCell (p := ⟨w.heap.size, 0, none⟩) (Or.inl (Nat.le_refl _)) _
theorem rst_func (hf : fx c.l i = tFunction) (hs : r = (nameP c.l (i + 1)).bind fun s i2 => rfuncTail c.l F 5 s d i2) (ho : r ≠ .out) (h : Ps c w i 0 (-1)) :
  Calls Tryz.prog 47 #[pPtr c, .int .i64 (d : Int)] w (QPost c w (NV w.heap.size) ZN r) := by
 have HLT := hide h.rlt
 have HLO := hide h.base.size
 have HO := hide ho
 have HF := hide hF
 have HNN := hide hN
 have HKK := hide hK
 have hdd : decide ((30 : Int) < (d : Int)) = false := decide_eq_false (by omega)
 have n0 : ¬ fx c.l i = tLBrace := by rw [hf]; decide
 have n1 : ¬ fx c.l i = tSemi := by rw [hf]; decide
 have HS0 := hide (Stn.new h)
 have hc := rnext_any c (w.alloc nd0) i tLBrace (by decide) HS0.out.ps
 rw [decide_eq_false n0] at hc
 have HC := hide hc
 clear hc
 clear h
 go_enter Tryz.func47, Tryz.ntmps47
 go_wp2_with fail
 refine cm HC.out ?_
 rintro e w1 ⟨rfl, hb⟩
 have HS1 := hide (HS0.out.below hb)
 clear hb HC HS0
 have HC := hide (rskip_no c w1 i tSemi (by decide) n1 HS1.out.ps)
 go_wp2_with fail
 refine cm HC.out ?_
 rintro e w2 ⟨rfl, hb⟩
 have HS2 := hide (HS1.out.below hb)
 clear hb HC HS1
 have HC := hide (rskip_yes c w2 i tFunction (by decide) hf HS2.out.ps)
 go_wp2_with fail
 refine cm HC.out ?_
 rintro e w3 ⟨rfl, hp, ha⟩
 have HS3 := hide (HS2.out.on HLT.out hp ha)
 clear hp ha HC HS2
 have HQ := hide hs
 have HC := hide (rident_any c w3 (i + 1) HS3.out.ps)
 clear ho hs hF hN hK
 go_wp2_with fail
 refine cm HC.out ?_
 intro e w9 hp
 clear HC
 cases hr : nameP c.l (i + 1) with
 | out => rw [hr] at HQ; exact absurd HQ.out HO.out
 | bad er pl =>
  rw [hr] at hp HQ; have hq : r = .bad er pl := unhide HQ; subst hq; obtain ⟨⟨v, rfl, s, rfl⟩, ⟨j, hp1⟩, he, ha⟩ := hp; have HA := hide (HS3.out.ap.next ha)
  have HC := hide (rfunction_old c w9 j er pl 5 (d : Int) s he hp1); clear hp1 ha hr HQ; go_wp2_with fail; refine cm HC.out ?_; rintro e wz ⟨⟨v, rfl, q, rfl⟩, hp2, _, ha2⟩; have HP2 := hide hp2
  have HA2 := hide (HA.out.next ha2); clear hp2 ha2 HC; exact zbcp
 | ok s j =>
  rw [hr] at hp HQ; have hq : r = rfuncTail c.l F 5 s d j := unhide HQ; obtain ⟨⟨v, rfl, rfl⟩, hp1, ha⟩ := hp; have HS9 := hide (HS3.out.on HLT.out hp1 ha)
  have HC := hide (rfunction_any HF.out HNN.out HKK.out w9 5 s d j r hd hq HO.out hp1); clear hp1 ha hr HQ hq; go_wp2_with fail; refine cm HC.out ?_; intro e wz hp
  cases r with
  | out => exact absurd rfl HO.out
  | bad er pl =>
   obtain ⟨⟨v, rfl, q, rfl⟩, hp1, he, ha⟩ := hp; have HP := hide hp1; have HA := hide (HS9.out.ap.next ha); exact zcbt
  | ok t j =>
   obtain ⟨⟨v, rfl, q, rfl, hn⟩, hp1, ha⟩ := hp; have HP := hide hp1; have HA := hide (HS9.out.ap.next ha)
   have HN := hide (NAt.mono (fun b hb _ => Nat.le_trans HS9.out.ap.size hb) _ _ hn : NAt (fun b => w.heap.size ≤ b) wz t q); exact zcbq
theorem rst_throw (hf : fx c.l i = tThrow) (hs : r = (deepP c.l F.vl d (i + 1)).bind fun v i1 => (mustP c.l tSemi i1).bind fun _ i2 => .ok (.mk 11 noText 0 [v]) i2) (ho : r ≠ .out) (h : Ps c w i 0 (-1)) :
  Calls Tryz.prog 47 #[pPtr c, .int .i64 (d : Int)] w (QPost c w (NV w.heap.size) ZN r) := by
 have HLT := hide h.rlt
 have HLO := hide h.base.size
 have HO := hide ho
 have HF := hide hF
 have HNN := hide hN
 have HKK := hide hK
 have hdd : decide ((30 : Int) < (d : Int)) = false := decide_eq_false (by omega)
 have n0 : ¬ fx c.l i = tLBrace := by rw [hf]; decide
 have n1 : ¬ fx c.l i = tSemi := by rw [hf]; decide
 have n2 : ¬ fx c.l i = tFunction := by rw [hf]; decide
 have n3 : ¬ fx c.l i = tIf := by rw [hf]; decide
 have n4 : ¬ fx c.l i = tWhile := by rw [hf]; decide
 have n5 : ¬ fx c.l i = tWith := by rw [hf]; decide
 have n6 : ¬ fx c.l i = tTry := by rw [hf]; decide
 have n7 : ¬ fx c.l i = tVar := by rw [hf]; decide
 have n8 : ¬ fx c.l i = tLet := by rw [hf]; decide
 have n9 : ¬ fx c.l i = tConst := by rw [hf]; decide
 have n10 : ¬ fx c.l i = tReturn := by rw [hf]; decide
 have HS0 := hide (Stn.new h)
 have hc := rnext_any c (w.alloc nd0) i tLBrace (by decide) HS0.out.ps
 rw [decide_eq_false n0] at hc
 have HC := hide hc
 clear hc
 clear h
 go_enter Tryz.func47, Tryz.ntmps47
 go_wp2_with fail
 refine cm HC.out ?_
 rintro e w1 ⟨rfl, hb⟩
 have HS1 := hide (HS0.out.below hb)
 clear hb HC HS0
 have HC := hide (rskip_no c w1 i tSemi (by decide) n1 HS1.out.ps)
 go_wp2_with fail
 refine cm HC.out ?_
 rintro e w2 ⟨rfl, hb⟩
 have HS2 := hide (HS1.out.below hb)
 clear hb HC HS1
 have HC := hide (rskip_no c w2 i tFunction (by decide) n2 HS2.out.ps)
 go_wp2_with fail
 refine cm HC.out ?_
 rintro e w3 ⟨rfl, hb⟩
 have HS3 := hide (HS2.out.below hb)
 clear hb HC HS2
 have HC := hide (rskip_no c w3 i tIf (by decide) n3 HS3.out.ps)
 go_wp2_with fail
 refine cm HC.out ?_
 rintro e w4 ⟨rfl, hb⟩
 have HS4 := hide (HS3.out.below hb)
 clear hb HC HS3
 have hc := rnext_any c w4 i tWhile (by decide) HS4.out.ps
 rw [decide_eq_false n4] at hc
 have HC := hide hc
 clear hc
 go_wp2_with fail
 refine cm HC.out ?_
 rintro e w5 ⟨rfl, hb⟩
 have HS5 := hide (HS4.out.below hb)
 clear hb HC HS4
 have hc := rnext_any c w5 i tWith (by decide) HS5.out.ps
 rw [decide_eq_false n5] at hc
 have HC := hide hc
 clear hc
 go_wp2_with fail
 refine cm HC.out ?_
 rintro e w6 ⟨rfl, hb⟩
 have HS6 := hide (HS5.out.below hb)
 clear hb HC HS5
 have HC := hide (rskip_no c w6 i tTry (by decide) n6 HS6.out.ps)
 go_wp2_with fail
 refine cm HC.out ?_
 rintro e w7 ⟨rfl, hb⟩
 have HS7 := hide (HS6.out.below hb)
 clear hb HC HS6
 have hc := rnext_any c w7 i tVar (by decide) HS7.out.ps
 rw [decide_eq_false n7] at hc
 have HC := hide hc
 clear hc
 go_wp2_with fail
 refine cm HC.out ?_
 rintro e w8 ⟨rfl, hb⟩
 have HS8 := hide (HS7.out.below hb)
 clear hb HC HS7
 have hc := rnext_any c w8 i tLet (by decide) HS8.out.ps
 rw [decide_eq_false n8] at hc
 have HC := hide hc
 clear hc
 go_wp2_with fail
 refine cm HC.out ?_
 rintro e w9 ⟨rfl, hb⟩
 have HS9 := hide (HS8.out.below hb)
 clear hb HC HS8
 have hc := rnext_any c w9 i tConst (by decide) HS9.out.ps
 rw [decide_eq_false n9] at hc
 have HC := hide hc
 clear hc
 go_wp2_with fail
 refine cm HC.out ?_
 rintro e w10 ⟨rfl, hb⟩
 have HS10 := hide (HS9.out.below hb)
 clear hb HC HS9
 have HC := hide (rskip_no c w10 i tReturn (by decide) n10 HS10.out.ps)
 go_wp2_with fail
 refine cm HC.out ?_
 rintro e w11 ⟨rfl, hb⟩
 have HS11 := hide (HS10.out.below hb)
 clear hb HC HS10
 have HC := hide (rskip_yes c w11 i tThrow (by decide) hf HS11.out.ps)
 go_wp2_with fail
 refine cm HC.out ?_
 rintro e w12 ⟨rfl, hp, ha⟩
 have HS12 := hide (HS11.out.on HLT.out hp ha)
 clear hp ha HC HS11
 have HQ := hide hs
 clear ho hs hF hN hK
 cases hr : deepP c.l F.vl d (i + 1) with
 | out => rw [hr] at HQ; exact absurd HQ.out HO.out
 | bad er pl =>
  have HC := hide (HF.out.vl w12 d (i + 1) _ hd hr.symm (by nofun) HS12.out.ps); rw [hr] at HQ; have hq : r = .bad er pl := unhide HQ; subst hq; clear hr HQ; go_wp2_with fail; refine cm HC.out ?_
  rintro e wv ⟨⟨v, rfl, q, rfl⟩, ⟨j, hp1⟩, he, ha⟩; have nb := (ha.block _ (lt_of_heap HS12.out.nd) (by have := unhide HLT; omega)).trans HS12.out.nd
  obtain ⟨c0, c1, c2, c3, cf⟩ := node_cells nb; have cf0 := cf 0; have cf3 := cf 3; have hnl := lt_of_heap nb; have hA := HS12.out.ap.next ha
  have HB : Hid (Below w.heap.size wv (((wv.setCell ⟨w.heap.size, 0, none⟩ (.int .i64 11)).setCell ⟨w.heap.size, 3, none⟩ (.slice (some ⟨wv.heap.size, 0, none⟩) 1 1)).alloc (.cells #[nPtr q] 22))) := (((Below.refl w.heap.size wv).setCell (p := ⟨w.heap.size, 0, none⟩) (Nat.le_refl _) _).setCell (p := ⟨w.heap.size, 3, none⟩) (Nat.le_refl _) _).alloc (by simp; omega) _
  exact zbcj
 | ok t j =>
  have HC := hide (HF.out.vl w12 d (i + 1) _ hd hr.symm (by nofun) HS12.out.ps); rw [hr] at HQ; have hq : r = (mustP c.l tSemi j).bind fun _ i2 => .ok (.mk 11 noText 0 [t]) i2 := unhide HQ; have HQ2 := hide hq
  clear hr HQ hq; go_wp2_with fail; refine cm HC.out ?_; rintro e wv ⟨⟨v, rfl, q, rfl, hn⟩, hp1, ha⟩; have nb := (ha.block _ (lt_of_heap HS12.out.nd) (by have := unhide HLT; omega)).trans HS12.out.nd
  obtain ⟨c0, c1, c2, c3, cf⟩ := node_cells nb; have cf0 := cf 0; have cf3 := cf 3; have hnl := lt_of_heap nb; have hA := HS12.out.ap.next ha
  have HB : Hid (Below w.heap.size wv (((wv.setCell ⟨w.heap.size, 0, none⟩ (.int .i64 11)).setCell ⟨w.heap.size, 3, none⟩ (.slice (some ⟨wv.heap.size, 0, none⟩) 1 1)).alloc (.cells #[nPtr q] 22))) := (((Below.refl w.heap.size wv).setCell (p := ⟨w.heap.size, 0, none⟩) (Nat.le_refl _) _).setCell (p := ⟨w.heap.size, 3, none⟩) (Nat.le_refl _) _).alloc (by simp; omega) _
  have HA := hide (hA.trans (Ap.of HB.out)); have HP := hide (hp1.ap HB.out HLO.out)
  have HN : Hid (NV w.heap.size (((wv.setCell ⟨w.heap.size, 0, none⟩ (.int .i64 11)).setCell ⟨w.heap.size, 3, none⟩ (.slice (some ⟨wv.heap.size, 0, none⟩) 1 1)).alloc (.cells #[nPtr q] 22)) (.mk 11 noText 0 [t]) (nPtr w.heap.size)) := st_row (Nat.le_refl _) (lt_of_heap HS12.out.nd) (set2 wv w.heap.size _ _) (by simp) ha.size (by rw [heap_set (heap_set nb _)]; rfl) (NAts.cons hn NAts.nil) rfl #[nPtr q] rfl (by simp [maxLen])
  have HC2 := hide (rmust_any c _ j tSemi (by decide) HP.out); clear hp1 ha HC nb hA hn; go_wp2_with fail; refine cm HC2.out ?_; intro e wz hp
  cases hr2 : mustP c.l tSemi j with
  | out => rw [hr2] at HQ2; exact absurd HQ2.out HO.out
  | bad er pl =>
   exact zbbz
  | ok x j2 =>
   rw [hr2] at hp HQ2; have hq : r = .ok (.mk 11 noText 0 [t]) j2 := unhide HQ2; exact zbcb
theorem rst_expr (n0 : ¬ fx c.l i = tLBrace) (n1 : ¬ fx c.l i = tSemi) (n2 : ¬ fx c.l i = tFunction) (n3 : ¬ fx c.l i = tIf) (n4 : ¬ fx c.l i = tWhile) (n5 : ¬ fx c.l i = tWith) (n6 : ¬ fx c.l i = tTry) (n7 : ¬ fx c.l i = tVar) (n8 : ¬ fx c.l i = tLet) (n9 : ¬ fx c.l i = tConst) (n10 : ¬ fx c.l i = tReturn) (n11 : ¬ fx c.l i = tThrow) (hs : r = (deepP c.l F.vl d i).bind fun v i1 => (mustP c.l tSemi i1).bind fun _ i2 => .ok (.mk 15 noText 0 [v]) i2) (ho : r ≠ .out) (h : Ps c w i 0 (-1)) :
  Calls Tryz.prog 47 #[pPtr c, .int .i64 (d : Int)] w (QPost c w (NV w.heap.size) ZN r) := by
 have HLT := hide h.rlt
 have HLO := hide h.base.size
 have HO := hide ho
 have HF := hide hF
 have HNN := hide hN
 have HKK := hide hK
 have hdd : decide ((30 : Int) < (d : Int)) = false := decide_eq_false (by omega)
 have HS0 := hide (Stn.new h)
 have hc := rnext_any c (w.alloc nd0) i tLBrace (by decide) HS0.out.ps
 rw [decide_eq_false n0] at hc
 have HC := hide hc
 clear hc
 clear h
 go_enter Tryz.func47, Tryz.ntmps47
 go_wp2_with fail
 refine cm HC.out ?_
 rintro e w1 ⟨rfl, hb⟩
 have HS1 := hide (HS0.out.below hb)
 clear hb HC HS0
 have HC := hide (rskip_no c w1 i tSemi (by decide) n1 HS1.out.ps)
 go_wp2_with fail
 refine cm HC.out ?_
 rintro e w2 ⟨rfl, hb⟩
 have HS2 := hide (HS1.out.below hb)
 clear hb HC HS1
 have HC := hide (rskip_no c w2 i tFunction (by decide) n2 HS2.out.ps)
 go_wp2_with fail
 refine cm HC.out ?_
 rintro e w3 ⟨rfl, hb⟩
 have HS3 := hide (HS2.out.below hb)
 clear hb HC HS2
 have HC := hide (rskip_no c w3 i tIf (by decide) n3 HS3.out.ps)
 go_wp2_with fail
 refine cm HC.out ?_
 rintro e w4 ⟨rfl, hb⟩
 have HS4 := hide (HS3.out.below hb)
 clear hb HC HS3
 have hc := rnext_any c w4 i tWhile (by decide) HS4.out.ps
 rw [decide_eq_false n4] at hc
 have HC := hide hc
 clear hc
 go_wp2_with fail
 refine cm HC.out ?_
 rintro e w5 ⟨rfl, hb⟩
 have HS5 := hide (HS4.out.below hb)
 clear hb HC HS4
 have hc := rnext_any c w5 i tWith (by decide) HS5.out.ps
 rw [decide_eq_false n5] at hc
 have HC := hide hc
 clear hc
 go_wp2_with fail
 refine cm HC.out ?_
 rintro e w6 ⟨rfl, hb⟩
 have HS6 := hide (HS5.out.below hb)
 clear hb HC HS5
 have HC := hide (rskip_no c w6 i tTry (by decide) n6 HS6.out.ps)
 go_wp2_with fail
 refine cm HC.out ?_
 rintro e w7 ⟨rfl, hb⟩
 have HS7 := hide (HS6.out.below hb)
 clear hb HC HS6
 have hc := rnext_any c w7 i tVar (by decide) HS7.out.ps
 rw [decide_eq_false n7] at hc
 have HC := hide hc
 clear hc
 go_wp2_with fail
 refine cm HC.out ?_
 rintro e w8 ⟨rfl, hb⟩
 have HS8 := hide (HS7.out.below hb)
 clear hb HC HS7
 have hc := rnext_any c w8 i tLet (by decide) HS8.out.ps
 rw [decide_eq_false n8] at hc
 have HC := hide hc
 clear hc
 go_wp2_with fail
 refine cm HC.out ?_
 rintro e w9 ⟨rfl, hb⟩
 have HS9 := hide (HS8.out.below hb)
 clear hb HC HS8
 have hc := rnext_any c w9 i tConst (by decide) HS9.out.ps
 rw [decide_eq_false n9] at hc
 have HC := hide hc
 clear hc
 go_wp2_with fail
 refine cm HC.out ?_
 rintro e w10 ⟨rfl, hb⟩
 have HS10 := hide (HS9.out.below hb)
 clear hb HC HS9
 have HC := hide (rskip_no c w10 i tReturn (by decide) n10 HS10.out.ps)
 go_wp2_with fail
 refine cm HC.out ?_
 rintro e w11 ⟨rfl, hb⟩
 have HS11 := hide (HS10.out.below hb)
 clear hb HC HS10
 have HC := hide (rskip_no c w11 i tThrow (by decide) n11 HS11.out.ps)
 go_wp2_with fail
 refine cm HC.out ?_
 rintro e w12 ⟨rfl, hb⟩
 have HS12 := hide (HS11.out.below hb)
 clear hb HC HS11
 have HQ := hide hs
 clear ho hs hF hN hK
 cases hr : deepP c.l F.vl d i with
 | out => rw [hr] at HQ; exact absurd HQ.out HO.out
 | bad er pl =>
  have HC := hide (HF.out.vl w12 d i _ hd hr.symm (by nofun) HS12.out.ps); rw [hr] at HQ; have hq : r = .bad er pl := unhide HQ; subst hq; clear hr HQ; go_wp2_with fail; refine cm HC.out ?_
  rintro e wv ⟨⟨v, rfl, q, rfl⟩, ⟨j, hp1⟩, he, ha⟩; have nb := (ha.block _ (lt_of_heap HS12.out.nd) (by have := unhide HLT; omega)).trans HS12.out.nd
  obtain ⟨c0, c1, c2, c3, cf⟩ := node_cells nb; have cf0 := cf 0; have cf3 := cf 3; have hnl := lt_of_heap nb; have hA := HS12.out.ap.next ha
  have HB : Hid (Below w.heap.size wv (((wv.setCell ⟨w.heap.size, 0, none⟩ (.int .i64 15)).setCell ⟨w.heap.size, 3, none⟩ (.slice (some ⟨wv.heap.size, 0, none⟩) 1 1)).alloc (.cells #[nPtr q] 22))) := (((Below.refl w.heap.size wv).setCell (p := ⟨w.heap.size, 0, none⟩) (Nat.le_refl _) _).setCell (p := ⟨w.heap.size, 3, none⟩) (Nat.le_refl _) _).alloc (by simp; omega) _
  exact zbcj
 | ok t j =>
  have HC := hide (HF.out.vl w12 d i _ hd hr.symm (by nofun) HS12.out.ps); rw [hr] at HQ; have hq : r = (mustP c.l tSemi j).bind fun _ i2 => .ok (.mk 15 noText 0 [t]) i2 := unhide HQ; have HQ2 := hide hq; clear hr HQ hq
  go_wp2_with fail; refine cm HC.out ?_; rintro e wv ⟨⟨v, rfl, q, rfl, hn⟩, hp1, ha⟩; have nb := (ha.block _ (lt_of_heap HS12.out.nd) (by have := unhide HLT; omega)).trans HS12.out.nd
  obtain ⟨c0, c1, c2, c3, cf⟩ := node_cells nb; have cf0 := cf 0; have cf3 := cf 3; have hnl := lt_of_heap nb; have hA := HS12.out.ap.next ha
  have HB : Hid (Below w.heap.size wv (((wv.setCell ⟨w.heap.size, 0, none⟩ (.int .i64 15)).setCell ⟨w.heap.size, 3, none⟩ (.slice (some ⟨wv.heap.size, 0, none⟩) 1 1)).alloc (.cells #[nPtr q] 22))) := (((Below.refl w.heap.size wv).setCell (p := ⟨w.heap.size, 0, none⟩) (Nat.le_refl _) _).setCell (p := ⟨w.heap.size, 3, none⟩) (Nat.le_refl _) _).alloc (by simp; omega) _
  have HA := hide (hA.trans (Ap.of HB.out)); have HP := hide (hp1.ap HB.out HLO.out)
  have HN : Hid (NV w.heap.size (((wv.setCell ⟨w.heap.size, 0, none⟩ (.int .i64 15)).setCell ⟨w.heap.size, 3, none⟩ (.slice (some ⟨wv.heap.size, 0, none⟩) 1 1)).alloc (.cells #[nPtr q] 22)) (.mk 15 noText 0 [t]) (nPtr w.heap.size)) := st_row (Nat.le_refl _) (lt_of_heap HS12.out.nd) (set2 wv w.heap.size _ _) (by simp) ha.size (by rw [heap_set (heap_set nb _)]; rfl) (NAts.cons hn NAts.nil) rfl #[nPtr q] rfl (by simp [maxLen])
  have HC2 := hide (rmust_any c _ j tSemi (by decide) HP.out); clear hp1 ha HC nb hA hn; go_wp2_with fail; refine cm HC2.out ?_; intro e wz hp
  cases hr2 : mustP c.l tSemi j with
  | out => rw [hr2] at HQ2; exact absurd HQ2.out HO.out
  | bad er pl =>
   exact zbbz
  | ok x j2 =>
   rw [hr2] at hp HQ2; have hq : r = .ok (.mk 15 noText 0 [t]) j2 := unhide HQ2; exact zbcb
end
end Go.Proofs.YtodmgaikhbmlnaaGreatDoor
