/-
  The document's parser: statements.
-/
import Derived.Test.YtoimgcjbcbhclaaGreatDoorAo21
set_option maxRecDepth 100000
set_option maxHeartbeats 16000000
namespace Go.Proofs.YtoimgcjbcbhclaaGreatDoor
open Go.RowKit
abbrev nd0 : Obj := nodeObj 0 noText 0 (.slice none 0 0)
structure Stn (c : PC) (w : World) (i : Nat) (W : World) : Prop where
 ps : Ps c W i 0 (-1)
 nd : W.heap[w.heap.size]? = some nd0
 ap : Ap c.P w.heap.size w W
section
variable {c : PC} {w : World}
include c w
theorem Stn.new {i : Nat} (h : Ps c w i 0 (-1)) : Stn c w i (w.alloc nd0) := ⟨h.alloc _, heap_new _ _, (Ap.refl c.P w.heap.size w).alloc (Nat.le_refl _) _⟩
theorem Stn.below {i : Nat} {W W' : World} (h : Stn c w i W) (hb : Below W.heap.size W W') : Stn c w i W' := ⟨h.ps.later hb, (hb.block _ (lt_of_heap h.nd)).trans h.nd, h.ap.next (Ap.of hb)⟩
theorem Stn.on {i j : Nat} {W W' : World} (h : Stn c w i W) (hP : c.P < w.heap.size) (hp : Ps c W' j 0 (-1)) (ha : Ap c.P W.heap.size W W') : Stn c w j W' := ⟨hp, (ha.block _ (lt_of_heap h.nd) (by omega)).trans h.nd, h.ap.next ha⟩
end
theorem st_done {B N : Nat} {W : World} {kd z : Int} {tx : ByteArray} {u : Value} {ps : List Nat} {ks : List Tr} (hB : B ≤ N) (hb : W.heap[N]? = some (nodeObj kd tx z u)) (hr : W.ownsRow B 22 1 u ps.length (ps.map nPtr)) (hk : NAts (fun b => B ≤ b ∧ b ≠ N) W ks ps) : NV B W (.mk kd tx z ks) (nPtr N) := by
 refine ⟨N, rfl, ?_⟩
 rw [NAt]
 exact ⟨hB, u, ps, hb, ⟨owns_zero hr, fun g hg => (own_lt hr g hg).2⟩, hk⟩
theorem st_row {B N z4 n : Nat} {w5 X : World} {kd z : Int} {tx : ByteArray} {ks : List Tr} {ps : List Nat} (hBN : B ≤ N) (hN : N < z4) (hX : ∀ b, b ≠ N → X.heap[b]? = w5.heap[b]?) (hz : X.heap.size = w5.heap.size) (h5 : z4 ≤ w5.heap.size)
  (nb : X.heap[N]? = some (nodeObj kd tx z (.slice (some ⟨w5.heap.size, 0, none⟩) n n))) (hk : NAts (fun b => z4 ≤ b) w5 ks ps) (hn : n = ps.length) (cs : Array Value) (hc : cs.toList = ps.map nPtr) (hl : ps.length ≤ maxLen) : NV B (X.alloc (.cells cs 22)) (.mk kd tx z ks) (nPtr N) := by
 subst hn
 have hcs : cs.size = ps.length * 1 := by rw [← Array.length_toList, hc]; simp
 have ho := World.ownsRow_lit (base := B) (e := 22) (size := 1) X cs ps.length (by omega) hl hcs
 rw [hz, hc] at ho
 refine st_done hBN (by rw [Below.heap_alloc _ _ _ (by omega)]; exact nb) ho ?_
 have hs : Stay (fun b => z4 ≤ b) w5 (X.alloc (.cells cs 22)) := fun b hb hl => by rw [Below.heap_alloc _ _ _ (by omega)]; exact hX b (by have : z4 ≤ b := hb; omega)
 exact NAts.mono (fun b hb _ => by have : z4 ≤ b := hb; exact ⟨by omega, by omega⟩) _ _ (NAts.later hs _ _ hk)
theorem set2 (w5 : World) (N : Nat) (a b : Value) : ∀ k, k ≠ N → ((w5.setCell ⟨N, 0, none⟩ a).setCell ⟨N, 3, none⟩ b).heap[k]? = w5.heap[k]? := fun k hk => by rw [Below.heap_setCell _ _ _ k (by first | exact hk | exact Ne.symm hk), Below.heap_setCell _ _ _ k (by first | exact hk | exact Ne.symm hk)]
theorem set1 (w5 : World) (N : Nat) (b : Value) : ∀ k, k ≠ N → (w5.setCell ⟨N, 3, none⟩ b).heap[k]? = w5.heap[k]? := fun k hk => by rw [Below.heap_setCell _ _ _ k (by first | exact hk | exact Ne.symm hk)]
theorem owns_nil {B : Nat} {W : World} : W.ownsRow B 22 1 (.slice none 0 0) ([] : List Nat).length (([] : List Nat).map nPtr) := ⟨rfl, Or.inl ⟨rfl, rfl⟩⟩
section
variable {c : PC} {F : Fns} (hF : RCt c F) (hN : ∃ k, FNx c.l k F) (hK : FOk F) (w : World) (d i : Nat) (r : PR Tr) (hd : d ≤ 30)
include c F hF hN hK w d i r hd
theorem rst_block (hf : fx c.l i = tLBrace) (hs : r = blockP c.l F d i) (ho : r ≠ .out) (h : Ps c w i 0 (-1)) :
  Calls Tryz.prog 111 #[pPtr c, .int .i64 (d : Int)] w (QPost c w (NV w.heap.size) ZN r) := by
 have HLT := hide h.rlt
 have HLO := hide h.base.size
 have HO := hide ho
 have HF := hide hF
 have HNN := hide hN
 have HKK := hide hK
 have hdd : decide ((30 : Int) < (d : Int)) = false := decide_eq_false (by omega)
 have HS0 := hide (Stn.new h)
 have hc := rnext_any c (w.alloc nd0) i tLBrace (by decide) HS0.out.ps
 rw [decide_eq_true hf] at hc
 have HC := hide hc
 clear hc
 clear h
 go_enter Tryz.func111, Tryz.ntmps111
 go_wp2_with fail
 refine cm HC.out ?_
 rintro e w1 ⟨rfl, hb⟩
 have HS1 := hide (HS0.out.below hb)
 clear hb HC HS0
 have HC := hide (rbraces_any HF.out HNN.out HKK.out false w1 d i r hd (by rw [hs]; rfl) ho HS1.out.ps)
 clear ho hs hF hN hK
 go_wp2_with fail
 refine cm HC.out ?_
 intro e wz hp
 cases r with
 | out => exact absurd rfl HO.out
 | bad er pl =>
  obtain ⟨⟨v, rfl, q, rfl⟩, hp1, he, ha⟩ := hp; have HP := hide hp1; have HA := hide (HS1.out.ap.next ha); exact zcbr
 | ok t j =>
  obtain ⟨⟨v, rfl, q, rfl, hn⟩, hp1, ha⟩ := hp; have HP := hide hp1; have HA := hide (HS1.out.ap.next ha)
  have HN := hide (NAt.mono (fun b hb _ => Nat.le_trans HS1.out.ap.size hb) _ _ hn : NAt (fun b => w.heap.size ≤ b) wz t q); exact zcbn
theorem rst_empty (hf : fx c.l i = tSemi) (hs : r = .ok (.mk 16 noText 0 []) (i + 1)) (ho : r ≠ .out) (h : Ps c w i 0 (-1)) :
  Calls Tryz.prog 111 #[pPtr c, .int .i64 (d : Int)] w (QPost c w (NV w.heap.size) ZN r) := by
 have HLT := hide h.rlt
 have HLO := hide h.base.size
 have HO := hide ho
 have HF := hide hF
 have HNN := hide hN
 have HKK := hide hK
 have hdd : decide ((30 : Int) < (d : Int)) = false := decide_eq_false (by omega)
 have n0 : ¬ fx c.l i = tLBrace := by rw [hf]; decide
 have HS0 := hide (Stn.new h)
 have hc := rnext_any c (w.alloc nd0) i tLBrace (by decide) HS0.out.ps
 rw [decide_eq_false n0] at hc
 have HC := hide hc
 clear hc
 clear h
 go_enter Tryz.func111, Tryz.ntmps111
 go_wp2_with fail
 refine cm HC.out ?_
 rintro e w1 ⟨rfl, hb⟩
 have HS1 := hide (HS0.out.below hb)
 clear hb HC HS0
 have HC := hide (rskip_yes c w1 i tSemi (by decide) hf HS1.out.ps)
 go_wp2_with fail
 refine cm HC.out ?_
 rintro e w2 ⟨rfl, hp, ha⟩
 have HS2 := hide (HS1.out.on HLT.out hp ha)
 clear hp ha HC HS1
 subst hs
 have nb := HS2.out.nd
 obtain ⟨c0, c1, c2, c3, cf⟩ := node_cells nb
 have cf0 := cf 0
 have hnl := lt_of_heap nb
 have HB := hide nb
 clear nb
 go_wp2_with fail
 go_ret
 refine ⟨⟨_, rfl, st_done (Nat.le_refl _) (by rw [heap_set HB.out]; rfl) owns_nil NAts.nil⟩, ?_, ?_⟩
 ·
  exact HS2.out.ps.ap ((Below.refl w.heap.size w2).setCell (p := ⟨w.heap.size, 0, none⟩) (Nat.le_refl _) _) HLO.out
 ·
  exact HS2.out.ap.setCell (p := ⟨w.heap.size, 0, none⟩) (Or.inl (Nat.le_refl _)) _
theorem rst_func (hf : fx c.l i = tFunction) (hs : r = (nameP c.l (i + 1)).bind fun s i2 => rfuncTail c.l F 5 s d i2) (ho : r ≠ .out) (h : Ps c w i 0 (-1)) :
  Calls Tryz.prog 111 #[pPtr c, .int .i64 (d : Int)] w (QPost c w (NV w.heap.size) ZN r) := by
 have HLT := hide h.rlt
 have HLO := hide h.base.size
 have HO := hide ho
 have HF := hide hF
 have HNN := hide hN
 have HKK := hide hK
 have hdd : decide ((30 : Int) < (d : Int)) = false := decide_eq_false (by omega)
 have n0 : ¬ fx c.l i = tLBrace := by rw [hf]; decide
 have n1 : ¬ fx c.l i = tSemi := by rw [hf]; decide
 have HS0 := hide (Stn.new h)
 have hc := rnext_any c (w.alloc nd0) i tLBrace (by decide) HS0.out.ps
 rw [decide_eq_false n0] at hc
 have HC := hide hc
 clear hc
 clear h
 go_enter Tryz.func111, Tryz.ntmps111
 go_wp2_with fail
 refine cm HC.out ?_
 rintro e w1 ⟨rfl, hb⟩
 have HS1 := hide (HS0.out.below hb)
 clear hb HC HS0
 have HC := hide (rskip_no c w1 i tSemi (by decide) n1 HS1.out.ps)
 go_wp2_with fail
 refine cm HC.out ?_
 rintro e w2 ⟨rfl, hb⟩
 have HS2 := hide (HS1.out.below hb)
 clear hb HC HS1
 have HC := hide (rskip_yes c w2 i tFunction (by decide) hf HS2.out.ps)
 go_wp2_with fail
 refine cm HC.out ?_
 rintro e w3 ⟨rfl, hp, ha⟩
 have HS3 := hide (HS2.out.on HLT.out hp ha)
 clear hp ha HC HS2
 have HQ := hide hs
 have HC := hide (rident_any c w3 (i + 1) HS3.out.ps)
 clear ho hs hF hN hK
 go_wp2_with fail
 refine cm HC.out ?_
 intro e w9 hp
 clear HC
 cases hr : nameP c.l (i + 1) with
 | out => rw [hr] at HQ; exact absurd HQ.out HO.out
 | bad er pl =>
  rw [hr] at hp HQ; have hq : r = .bad er pl := unhide HQ; subst hq; obtain ⟨⟨v, rfl, s, rfl⟩, ⟨j, hp1⟩, he, ha⟩ := hp; have HA := hide (HS3.out.ap.next ha)
  have HC := hide (rfunction_old c w9 j er pl 5 (d : Int) s he hp1); clear hp1 ha hr HQ; go_wp2_with fail; refine cm HC.out ?_; rintro e wz ⟨⟨v, rfl, q, rfl⟩, hp2, _, ha2⟩; have HP2 := hide hp2
  have HA2 := hide (HA.out.next ha2); clear hp2 ha2 HC; exact zbck
 | ok s j =>
  rw [hr] at hp HQ; have hq : r = rfuncTail c.l F 5 s d j := unhide HQ; obtain ⟨⟨v, rfl, rfl⟩, hp1, ha⟩ := hp; have HS9 := hide (HS3.out.on HLT.out hp1 ha)
  have HC := hide (rfunction_any HF.out HNN.out HKK.out w9 5 s d j r hd hq HO.out hp1); clear hp1 ha hr HQ hq; go_wp2_with fail; refine cm HC.out ?_; intro e wz hp
  cases r with
  | out => exact absurd rfl HO.out
  | bad er pl =>
   obtain ⟨⟨v, rfl, q, rfl⟩, hp1, he, ha⟩ := hp; have HP := hide hp1; have HA := hide (HS9.out.ap.next ha); exact zcbr
  | ok t j =>
   obtain ⟨⟨v, rfl, q, rfl, hn⟩, hp1, ha⟩ := hp; have HP := hide hp1; have HA := hide (HS9.out.ap.next ha)
   have HN := hide (NAt.mono (fun b hb _ => Nat.le_trans HS9.out.ap.size hb) _ _ hn : NAt (fun b => w.heap.size ≤ b) wz t q); exact zcbn
theorem rst_throw (hf : fx c.l i = tThrow) (hs : r = (deepP c.l F.vl d (i + 1)).bind fun v i1 => (mustP c.l tSemi i1).bind fun _ i2 => .ok (.mk 11 noText 0 [v]) i2) (ho : r ≠ .out) (h : Ps c w i 0 (-1)) :
  Calls Tryz.prog 111 #[pPtr c, .int .i64 (d : Int)] w (QPost c w (NV w.heap.size) ZN r) := by
 have HLT := hide h.rlt
 have HLO := hide h.base.size
 have HO := hide ho
 have HF := hide hF
 have HNN := hide hN
 have HKK := hide hK
 have hdd : decide ((30 : Int) < (d : Int)) = false := decide_eq_false (by omega)
 have n0 : ¬ fx c.l i = tLBrace := by rw [hf]; decide
 have n1 : ¬ fx c.l i = tSemi := by rw [hf]; decide
 have n2 : ¬ fx c.l i = tFunction := by rw [hf]; decide
 have n3 : ¬ fx c.l i = tIf := by rw [hf]; decide
 have n4 : ¬ fx c.l i = tWhile := by rw [hf]; decide
 have n5 : ¬ fx c.l i = tWith := by rw [hf]; decide
 have n6 : ¬ fx c.l i = tTry := by rw [hf]; decide
 have n7 : ¬ fx c.l i = tVar := by rw [hf]; decide
 have n8 : ¬ fx c.l i = tLet := by rw [hf]; decide
 have n9 : ¬ fx c.l i = tConst := by rw [hf]; decide
 have n10 : ¬ fx c.l i = tReturn := by rw [hf]; decide
 have HS0 := hide (Stn.new h)
 have hc := rnext_any c (w.alloc nd0) i tLBrace (by decide) HS0.out.ps
 rw [decide_eq_false n0] at hc
 have HC := hide hc
 clear hc
 clear h
 go_enter Tryz.func111, Tryz.ntmps111
 go_wp2_with fail
 refine cm HC.out ?_
 rintro e w1 ⟨rfl, hb⟩
 have HS1 := hide (HS0.out.below hb)
 clear hb HC HS0
 have HC := hide (rskip_no c w1 i tSemi (by decide) n1 HS1.out.ps)
 go_wp2_with fail
 refine cm HC.out ?_
 rintro e w2 ⟨rfl, hb⟩
 have HS2 := hide (HS1.out.below hb)
 clear hb HC HS1
 have HC := hide (rskip_no c w2 i tFunction (by decide) n2 HS2.out.ps)
 go_wp2_with fail
 refine cm HC.out ?_
 rintro e w3 ⟨rfl, hb⟩
 have HS3 := hide (HS2.out.below hb)
 clear hb HC HS2
 have HC := hide (rskip_no c w3 i tIf (by decide) n3 HS3.out.ps)
 go_wp2_with fail
 refine cm HC.out ?_
 rintro e w4 ⟨rfl, hb⟩
 have HS4 := hide (HS3.out.below hb)
 clear hb HC HS3
 have hc := rnext_any c w4 i tWhile (by decide) HS4.out.ps
 rw [decide_eq_false n4] at hc
 have HC := hide hc
 clear hc
 go_wp2_with fail
 refine cm HC.out ?_
 rintro e w5 ⟨rfl, hb⟩
 have HS5 := hide (HS4.out.below hb)
 clear hb HC HS4
 have hc := rnext_any c w5 i tWith (by decide) HS5.out.ps
 rw [decide_eq_false n5] at hc
 have HC := hide hc
 clear hc
 go_wp2_with fail
 refine cm HC.out ?_
 rintro e w6 ⟨rfl, hb⟩
 have HS6 := hide (HS5.out.below hb)
 clear hb HC HS5
 have HC := hide (rskip_no c w6 i tTry (by decide) n6 HS6.out.ps)
 go_wp2_with fail
 refine cm HC.out ?_
 rintro e w7 ⟨rfl, hb⟩
 have HS7 := hide (HS6.out.below hb)
 clear hb HC HS6
 have hc := rnext_any c w7 i tVar (by decide) HS7.out.ps
 rw [decide_eq_false n7] at hc
 have HC := hide hc
 clear hc
 go_wp2_with fail
 refine cm HC.out ?_
 rintro e w8 ⟨rfl, hb⟩
 have HS8 := hide (HS7.out.below hb)
 clear hb HC HS7
 have hc := rnext_any c w8 i tLet (by decide) HS8.out.ps
 rw [decide_eq_false n8] at hc
 have HC := hide hc
 clear hc
 go_wp2_with fail
 refine cm HC.out ?_
 rintro e w9 ⟨rfl, hb⟩
 have HS9 := hide (HS8.out.below hb)
 clear hb HC HS8
 have hc := rnext_any c w9 i tConst (by decide) HS9.out.ps
 rw [decide_eq_false n9] at hc
 have HC := hide hc
 clear hc
 go_wp2_with fail
 refine cm HC.out ?_
 rintro e w10 ⟨rfl, hb⟩
 have HS10 := hide (HS9.out.below hb)
 clear hb HC HS9
 have HC := hide (rskip_no c w10 i tReturn (by decide) n10 HS10.out.ps)
 go_wp2_with fail
 refine cm HC.out ?_
 rintro e w11 ⟨rfl, hb⟩
 have HS11 := hide (HS10.out.below hb)
 clear hb HC HS10
 have HC := hide (rskip_yes c w11 i tThrow (by decide) hf HS11.out.ps)
 go_wp2_with fail
 refine cm HC.out ?_
 rintro e w12 ⟨rfl, hp, ha⟩
 have HS12 := hide (HS11.out.on HLT.out hp ha)
 clear hp ha HC HS11
 have HQ := hide hs
 clear ho hs hF hN hK
 cases hr : deepP c.l F.vl d (i + 1) with
 | out => rw [hr] at HQ; exact absurd HQ.out HO.out
 | bad er pl =>
  have HC := hide (HF.out.vl w12 d (i + 1) _ hd hr.symm (by nofun) HS12.out.ps); rw [hr] at HQ; have hq : r = .bad er pl := unhide HQ; subst hq; clear hr HQ; go_wp2_with fail; refine cm HC.out ?_
  rintro e wv ⟨⟨v, rfl, q, rfl⟩, ⟨j, hp1⟩, he, ha⟩; have nb := (ha.block _ (lt_of_heap HS12.out.nd) (by have := unhide HLT; omega)).trans HS12.out.nd
  obtain ⟨c0, c1, c2, c3, cf⟩ := node_cells nb; have cf0 := cf 0; have cf3 := cf 3; have hnl := lt_of_heap nb; have hA := HS12.out.ap.next ha
  have HB : Hid (Below w.heap.size wv (((wv.setCell ⟨w.heap.size, 0, none⟩ (.int .i64 11)).setCell ⟨w.heap.size, 3, none⟩ (.slice (some ⟨wv.heap.size, 0, none⟩) 1 1)).alloc (.cells #[nPtr q] 22))) := (((Below.refl w.heap.size wv).setCell (p := ⟨w.heap.size, 0, none⟩) (Nat.le_refl _) _).setCell (p := ⟨w.heap.size, 3, none⟩) (Nat.le_refl _) _).alloc (by simp; omega) _
  exact zbce
 | ok t j =>
  have HC := hide (HF.out.vl w12 d (i + 1) _ hd hr.symm (by nofun) HS12.out.ps); rw [hr] at HQ; have hq : r = (mustP c.l tSemi j).bind fun _ i2 => .ok (.mk 11 noText 0 [t]) i2 := unhide HQ; have HQ2 := hide hq
  clear hr HQ hq; go_wp2_with fail; refine cm HC.out ?_; rintro e wv ⟨⟨v, rfl, q, rfl, hn⟩, hp1, ha⟩; have nb := (ha.block _ (lt_of_heap HS12.out.nd) (by have := unhide HLT; omega)).trans HS12.out.nd
  obtain ⟨c0, c1, c2, c3, cf⟩ := node_cells nb; have cf0 := cf 0; have cf3 := cf 3; have hnl := lt_of_heap nb; have hA := HS12.out.ap.next ha
  have HB : Hid (Below w.heap.size wv (((wv.setCell ⟨w.heap.size, 0, none⟩ (.int .i64 11)).setCell ⟨w.heap.size, 3, none⟩ (.slice (some ⟨wv.heap.size, 0, none⟩) 1 1)).alloc (.cells #[nPtr q] 22))) := (((Below.refl w.heap.size wv).setCell (p := ⟨w.heap.size, 0, none⟩) (Nat.le_refl _) _).setCell (p := ⟨w.heap.size, 3, none⟩) (Nat.le_refl _) _).alloc (by simp; omega) _
  have HA := hide (hA.trans (Ap.of HB.out)); have HP := hide (hp1.ap HB.out HLO.out)
  have HN : Hid (NV w.heap.size (((wv.setCell ⟨w.heap.size, 0, none⟩ (.int .i64 11)).setCell ⟨w.heap.size, 3, none⟩ (.slice (some ⟨wv.heap.size, 0, none⟩) 1 1)).alloc (.cells #[nPtr q] 22)) (.mk 11 noText 0 [t]) (nPtr w.heap.size)) := st_row (Nat.le_refl _) (lt_of_heap HS12.out.nd) (set2 wv w.heap.size _ _) (by simp) ha.size (by rw [heap_set (heap_set nb _)]; rfl) (NAts.cons hn NAts.nil) rfl #[nPtr q] rfl (by simp [maxLen])
  have HC2 := hide (rmust_any c _ j tSemi (by decide) HP.out); clear hp1 ha HC nb hA hn; go_wp2_with fail; refine cm HC2.out ?_; intro e wz hp
  cases hr2 : mustP c.l tSemi j with
  | out => rw [hr2] at HQ2; exact absurd HQ2.out HO.out
  | bad er pl =>
   exact zbbv
  | ok x j2 =>
   rw [hr2] at hp HQ2; have hq : r = .ok (.mk 11 noText 0 [t]) j2 := unhide HQ2; exact zbbx
theorem rst_expr (n0 : ¬ fx c.l i = tLBrace) (n1 : ¬ fx c.l i = tSemi) (n2 : ¬ fx c.l i = tFunction) (n3 : ¬ fx c.l i = tIf) (n4 : ¬ fx c.l i = tWhile) (n5 : ¬ fx c.l i = tWith) (n6 : ¬ fx c.l i = tTry) (n7 : ¬ fx c.l i = tVar) (n8 : ¬ fx c.l i = tLet) (n9 : ¬ fx c.l i = tConst) (n10 : ¬ fx c.l i = tReturn) (n11 : ¬ fx c.l i = tThrow) (hs : r = (deepP c.l F.vl d i).bind fun v i1 => (mustP c.l tSemi i1).bind fun _ i2 => .ok (.mk 15 noText 0 [v]) i2) (ho : r ≠ .out) (h : Ps c w i 0 (-1)) :
  Calls Tryz.prog 111 #[pPtr c, .int .i64 (d : Int)] w (QPost c w (NV w.heap.size) ZN r) := by
 have HLT := hide h.rlt
 have HLO := hide h.base.size
 have HO := hide ho
 have HF := hide hF
 have HNN := hide hN
 have HKK := hide hK
 have hdd : decide ((30 : Int) < (d : Int)) = false := decide_eq_false (by omega)
 have HS0 := hide (Stn.new h)
 have hc := rnext_any c (w.alloc nd0) i tLBrace (by decide) HS0.out.ps
 rw [decide_eq_false n0] at hc
 have HC := hide hc
 clear hc
 clear h
 go_enter Tryz.func111, Tryz.ntmps111
 go_wp2_with fail
 refine cm HC.out ?_
 rintro e w1 ⟨rfl, hb⟩
 have HS1 := hide (HS0.out.below hb)
 clear hb HC HS0
 have HC := hide (rskip_no c w1 i tSemi (by decide) n1 HS1.out.ps)
 go_wp2_with fail
 refine cm HC.out ?_
 rintro e w2 ⟨rfl, hb⟩
 have HS2 := hide (HS1.out.below hb)
 clear hb HC HS1
 have HC := hide (rskip_no c w2 i tFunction (by decide) n2 HS2.out.ps)
 go_wp2_with fail
 refine cm HC.out ?_
 rintro e w3 ⟨rfl, hb⟩
 have HS3 := hide (HS2.out.below hb)
 clear hb HC HS2
 have HC := hide (rskip_no c w3 i tIf (by decide) n3 HS3.out.ps)
 go_wp2_with fail
 refine cm HC.out ?_
 rintro e w4 ⟨rfl, hb⟩
 have HS4 := hide (HS3.out.below hb)
 clear hb HC HS3
 have hc := rnext_any c w4 i tWhile (by decide) HS4.out.ps
 rw [decide_eq_false n4] at hc
 have HC := hide hc
 clear hc
 go_wp2_with fail
 refine cm HC.out ?_
 rintro e w5 ⟨rfl, hb⟩
 have HS5 := hide (HS4.out.below hb)
 clear hb HC HS4
 have hc := rnext_any c w5 i tWith (by decide) HS5.out.ps
 rw [decide_eq_false n5] at hc
 have HC := hide hc
 clear hc
 go_wp2_with fail
 refine cm HC.out ?_
 rintro e w6 ⟨rfl, hb⟩
 have HS6 := hide (HS5.out.below hb)
 clear hb HC HS5
 have HC := hide (rskip_no c w6 i tTry (by decide) n6 HS6.out.ps)
 go_wp2_with fail
 refine cm HC.out ?_
 rintro e w7 ⟨rfl, hb⟩
 have HS7 := hide (HS6.out.below hb)
 clear hb HC HS6
 have hc := rnext_any c w7 i tVar (by decide) HS7.out.ps
 rw [decide_eq_false n7] at hc
 have HC := hide hc
 clear hc
 go_wp2_with fail
 refine cm HC.out ?_
 rintro e w8 ⟨rfl, hb⟩
 have HS8 := hide (HS7.out.below hb)
 clear hb HC HS7
 have hc := rnext_any c w8 i tLet (by decide) HS8.out.ps
 rw [decide_eq_false n8] at hc
 have HC := hide hc
 clear hc
 go_wp2_with fail
 refine cm HC.out ?_
 rintro e w9 ⟨rfl, hb⟩
 have HS9 := hide (HS8.out.below hb)
 clear hb HC HS8
 have hc := rnext_any c w9 i tConst (by decide) HS9.out.ps
 rw [decide_eq_false n9] at hc
 have HC := hide hc
 clear hc
 go_wp2_with fail
 refine cm HC.out ?_
 rintro e w10 ⟨rfl, hb⟩
 have HS10 := hide (HS9.out.below hb)
 clear hb HC HS9
 have HC := hide (rskip_no c w10 i tReturn (by decide) n10 HS10.out.ps)
 go_wp2_with fail
 refine cm HC.out ?_
 rintro e w11 ⟨rfl, hb⟩
 have HS11 := hide (HS10.out.below hb)
 clear hb HC HS10
 have HC := hide (rskip_no c w11 i tThrow (by decide) n11 HS11.out.ps)
 go_wp2_with fail
 refine cm HC.out ?_
 rintro e w12 ⟨rfl, hb⟩
 have HS12 := hide (HS11.out.below hb)
 clear hb HC HS11
 have HQ := hide hs
 clear ho hs hF hN hK
 cases hr : deepP c.l F.vl d i with
 | out => rw [hr] at HQ; exact absurd HQ.out HO.out
 | bad er pl =>
  have HC := hide (HF.out.vl w12 d i _ hd hr.symm (by nofun) HS12.out.ps); rw [hr] at HQ; have hq : r = .bad er pl := unhide HQ; subst hq; clear hr HQ; go_wp2_with fail; refine cm HC.out ?_
  rintro e wv ⟨⟨v, rfl, q, rfl⟩, ⟨j, hp1⟩, he, ha⟩; have nb := (ha.block _ (lt_of_heap HS12.out.nd) (by have := unhide HLT; omega)).trans HS12.out.nd
  obtain ⟨c0, c1, c2, c3, cf⟩ := node_cells nb; have cf0 := cf 0; have cf3 := cf 3; have hnl := lt_of_heap nb; have hA := HS12.out.ap.next ha
  have HB : Hid (Below w.heap.size wv (((wv.setCell ⟨w.heap.size, 0, none⟩ (.int .i64 15)).setCell ⟨w.heap.size, 3, none⟩ (.slice (some ⟨wv.heap.size, 0, none⟩) 1 1)).alloc (.cells #[nPtr q] 22))) := (((Below.refl w.heap.size wv).setCell (p := ⟨w.heap.size, 0, none⟩) (Nat.le_refl _) _).setCell (p := ⟨w.heap.size, 3, none⟩) (Nat.le_refl _) _).alloc (by simp; omega) _
  exact zbce
 | ok t j =>
  have HC := hide (HF.out.vl w12 d i _ hd hr.symm (by nofun) HS12.out.ps); rw [hr] at HQ; have hq : r = (mustP c.l tSemi j).bind fun _ i2 => .ok (.mk 15 noText 0 [t]) i2 := unhide HQ; have HQ2 := hide hq; clear hr HQ hq
  go_wp2_with fail; refine cm HC.out ?_; rintro e wv ⟨⟨v, rfl, q, rfl, hn⟩, hp1, ha⟩; have nb := (ha.block _ (lt_of_heap HS12.out.nd) (by have := unhide HLT; omega)).trans HS12.out.nd
  obtain ⟨c0, c1, c2, c3, cf⟩ := node_cells nb; have cf0 := cf 0; have cf3 := cf 3; have hnl := lt_of_heap nb; have hA := HS12.out.ap.next ha
  have HB : Hid (Below w.heap.size wv (((wv.setCell ⟨w.heap.size, 0, none⟩ (.int .i64 15)).setCell ⟨w.heap.size, 3, none⟩ (.slice (some ⟨wv.heap.size, 0, none⟩) 1 1)).alloc (.cells #[nPtr q] 22))) := (((Below.refl w.heap.size wv).setCell (p := ⟨w.heap.size, 0, none⟩) (Nat.le_refl _) _).setCell (p := ⟨w.heap.size, 3, none⟩) (Nat.le_refl _) _).alloc (by simp; omega) _
  have HA := hide (hA.trans (Ap.of HB.out)); have HP := hide (hp1.ap HB.out HLO.out)
  have HN : Hid (NV w.heap.size (((wv.setCell ⟨w.heap.size, 0, none⟩ (.int .i64 15)).setCell ⟨w.heap.size, 3, none⟩ (.slice (some ⟨wv.heap.size, 0, none⟩) 1 1)).alloc (.cells #[nPtr q] 22)) (.mk 15 noText 0 [t]) (nPtr w.heap.size)) := st_row (Nat.le_refl _) (lt_of_heap HS12.out.nd) (set2 wv w.heap.size _ _) (by simp) ha.size (by rw [heap_set (heap_set nb _)]; rfl) (NAts.cons hn NAts.nil) rfl #[nPtr q] rfl (by simp [maxLen])
  have HC2 := hide (rmust_any c _ j tSemi (by decide) HP.out); clear hp1 ha HC nb hA hn; go_wp2_with fail; refine cm HC2.out ?_; intro e wz hp
  cases hr2 : mustP c.l tSemi j with
  | out => rw [hr2] at HQ2; exact absurd HQ2.out HO.out
  | bad er pl =>
   exact zbbv
  | ok x j2 =>
   rw [hr2] at hp HQ2; have hq : r = .ok (.mk 15 noText 0 [t]) j2 := unhide HQ2; exact zbbx
end
theorem st_open {B N z4 n : Nat} {w5 X : World} {kd z : Int} {tx : ByteArray} {ks : List Tr} {ps : List Nat} (hBN : B ≤ N) (hN : N < z4) (hX : ∀ b, b ≠ N → X.heap[b]? = w5.heap[b]?) (hz : X.heap.size = w5.heap.size) (h5 : z4 ≤ w5.heap.size)
  (nb : X.heap[N]? = some (nodeObj kd tx z (.slice (some ⟨w5.heap.size, 0, none⟩) n n))) (hk : NAts (fun b => z4 ≤ b) w5 ks ps) (hn : n = ps.length) (cs : Array Value) (hc : cs.toList = ps.map nPtr) (hl : ps.length ≤ maxLen) : Open B (X.alloc (.cells cs 22)) (.mk kd tx z ks) N (.slice (some ⟨w5.heap.size, 0, none⟩) n n) ps := by
 subst hn
 have hcs : cs.size = ps.length * 1 := by rw [← Array.length_toList, hc]; simp
 have ho := World.ownsRow_lit (base := B) (e := 22) (size := 1) X cs ps.length (by omega) hl hcs
 rw [hz, hc] at ho
 refine ⟨hBN, by rw [Below.heap_alloc _ _ _ (by omega)]; exact nb, ho, ?_, ?_⟩
 ·
  intro e; simp only [Value.ownBlock, Option.some.injEq] at e; omega
 ·
  have hs : Stay (fun b => z4 ≤ b ∧ b < w5.heap.size) w5 (X.alloc (.cells cs 22)) := fun b hb hl => by rw [Below.heap_alloc _ _ _ (by omega)]; exact hX b (by have : z4 ≤ b := hb.1; omega)
  have h1 := NAts.mono (J := fun b => z4 ≤ b ∧ b < w5.heap.size) (fun b hb hl => ⟨hb, hl⟩) _ _ hk; exact NAts.mono (fun b hb _ => by
   have h2 : z4 ≤ b ∧ b < w5.heap.size := hb; refine ⟨by omega, by omega, fun e => ?_⟩; simp only [Value.ownBlock, Option.some.injEq] at e; omega) _ _ (NAts.later hs _ _ h1)
theorem Open.nv {B : Nat} {w : World} {t : Tr} {p : Nat} {u : Value} {ps : List Nat} (h : Open B w t p u ps) : NV B w t (nPtr p) := h.ev.nv
theorem Open.stay {R B : Nat} {w w' : World} {t : Tr} {p : Nat} {u : Value} {ps : List Nat} (h : Open B w t p u ps) (ha : Ap R w.heap.size w w') (hB : R < B) : Open B w' t p u ps :=
 ⟨h.low, by rw [ha.block p (lt_of_heap h.blk) (by have := h.low; omega)]; exact h.blk, owns_stay (I := fun b => B ≤ b) (Stay.of_ap ha hB fun _ h => h) (fun g hg => (own_lt h.row g hg).2) h.row, h.own, NAts.later (Stay.of_ap ha hB fun _ h => h.1) _ _ h.kids⟩
theorem Open.grows {B : Nat} {w1 w2 w3 : World} {t : Tr} {p : Nat} {u v : Value} {ps : List Nat} (h : Open B w1 t p u ps) (hb : Below B w1 w2) (hB : B ≤ w2.heap.size) (hgr : w2.grownBy w3 u.ownBlock) : Below B w1 (w3.setCell ⟨p, 3, none⟩ v) :=
 (hb.grown hgr hB (fun k hk => (own_lt h.row k hk).2)).setCell (p := ⟨p, 3, none⟩) h.low _
theorem Open.push {B : Nat} {w2 w3 : World} {t x : Tr} {p q g cap n : Nat} {u : Value} {ps : List Nat} (h : Open B w2 t p u ps) (hx : NAts (fun b => B ≤ b ∧ b ≠ p ∧ u.ownBlock ≠ some b) w2 (t.kids ++ [x]) (ps ++ [q])) (hn : n = t.kids.length + 1)
  (hown : w3.ownsRow B 22 1 (.slice (some ⟨g, 0, none⟩) n cap) n (ps.map nPtr ++ [nPtr q])) (hgr : w2.grownBy w3 u.ownBlock) (hg : u.ownBlock = some g ∨ g = w2.heap.size) :
  EV B (w3.setCell ⟨p, 3, none⟩ (.slice (some ⟨g, 0, none⟩) n cap)) (.mk t.kd t.tx t.n (t.kids ++ [x])) (nPtr p) :=
 ev_push h.low h.blk h.own hx (by rw [List.map_append]; exact hown) (by rw [hn]; simp [NAts.length _ _ h.kids]) hgr hg
theorem Open.kb {R B : Nat} {w w1 : World} {t : Tr} {p : Nat} {u : Value} {ps : List Nat} (h : Open B w t p u ps) (ha : Ap R w.heap.size w w1) (hR : R < B) : NAts (fun b => (B ≤ b ∧ b ≠ p ∧ u.ownBlock ≠ some b) ∧ b < w.heap.size) w1 t.kids ps :=
 NAts.later (Stay.of_ap ha hR fun _ h => h.1.1) _ _ (NAts.mono (fun _ hb hl => ⟨hb, hl⟩) _ _ h.kids)
theorem Open.apart2 {B Z : Nat} {w w1 : World} {t : Tr} {p : Nat} {u : Value} {ps : List Nat} (h : Open B w t p u ps) (hB : B ≤ w.heap.size) (hZ : w.heap.size ≤ Z) {us : List Tr} {qs : List Nat} (hn : NAts (fun b => Z ≤ b) w1 us qs) (hk : NAts (fun b => (B ≤ b ∧ b ≠ p ∧ u.ownBlock ≠ some b) ∧ b < w.heap.size) w1 t.kids ps) :
  NAts (fun b => B ≤ b ∧ b ≠ p ∧ u.ownBlock ≠ some b) w1 (t.kids ++ us) (ps ++ qs) :=
 NAts.append (M := w.heap.size) _ _ (NAts.mono (fun b hb _ => by
  have h1 : Z ≤ b := hb; have h2 := lt_of_heap h.blk; exact ⟨⟨by omega, by omega, fun e => by have := (own_lt h.row b e).1; omega⟩, by omega⟩) _ _ hn) hk
theorem Open.alloc {B : Nat} {w : World} {t : Tr} {p : Nat} {u : Value} {ps : List Nat} (h : Open B w t p u ps) (o : Obj) : Open B (w.alloc o) t p u ps :=
 ⟨h.low, by rw [Below.heap_alloc _ _ _ (lt_of_heap h.blk)]; exact h.blk, h.row.alloc _, h.own, NAts.later (fun b _ hl => Below.heap_alloc w _ b hl) _ _ h.kids⟩
theorem NAts.alloc {I : Nat → Prop} {w : World} {ts : List Tr} {ps : List Nat} (h : NAts I w ts ps) (o : Obj) : NAts I (w.alloc o) ts ps := NAts.later (fun b _ hl => Below.heap_alloc w _ b hl) _ _ h
theorem Open.push2 {B : Nat} {w1 w3 : World} {t x : Tr} {p q g cap n : Nat} {u : Value} {ps : List Nat} (h : Open B w1 t p u ps) (hx : NAts (fun b => B ≤ b ∧ b ≠ p ∧ u.ownBlock ≠ some b) w1 (t.kids ++ [x]) (ps ++ [q])) (hn : n = t.kids.length + 1)
  (hown : w3.ownsRow B 22 1 (.slice (some ⟨g, 0, none⟩) n cap) n (ps.map nPtr ++ [nPtr q])) (hgr : (w1.alloc (.cells #[nPtr q] 22)).grownBy w3 u.ownBlock) (hg : u.ownBlock = some g ∨ g = w1.heap.size + 1) :
  EV B (w3.setCell ⟨p, 3, none⟩ (.slice (some ⟨g, 0, none⟩) n cap)) (.mk t.kd t.tx t.n (t.kids ++ [x])) (nPtr p) :=
 (h.alloc _).push (NAts.alloc hx _) hn hown hgr (hg.imp id fun e => by simp [e])
theorem Open.of_ev {B N : Nat} {w : World} {t : Tr} {kd n : Int} {tx : ByteArray} {v : Value} (h : EV B w t (nPtr N)) (hb : w.heap[N]? = some (nodeObj kd tx n v)) : ∃ ps, Open B w t N v ps := by
 obtain ⟨p, u, ps, he, ho⟩ := h.opens
 have h1 : N = p := by simpa [nPtr] using he
 subst h1
 have h2 := ho.blk
 rw [hb] at h2
 have h3 : v = u := by
  have h4 := h2; simp at h4; exact h4.2.2.2
 subst h3
 exact ⟨ps, ho⟩
structure CallOk (c : PC) (w : World) (Z : Nat) (t : Tr) (u : Value) (qs : List Nat) (x : Tr) (j : Nat) (wc : World) (pc : Nat) : Prop where
 ap : Ap c.P w.heap.size w wc
 ps : Ps c wc j 0 (-1)
 op : Open w.heap.size wc t w.heap.size u qs
 nd : NAts (fun b => Z ≤ b) wc [x] [pc]
 sz : Z ≤ wc.heap.size
 kb : NAts (fun b => (w.heap.size ≤ b ∧ b ≠ w.heap.size ∧ u.ownBlock ≠ some b) ∧ b < Z) wc t.kids qs
structure CallBad (c : PC) (w : World) (t : Tr) (u : Value) (qs : List Nat) (er pl : Int) (wc : World) (pc : Nat) : Prop where
 ap : Ap c.P w.heap.size w wc
 ps : ∃ j, Ps c wc j er pl
 op : Open w.heap.size wc t w.heap.size u qs
 he : er ≠ 0
section
variable {P : Program} {md : Region.Mode} {ops : Array Oper} {Q : Exit → Act → World → Prop} {S : World → Prop} {b : Nat}
def wpAnyU (P : Program) (md : Region.Mode) (ops : Array Oper) (Q : Exit → Act → World → Prop) (S : World → Prop) (b : Nat) : Nat → Array Bool → Act → World → Prop
 | 0, listed, a, w => Region.ready md ops listed = [] ∧ Q .normal a w
 | n + 1, listed, a, w => (Region.ready md ops listed = [] → Q .normal a w) ∧ ∀ i ∈ Region.ready md ops listed, wpOp P ops Q i (fun a' w' => ((listed.setIfInBounds i true).getD b false = false → S w') ∧ wpAnyU P md ops Q S b n (listed.setIfInBounds i true) a' w') a w
theorem wpAny_of_U : ∀ (n : Nat) (listed : Array Bool) (a : Act) (w : World), wpAnyU P md ops Q S b n listed a w → wpAny P md ops Q n listed a w
 | 0, _, _, _, h => h
 | n + 1, _, _, _, h => ⟨h.1, fun i hi => wpOp_mono (fun a' w' h' => wpAny_of_U n _ a' w' h'.2) (h.2 i hi)⟩
theorem U_first {i : Nat} {oi ob : Oper} {v : Value} (hi : ops[i]? = some oi) (hob : ops[b]? = some ob) (hsel : ∀ (j : Nat) (o : Oper) cs c, ops[j]? = some o → o.op ≠ .select cs c)
  (hQ : ∀ c a w, Q (.panic c) (a.put oi.dst v) w → Q (.panic c) a w) (hib : i ≠ b) (hw : ∃ e ∈ ob.after, Region.binds md e = true ∧ e.on = i) :
  ∀ (n : Nat) (listed : Array Bool) (a : Act) (w : World), listed.getD b false = false →
   (∀ j oj, ops[j]? = some oj → j ≠ i → listed.getD j true = false → (∀ e ∈ oj.after, Region.binds md e = true → e.on ≠ i) → oi.apart ops oj = true) →
   i ∈ Region.ready md ops listed → YieldsIf P ops S oi v a → S w →
   wpAnyU P md ops Q S b n (listed.setIfInBounds i true) (a.put oi.dst v) w → wpAnyU P md ops Q S b (n + 1) listed a w := by
 have waits : ∀ {listed : Array Bool} {j : Nat} {oj : Oper}, i ∈ Region.ready md ops listed → (∀ e ∈ oj.after, Region.binds md e = true → listed.getD e.on false = true) → ∀ e ∈ oj.after, Region.binds md e = true → e.on ≠ i := by
  intro listed j oj hr hall e he hb heq; exact zbdf
 intro n
 induction n with
 | zero =>
  intro listed a w hnb _ hr hy hS H; exact zbel
 | succ n ih =>
  intro listed a w hnb hfree hr hy hS H; refine ⟨fun h => (by rw [h] at hr; cases hr), fun j hj => ?_⟩
  by_cases hji : j = i
  ·
   subst hji; exact hy.wpOp hi hS ⟨fun _ => hS, H⟩
  ·
   obtain ⟨hjun, oj, hoj, hall⟩ := mem_ready.1 hj; have hnot := waits (j := j) (oj := oj) hr hall; have hjb : j ≠ b := fun e => by
    subst e; rw [hob] at hoj; cases hoj; obtain ⟨e, he, hb, hei⟩ := hw; exact hnot e he hb hei
   have h2 := wpOp_putIf hoj (hfree j oj hoj hji hjun hnot) (fun cs c => hsel i oi cs c hi) (fun cs c => hsel j oj cs c hoj) hQ hy (H.2 j (ready_mono hj hji)); refine wpOp_mono (fun a' w' h3 => ?_) h2
   have hS' : S w' := h3.2.1 (by rw [getD_set_ne false hjb, getD_set_ne false hib]; exact hnb)
   refine ⟨fun _ => hS', ih (listed.setIfInBounds j true) a' w' (by rw [getD_set_ne false hjb]; exact hnb) (fun m om hm hmi hun hno => hfree m om hm hmi ?_ hno) (ready_mono hr (Ne.symm hji)) h3.1 hS' ?_⟩
   ·
    exact zbet
   ·
    rw [Array.setIfInBounds_comm _ _ hji]; exact h3.2.2
theorem U_first0 {i : Nat} {oi : Oper} {v : Value} (hi : ops[i]? = some oi) (hsel : ∀ (j : Nat) (o : Oper) cs c, ops[j]? = some o → o.op ≠ .select cs c)
  (hQ : ∀ c a w, Q (.panic c) (a.put oi.dst v) w → Q (.panic c) a w) (hib : i ≠ b) :
  ∀ (n : Nat) (listed : Array Bool) (a : Act) (w : World),
   (∀ j oj, ops[j]? = some oj → j ≠ i → listed.getD j true = false → (∀ e ∈ oj.after, Region.binds md e = true → e.on ≠ i) → oi.apart ops oj = true) →
   i ∈ Region.ready md ops listed → YieldsIf P ops (fun _ => True) oi v a → (listed.getD b false = false → S w) →
   wpAnyU P md ops Q S b n (listed.setIfInBounds i true) (a.put oi.dst v) w → wpAnyU P md ops Q S b (n + 1) listed a w := by
 have waits : ∀ {listed : Array Bool} {oj : Oper}, i ∈ Region.ready md ops listed → (∀ e ∈ oj.after, Region.binds md e = true → listed.getD e.on false = true) → ∀ e ∈ oj.after, Region.binds md e = true → e.on ≠ i := by
  intro listed oj hr hall e he hb heq; exact zbdf
 intro n
 induction n with
 | zero =>
  intro listed a w _ hr hy hS H; refine ⟨fun h => (by rw [h] at hr; cases hr), fun j hj => ?_⟩
  by_cases hji : j = i
  ·
   subst hji; exact hy.wpOp hi trivial ⟨fun h => hS (by rw [getD_set_ne false hib] at h; exact h), H⟩
  ·
   have hm := ready_mono hj hji; rw [H.1] at hm; cases hm
 | succ n ih =>
  intro listed a w hfree hr hy hS H; refine ⟨fun h => (by rw [h] at hr; cases hr), fun j hj => ?_⟩
  by_cases hji : j = i
  ·
   subst hji; exact hy.wpOp hi trivial ⟨fun h => hS (by rw [getD_set_ne false hib] at h; exact h), H⟩
  ·
   obtain ⟨hjun, oj, hoj, hall⟩ := mem_ready.1 hj; have hnot := waits (oj := oj) hr hall
   have h2 := wpOp_putIf hoj (hfree j oj hoj hji hjun hnot) (fun cs c => hsel i oi cs c hi) (fun cs c => hsel j oj cs c hoj) hQ hy (H.2 j (ready_mono hj hji)); refine wpOp_mono (fun a' w' h3 => ?_) h2
   have hS' : (listed.setIfInBounds j true).getD b false = false → S w' := fun h => h3.2.1 (by rw [Array.setIfInBounds_comm _ _ (Ne.symm hji), getD_set_ne false hib]; exact h)
   refine ⟨hS', ih (listed.setIfInBounds j true) a' w' (fun m om hm hmi hun hno => hfree m om hm hmi ?_ hno) (ready_mono hr (Ne.symm hji)) h3.1 hS' ?_⟩
   ·
    exact zbet
   ·
    rw [Array.setIfInBounds_comm _ _ hji]; exact h3.2.2
theorem uh {oi : Oper} {n : Nat} {listed : Array Bool} {a : Act} {w : World} (i : Nat) (v : Value) (hS : S w)
  (h : wpAnyU P md ops Q S b n (listed.setIfInBounds i true) (a.put oi.dst v) w) (hi : ops[i]? = some oi := by rfl) (hQ : ∀ c a w, Q (.panic c) (a.put oi.dst v) w → Q (.panic c) a w := by exact fun _ _ _ h => h)
  (hs : Region.noSelect ops = true := by kernel_rfl) (hf : Region.free md ops listed i = true := by kernel_rfl) (hr : (Region.ready md ops listed).contains i = true := by kernel_rfl)
  (hib : i ≠ b := by decide) (hy : YieldsIf P ops (fun _ => True) oi v a := by exact Or.inl ⟨by kernel_rfl, fun _ _ => by go_simp⟩) : wpAnyU P md ops Q S b (n + 1) listed a w :=
 U_first0 hi (Region.noSelect_spec hs) hQ hib n listed a w (Region.free_spec hi hf) (by simpa using hr) hy (fun _ => hS) h
theorem uz {oi : Oper} {n : Nat} {listed : Array Bool} {a : Act} {w : World} (i : Nat) (v : Value)
  (h : wpAnyU P md ops Q S b n (listed.setIfInBounds i true) (a.put oi.dst v) w) (hi : ops[i]? = some oi := by rfl) (hQ : ∀ c a w, Q (.panic c) (a.put oi.dst v) w → Q (.panic c) a w := by exact fun _ _ _ h => h)
  (hs : Region.noSelect ops = true := by kernel_rfl) (hf : Region.free md ops listed i = true := by kernel_rfl) (hr : (Region.ready md ops listed).contains i = true := by kernel_rfl)
  (hib : i ≠ b := by decide) (hl : listed.getD b false = true := by kernel_rfl) (hy : YieldsIf P ops (fun _ => True) oi v a := by exact Or.inl ⟨by kernel_rfl, fun _ _ => by go_simp⟩) : wpAnyU P md ops Q S b (n + 1) listed a w :=
 U_first0 hi (Region.noSelect_spec hs) hQ hib n listed a w (Region.free_spec hi hf) (by simpa using hr) hy (fun e => by rw [hl] at e; cases e) h
theorem ug {oi ob : Oper} {n : Nat} {listed : Array Bool} {a : Act} {w : World} (i : Nat) (v : Value) (hi : ops[i]? = some oi) (hy : YieldsIf P ops S oi v a) (hS : S w)
  (h : wpAnyU P md ops Q S b n (listed.setIfInBounds i true) (a.put oi.dst v) w) (hQ : ∀ c a w, Q (.panic c) (a.put oi.dst v) w → Q (.panic c) a w := by exact fun _ _ _ h => h) (hob : ops[b]? = some ob := by rfl)
  (hs : Region.noSelect ops = true := by kernel_rfl) (hf : Region.free md ops listed i = true := by kernel_rfl) (hr : (Region.ready md ops listed).contains i = true := by kernel_rfl)
  (hib : i ≠ b := by decide) (hw : (ob.after.any fun e => Region.binds md e && e.on == i) = true := by kernel_rfl) (hnb : listed.getD b false = false := by kernel_rfl) : wpAnyU P md ops Q S b (n + 1) listed a w := by
 refine U_first hi hob (Region.noSelect_spec hs) hQ hib ?_ n listed a w hnb (Region.free_spec hi hf) (by simpa using hr) hy hS h
 obtain ⟨e, he, h2⟩ := Array.any_eq_true'.1 hw
 exact ⟨e, he, by simpa using h2⟩
theorem uop {o : Oper} {i : Nat} {a : Act} {w : World} {K : Act → World → Prop} (ho : ops[i]? = some o) (h : if Region.wanted o (yielded ops a.tmps) = true then Oper.wp P o a w K Q else K (a.put o.dst undef) w) : wpOp P ops Q i K a w := by
 unfold wpOp
 simp only [ho]
 split
 ·
  rename_i hw; rw [if_pos hw] at h; exact .inl h
 ·
  rename_i hw; rw [if_neg hw] at h; exact h
theorem uq1 {o : Oper} {n : Nat} {listed : Array Bool} {a : Act} {w : World} (i : Nat)
  (h : ∀ K' : Act → World → Prop, Shut (∀ a w, ((listed.setIfInBounds i true).getD b false = false → S w) → wpAnyU P md ops Q S b n (listed.setIfInBounds i true) a w → K' a w) → if Region.wanted o (yielded ops a.tmps) = true then Oper.wp P o a w K' Q else K' (a.put o.dst undef) w)
  (ho : ops[i]? = some o := by rfl) (hr : Region.ready md ops listed = [i] := by kernel_rfl) : wpAnyU P md ops Q S b (n + 1) listed a w := by
 refine ⟨fun h0 => (by rw [hr] at h0; cases h0), fun j hj => ?_⟩
 rw [hr] at hj
 obtain rfl := List.mem_singleton.1 hj
 exact uop ho (h _ fun a w h1 h2 => ⟨h1, h2⟩)
theorem udone {listed : Array Bool} {a : Act} {w : World} (hr : Region.ready md ops listed = []) (h : Q .normal a w) : ∀ n, wpAnyU P md ops Q S b n listed a w
 | 0 => ⟨hr, h⟩
 | _ + 1 => ⟨fun _ => h, by rw [hr]; simp⟩
theorem wp_region_U {id : Nat} {a : Act} {w : World} (b : Nat) (S : World → Prop) (hm : P.follows .mixedOrders = true) (h : wpAnyU P .any ops Q S b ops.size (Array.replicate ops.size false) a w.drew) : (Code.region id ops true).wp P Q a w :=
 wp_region_any hm (wpAny_of_U _ _ _ _ h)
end
end Go.Proofs.YtoimgcjbcbhclaaGreatDoor
