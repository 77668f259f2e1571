/-
  The document's parser: statements.
-/
import Derived.Test.YtoimgcjbcbhclaaGreatDoorRn19
import Derived.Laws.IdiomRangeMap
import Derived.Laws.OwnMore
import Derived.Maps.RangeRun
namespace Go.Proofs.YtoimgcjbcbhclaaGreatDoor.Old
open Go.RowKit
abbrev nd0 : Obj := zzk 0 zzx 0 (.slice none 0 0)
structure Stn (c : PC) (w : World) (i : Nat) (W : World) : Prop where
 ps : Ps c W i 0 (-1)
 nd : W.heap[w.heap.size]? = some nd0
 ap : Ap c.P w.heap.size w W
theorem Stn.new {c : PC} {w : World} {i : Nat} (h : Ps c w i 0 (-1)) : Stn c w i (w.alloc nd0) := ⟨h.alloc _, zqx _ _, (Ap.refl c.P w.heap.size w).alloc qv _⟩
theorem Stn.below {c : PC} {w : World} {i : Nat} {W W' : World} (h : Stn c w i W) (hb : Below W.heap.size W W') : Stn c w i W' := ⟨h.ps.later hb, (hb.block _ (zzz h.nd)).trans h.nd, h.ap.next (Ap.of hb)⟩
theorem Stn.on {c : PC} {w : World} {i j : Nat} {W W' : World} (h : Stn c w i W) (hP : c.P < w.heap.size) (hp : Ps c W' j 0 (-1)) (ha : Ap c.P W.heap.size W W') : Stn c w j W' := ⟨hp, (ha.block _ (zzz h.nd) (by omega)).trans h.nd, h.ap.next ha⟩
theorem st_done {B N : Nat} {W : World} {kd z : Int} {tx : ByteArray} {u : Value} {ps : List Nat} {ks : List Tr} (hB : B ≤ N) (hb : W.heap[N]? = some (zzk kd tx z u)) (hr : W.ownsRow B 22 1 u ps.length (ps.map nPtr)) (hk : NAts (fun b => B ≤ b) W ks ps) : NV B W (.mk kd tx z ks) (nPtr N) := by
 refine ⟨N, rfl, ?_⟩
 rw [NAt]
 exact ⟨hB, u, ps, hb, ⟨owns_zero hr, fun g hg => (zx6 hr g hg).2⟩, hk⟩
theorem znj {B N z4 n : Nat} {w5 X : World} {kd z : Int} {tx : ByteArray} {ks : List Tr} {ps : List Nat} (hBN : B ≤ N) (hN : N < z4) (hX : ∀ b, b ≠ N → X.heap[b]? = w5.heap[b]?) (hz : X.heap.size = w5.heap.size) (h5 : z4 ≤ w5.heap.size)
  (nb : X.heap[N]? = some (zzk kd tx z (.slice (some ⟨w5.heap.size, 0, none⟩) n n))) (hk : NAts (fun b => z4 ≤ b) w5 ks ps) (hn : n = ps.length) (cs : Array Value) (hc : cs.toList = ps.map nPtr) (hl : ps.length ≤ maxLen) : NV B (X.alloc (.cells cs 22)) (.mk kd tx z ks) (nPtr N) := by
 subst hn
 have hcs : cs.size = ps.length * 1 := by rw [← Array.length_toList, hc]; simp
 have ho := World.ownsRow_lit (base := B) (e := 22) (size := 1) X cs ps.length (by omega) hl hcs
 rw [hz, hc] at ho
 refine st_done hBN (by rw [Below.heap_alloc _ _ _ (by omega)]; exact nb) ho ?_
 have hs : Stay (fun b => z4 ≤ b) w5 (X.alloc (.cells cs 22)) := fun b hb hl => by rw [Below.heap_alloc _ _ _ (by omega)]; exact hX b (by have : z4 ≤ b := hb; omega)
 exact NAts.mono (fun b hb _ => by have : z4 ≤ b := hb; omega) _ _ (NAts.later hs _ _ hk)
theorem set2 (w5 : World) (N : Nat) (a b : Value) : ∀ k, k ≠ N → ((w5.setCell ⟨N, 0, none⟩ a).setCell ⟨N, 3, none⟩ b).heap[k]? = w5.heap[k]? := fun k hk => by rw [Below.heap_setCell _ _ _ k (by first | exact hk | exact Ne.symm hk), Below.heap_setCell _ _ _ k (by first | exact hk | exact Ne.symm hk)]
theorem set1 (w5 : World) (N : Nat) (b : Value) : ∀ k, k ≠ N → (w5.setCell ⟨N, 3, none⟩ b).heap[k]? = w5.heap[k]? := fun k hk => by rw [Below.heap_setCell _ _ _ k (by first | exact hk | exact Ne.symm hk)]
theorem zg6 {B : Nat} {W : World} : W.ownsRow B 22 1 (.slice none 0 0) ([] : List Nat).length (([] : List Nat).map nPtr) := ⟨rfl, Or.inl ⟨rfl, rfl⟩⟩
set_option maxRecDepth 100000 in
set_option maxHeartbeats 4000000 in
theorem rst_block {c : PC} {F : Fns} (hF : RCt c F) (hN : ∃ k, FNx c.l k F) (hK : FOk F) (w : World) (d i : Nat) (r : PR Tr) (hd : d ≤ 30) (hf : fx c.l i = zz4) (hs : r = zq0 c.l F d i) (ho : r ≠ .out) (h : Ps c w i 0 (-1)) :
  Calls Tryz.prog 111 #[pPtr c, .int .i64 (d : Int)] w (zj3 c w (NV w.heap.size) ZN r) := by
 have HLT := qh h.rlt
 have HLO := qh h.base.size
 have HO := qh ho
 have HF := qh hF
 have HNN := qh hN
 have HKK := qh hK
 have hdd : decide ((30 : Int) < (d : Int)) = false := decide_eq_false (by omega)
 have HS0 := qh (Stn.new h)
 have hc := zzy c (w.alloc nd0) i zz4 (by decide) HS0.out.ps
 rw [decide_eq_true hf] at hc
 have HC := qh hc
 clear hc
 clear h
 go_enter Tryz.func111, Tryz.ntmps111
 go_wp2_with fail
 refine cm HC.out ?_
 rintro e w1 ⟨rfl, hb⟩
 have HS1 := qh (HS0.out.below hb)
 clear hb HC HS0
 have HC := qh (zx8 HF.out HNN.out HKK.out false w1 d i r hd (by rw [hs]; rfl) ho HS1.out.ps)
 clear ho hs hF hN hK
 go_wp2_with fail
 refine cm HC.out ?_
 intro e wz hp
 cases r with
 | out => exact absurd rfl HO.out
 | bad er pl =>
  obtain ⟨⟨v, rfl, q, rfl⟩, hp1, he, ha⟩ := hp; have HP := qh hp1; have HA := qh (HS1.out.ap.next ha); clear hp1 ha HC; go_wp2_with fail; go_ret; exact ⟨⟨_, rfl, _, rfl⟩, HP.out, he, HA.out⟩
 | ok t j =>
  obtain ⟨⟨v, rfl, q, rfl, hn⟩, hp1, ha⟩ := hp; have HP := qh hp1; have HA := qh (HS1.out.ap.next ha)
  have HN := qh (NAt.mono (fun b hb _ => Nat.le_trans HS1.out.ap.size hb) _ _ hn : NAt (fun b => w.heap.size ≤ b) wz t q); clear hp1 ha hn HC; go_wp2_with fail; go_ret; exact ⟨⟨_, rfl, q, rfl, HN.out⟩, HP.out, HA.out⟩
set_option maxRecDepth 100000 in
set_option maxHeartbeats 4000000 in
theorem rst_empty {c : PC} {F : Fns} (hF : RCt c F) (hN : ∃ k, FNx c.l k F) (hK : FOk F) (w : World) (d i : Nat) (r : PR Tr) (hd : d ≤ 30) (hf : fx c.l i = zz9) (hs : r = .ok (.mk 16 zzx 0 []) (i + 1)) (ho : r ≠ .out) (h : Ps c w i 0 (-1)) :
  Calls Tryz.prog 111 #[pPtr c, .int .i64 (d : Int)] w (zj3 c w (NV w.heap.size) ZN r) := by
 have HLT := qh h.rlt
 have HLO := qh h.base.size
 have HO := qh ho
 have HF := qh hF
 have HNN := qh hN
 have HKK := qh hK
 have hdd : decide ((30 : Int) < (d : Int)) = false := decide_eq_false (by omega)
 have n0 : ¬ fx c.l i = zz4 := by rw [hf]; decide
 have HS0 := qh (Stn.new h)
 have hc := zzy c (w.alloc nd0) i zz4 (by decide) HS0.out.ps
 rw [decide_eq_false n0] at hc
 have HC := qh hc
 clear hc
 clear h
 go_enter Tryz.func111, Tryz.ntmps111
 go_wp2_with fail
 refine cm HC.out ?_
 rintro e w1 ⟨rfl, hb⟩
 have HS1 := qh (HS0.out.below hb)
 clear hb HC HS0
 have HC := qh (zxq c w1 i zz9 (by decide) hf HS1.out.ps)
 go_wp2_with fail
 refine cm HC.out ?_
 rintro e w2 ⟨rfl, hp, ha⟩
 have HS2 := qh (HS1.out.on HLT.out hp ha)
 clear hp ha HC HS1
 subst hs
 have nb := HS2.out.nd
 obtain ⟨c0, c1, c2, c3, cf⟩ := zzj nb
 have cf0 := cf 0
 have hnl := zzz nb
 have HB := qh nb
 clear nb
 go_wp2_with fail
 go_ret
 refine ⟨⟨_, rfl, st_done qv (by rw [zz8 HB.out]; rfl) zg6 NAts.nil⟩, ?_, ?_⟩
 ·
  exact HS2.out.ps.ap ((Below.refl w.heap.size w2).setCell (p := ⟨w.heap.size, 0, none⟩) qv _) HLO.out
 ·
  exact HS2.out.ap.setCell (p := ⟨w.heap.size, 0, none⟩) (Or.inl qv) _
set_option maxRecDepth 100000 in
set_option maxHeartbeats 4000000 in
theorem rst_func {c : PC} {F : Fns} (hF : RCt c F) (hN : ∃ k, FNx c.l k F) (hK : FOk F) (w : World) (d i : Nat) (r : PR Tr) (hd : d ≤ 30) (hf : fx c.l i = zzw) (hs : r = (zjq c.l (i + 1)).bind fun s i2 => zvv c.l F 5 s d i2) (ho : r ≠ .out) (h : Ps c w i 0 (-1)) :
  Calls Tryz.prog 111 #[pPtr c, .int .i64 (d : Int)] w (zj3 c w (NV w.heap.size) ZN r) := by
 have HLT := qh h.rlt
 have HLO := qh h.base.size
 have HO := qh ho
 have HF := qh hF
 have HNN := qh hN
 have HKK := qh hK
 have hdd : decide ((30 : Int) < (d : Int)) = false := decide_eq_false (by omega)
 have n0 : ¬ fx c.l i = zz4 := by rw [hf]; decide
 have n1 : ¬ fx c.l i = zz9 := by rw [hf]; decide
 have HS0 := qh (Stn.new h)
 have hc := zzy c (w.alloc nd0) i zz4 (by decide) HS0.out.ps
 rw [decide_eq_false n0] at hc
 have HC := qh hc
 clear hc
 clear h
 go_enter Tryz.func111, Tryz.ntmps111
 go_wp2_with fail
 refine cm HC.out ?_
 rintro e w1 ⟨rfl, hb⟩
 have HS1 := qh (HS0.out.below hb)
 clear hb HC HS0
 have HC := qh (zz1 c w1 i zz9 (by decide) n1 HS1.out.ps)
 go_wp2_with fail
 refine cm HC.out ?_
 rintro e w2 ⟨rfl, hb⟩
 have HS2 := qh (HS1.out.below hb)
 clear hb HC HS1
 have HC := qh (zxq c w2 i zzw (by decide) hf HS2.out.ps)
 go_wp2_with fail
 refine cm HC.out ?_
 rintro e w3 ⟨rfl, hp, ha⟩
 have HS3 := qh (HS2.out.on HLT.out hp ha)
 clear hp ha HC HS2
 have HQ := qh hs
 have HC := qh (zvk c w3 (i + 1) HS3.out.ps)
 clear ho hs hF hN hK
 go_wp2_with fail
 refine cm HC.out ?_
 intro e w9 hp
 clear HC
 cases hr : zjq c.l (i + 1) with
 | out => rw [hr] at HQ; exact absurd HQ.out HO.out
 | bad er pl =>
  rw [hr] at hp HQ; have hq : r = .bad er pl := zzq HQ; subst hq; obtain ⟨⟨v, rfl, s, rfl⟩, ⟨j, hp1⟩, he, ha⟩ := hp; have HA := qh (HS3.out.ap.next ha)
  have HC := qh (rfunction_old c w9 j er pl 5 (d : Int) s he hp1); clear hp1 ha hr HQ; go_wp2_with fail; refine cm HC.out ?_; rintro e wz ⟨⟨v, rfl, q, rfl⟩, hp2, _, ha2⟩; have HP2 := qh hp2
  have HA2 := qh (HA.out.next ha2); clear hp2 ha2 HC; go_wp2_with fail; go_ret; exact ⟨⟨_, rfl, _, rfl⟩, HP2.out, he, HA2.out⟩
 | ok s j =>
  rw [hr] at hp HQ; have hq : r = zvv c.l F 5 s d j := zzq HQ; obtain ⟨⟨v, rfl, rfl⟩, hp1, ha⟩ := hp; have HS9 := qh (HS3.out.on HLT.out hp1 ha)
  have HC := qh (zd6 HF.out HNN.out HKK.out w9 5 s d j r hd hq HO.out hp1); clear hp1 ha hr HQ hq; go_wp2_with fail; refine cm HC.out ?_; intro e wz hp
  cases r with
  | out => exact absurd rfl HO.out
  | bad er pl =>
   obtain ⟨⟨v, rfl, q, rfl⟩, hp1, he, ha⟩ := hp; have HP := qh hp1; have HA := qh (HS9.out.ap.next ha); clear hp1 ha HC; go_wp2_with fail; go_ret; exact ⟨⟨_, rfl, _, rfl⟩, HP.out, he, HA.out⟩
  | ok t j =>
   obtain ⟨⟨v, rfl, q, rfl, hn⟩, hp1, ha⟩ := hp; have HP := qh hp1; have HA := qh (HS9.out.ap.next ha)
   have HN := qh (NAt.mono (fun b hb _ => Nat.le_trans HS9.out.ap.size hb) _ _ hn : NAt (fun b => w.heap.size ≤ b) wz t q); clear hp1 ha hn HC; go_wp2_with fail; go_ret; exact ⟨⟨_, rfl, q, rfl, HN.out⟩, HP.out, HA.out⟩
set_option maxRecDepth 100000 in
set_option maxHeartbeats 4000000 in
theorem rst_throw {c : PC} {F : Fns} (hF : RCt c F) (hN : ∃ k, FNx c.l k F) (hK : FOk F) (w : World) (d i : Nat) (r : PR Tr) (hd : d ≤ 30) (hf : fx c.l i = zfy) (hs : r = (zq2 c.l F.vl d (i + 1)).bind fun v i1 => (zz0 c.l zz9 i1).bind fun _ i2 => .ok (.mk 11 zzx 0 [v]) i2) (ho : r ≠ .out) (h : Ps c w i 0 (-1)) :
  Calls Tryz.prog 111 #[pPtr c, .int .i64 (d : Int)] w (zj3 c w (NV w.heap.size) ZN r) := by
 have HLT := qh h.rlt
 have HLO := qh h.base.size
 have HO := qh ho
 have HF := qh hF
 have HNN := qh hN
 have HKK := qh hK
 have hdd : decide ((30 : Int) < (d : Int)) = false := decide_eq_false (by omega)
 have n0 : ¬ fx c.l i = zz4 := by rw [hf]; decide
 have n1 : ¬ fx c.l i = zz9 := by rw [hf]; decide
 have n2 : ¬ fx c.l i = zzw := by rw [hf]; decide
 have n3 : ¬ fx c.l i = tIf := by rw [hf]; decide
 have n4 : ¬ fx c.l i = zjz := by rw [hf]; decide
 have n5 : ¬ fx c.l i = zv0 := by rw [hf]; decide
 have n6 : ¬ fx c.l i = tTry := by rw [hf]; decide
 have n7 : ¬ fx c.l i = tVar := by rw [hf]; decide
 have n8 : ¬ fx c.l i = tLet := by rw [hf]; decide
 have n9 : ¬ fx c.l i = zqw := by rw [hf]; decide
 have n10 : ¬ fx c.l i = zw4 := by rw [hf]; decide
 have HS0 := qh (Stn.new h)
 have hc := zzy c (w.alloc nd0) i zz4 (by decide) HS0.out.ps
 rw [decide_eq_false n0] at hc
 have HC := qh hc
 clear hc
 clear h
 go_enter Tryz.func111, Tryz.ntmps111
 go_wp2_with fail
 refine cm HC.out ?_
 rintro e w1 ⟨rfl, hb⟩
 have HS1 := qh (HS0.out.below hb)
 clear hb HC HS0
 have HC := qh (zz1 c w1 i zz9 (by decide) n1 HS1.out.ps)
 go_wp2_with fail
 refine cm HC.out ?_
 rintro e w2 ⟨rfl, hb⟩
 have HS2 := qh (HS1.out.below hb)
 clear hb HC HS1
 have HC := qh (zz1 c w2 i zzw (by decide) n2 HS2.out.ps)
 go_wp2_with fail
 refine cm HC.out ?_
 rintro e w3 ⟨rfl, hb⟩
 have HS3 := qh (HS2.out.below hb)
 clear hb HC HS2
 have HC := qh (zz1 c w3 i tIf (by decide) n3 HS3.out.ps)
 go_wp2_with fail
 refine cm HC.out ?_
 rintro e w4 ⟨rfl, hb⟩
 have HS4 := qh (HS3.out.below hb)
 clear hb HC HS3
 have hc := zzy c w4 i zjz (by decide) HS4.out.ps
 rw [decide_eq_false n4] at hc
 have HC := qh hc
 clear hc
 go_wp2_with fail
 refine cm HC.out ?_
 rintro e w5 ⟨rfl, hb⟩
 have HS5 := qh (HS4.out.below hb)
 clear hb HC HS4
 have hc := zzy c w5 i zv0 (by decide) HS5.out.ps
 rw [decide_eq_false n5] at hc
 have HC := qh hc
 clear hc
 go_wp2_with fail
 refine cm HC.out ?_
 rintro e w6 ⟨rfl, hb⟩
 have HS6 := qh (HS5.out.below hb)
 clear hb HC HS5
 have HC := qh (zz1 c w6 i tTry (by decide) n6 HS6.out.ps)
 go_wp2_with fail
 refine cm HC.out ?_
 rintro e w7 ⟨rfl, hb⟩
 have HS7 := qh (HS6.out.below hb)
 clear hb HC HS6
 have hc := zzy c w7 i tVar (by decide) HS7.out.ps
 rw [decide_eq_false n7] at hc
 have HC := qh hc
 clear hc
 go_wp2_with fail
 refine cm HC.out ?_
 rintro e w8 ⟨rfl, hb⟩
 have HS8 := qh (HS7.out.below hb)
 clear hb HC HS7
 have hc := zzy c w8 i tLet (by decide) HS8.out.ps
 rw [decide_eq_false n8] at hc
 have HC := qh hc
 clear hc
 go_wp2_with fail
 refine cm HC.out ?_
 rintro e w9 ⟨rfl, hb⟩
 have HS9 := qh (HS8.out.below hb)
 clear hb HC HS8
 have hc := zzy c w9 i zqw (by decide) HS9.out.ps
 rw [decide_eq_false n9] at hc
 have HC := qh hc
 clear hc
 go_wp2_with fail
 refine cm HC.out ?_
 rintro e w10 ⟨rfl, hb⟩
 have HS10 := qh (HS9.out.below hb)
 clear hb HC HS9
 have HC := qh (zz1 c w10 i zw4 (by decide) n10 HS10.out.ps)
 go_wp2_with fail
 refine cm HC.out ?_
 rintro e w11 ⟨rfl, hb⟩
 have HS11 := qh (HS10.out.below hb)
 clear hb HC HS10
 have HC := qh (zxq c w11 i zfy (by decide) hf HS11.out.ps)
 go_wp2_with fail
 refine cm HC.out ?_
 rintro e w12 ⟨rfl, hp, ha⟩
 have HS12 := qh (HS11.out.on HLT.out hp ha)
 clear hp ha HC HS11
 have HQ := qh hs
 clear ho hs hF hN hK
 cases hr : zq2 c.l F.vl d (i + 1) with
 | out => rw [hr] at HQ; exact absurd HQ.out HO.out
 | bad er pl =>
  have HC := qh (HF.out.vl w12 d (i + 1) _ hd hr.symm (by nofun) HS12.out.ps); rw [hr] at HQ; have hq : r = .bad er pl := zzq HQ; subst hq; clear hr HQ; go_wp2_with fail; refine cm HC.out ?_
  rintro e wv ⟨⟨v, rfl, q, rfl⟩, ⟨j, hp1⟩, he, ha⟩; have nb := (ha.block _ (zzz HS12.out.nd) (by have := zzq HLT; omega)).trans HS12.out.nd
  obtain ⟨c0, c1, c2, c3, cf⟩ := zzj nb; have cf0 := cf 0; have cf3 := cf 3; have hnl := zzz nb; have hA := HS12.out.ap.next ha
  have HB : Hid (Below w.heap.size wv (((wv.setCell ⟨w.heap.size, 0, none⟩ (.int .i64 11)).setCell ⟨w.heap.size, 3, none⟩ (.slice (some ⟨wv.heap.size, 0, none⟩) 1 1)).alloc (.cells #[nPtr q] 22))) := (((Below.refl w.heap.size wv).setCell (p := ⟨w.heap.size, 0, none⟩) qv _).setCell (p := ⟨w.heap.size, 3, none⟩) qv _).alloc (by simp; omega) _
  have HA := qh (hA.trans (Ap.of HB.out)); have HP := qh (hp1.ap HB.out HLO.out); have HC2 := qh (zx9 c _ j er pl he zz9 HP.out); clear hp1 ha HC nb hA; go_wp2_with fail; refine cm HC2.out ?_
  rintro e wz ⟨rfl, rfl⟩; clear HC2; go_wp2_with fail; go_ret; exact ⟨⟨_, rfl, _, rfl⟩, ⟨j, HP.out⟩, he, HA.out⟩
 | ok t j =>
  have HC := qh (HF.out.vl w12 d (i + 1) _ hd hr.symm (by nofun) HS12.out.ps); rw [hr] at HQ; have hq : r = (zz0 c.l zz9 j).bind fun _ i2 => .ok (.mk 11 zzx 0 [t]) i2 := zzq HQ; have HQ2 := qh hq
  clear hr HQ hq; go_wp2_with fail; refine cm HC.out ?_; rintro e wv ⟨⟨v, rfl, q, rfl, hn⟩, hp1, ha⟩; have nb := (ha.block _ (zzz HS12.out.nd) (by have := zzq HLT; omega)).trans HS12.out.nd
  obtain ⟨c0, c1, c2, c3, cf⟩ := zzj nb; have cf0 := cf 0; have cf3 := cf 3; have hnl := zzz nb; have hA := HS12.out.ap.next ha
  have HB : Hid (Below w.heap.size wv (((wv.setCell ⟨w.heap.size, 0, none⟩ (.int .i64 11)).setCell ⟨w.heap.size, 3, none⟩ (.slice (some ⟨wv.heap.size, 0, none⟩) 1 1)).alloc (.cells #[nPtr q] 22))) := (((Below.refl w.heap.size wv).setCell (p := ⟨w.heap.size, 0, none⟩) qv _).setCell (p := ⟨w.heap.size, 3, none⟩) qv _).alloc (by simp; omega) _
  have HA := qh (hA.trans (Ap.of HB.out)); have HP := qh (hp1.ap HB.out HLO.out)
  have HN : Hid (NV w.heap.size (((wv.setCell ⟨w.heap.size, 0, none⟩ (.int .i64 11)).setCell ⟨w.heap.size, 3, none⟩ (.slice (some ⟨wv.heap.size, 0, none⟩) 1 1)).alloc (.cells #[nPtr q] 22)) (.mk 11 zzx 0 [t]) (nPtr w.heap.size)) := znj qv (zzz HS12.out.nd) (set2 wv w.heap.size _ _) (by simp) ha.size (by rw [zz8 (zz8 nb _)]; rfl) (NAts.cons hn NAts.nil) rfl #[nPtr q] rfl (by simp [maxLen])
  have HC2 := qh (zx4 c _ j zz9 (by decide) HP.out); clear hp1 ha HC nb hA hn; go_wp2_with fail; refine cm HC2.out ?_; intro e wz hp
  cases hr2 : zz0 c.l zz9 j with
  | out => rw [hr2] at HQ2; exact absurd HQ2.out HO.out
  | bad er pl =>
   rw [hr2] at hp HQ2; have hq : r = .bad er pl := zzq HQ2; subst hq; obtain ⟨⟨v, rfl, rfl⟩, hp2, he, ha2⟩ := hp; have HP2 := qh hp2; have HA2 := qh (HA.out.next ha2); clear hp2 ha2 HC2 hr2; go_wp2_with fail; go_ret
   exact ⟨⟨_, rfl, _, rfl⟩, HP2.out, he, HA2.out⟩
  | ok x j2 =>
   rw [hr2] at hp HQ2; have hq : r = .ok (.mk 11 zzx 0 [t]) j2 := zzq HQ2; subst hq; obtain ⟨⟨v, rfl, rfl⟩, hp2, ha2⟩ := hp; have HP2 := qh hp2; have HA2 := qh (HA.out.next ha2)
   have HN2 := qh (NV.later HN.out ha2 HLT.out); clear hp2 ha2 HC2 hr2; go_wp2_with fail; go_ret; exact ⟨⟨_, rfl, HN2.out⟩, HP2.out, HA2.out⟩
set_option maxRecDepth 100000 in
set_option maxHeartbeats 4000000 in
theorem rst_expr {c : PC} {F : Fns} (hF : RCt c F) (hN : ∃ k, FNx c.l k F) (hK : FOk F) (w : World) (d i : Nat) (r : PR Tr) (hd : d ≤ 30) (n0 : ¬ fx c.l i = zz4) (n1 : ¬ fx c.l i = zz9) (n2 : ¬ fx c.l i = zzw) (n3 : ¬ fx c.l i = tIf) (n4 : ¬ fx c.l i = zjz) (n5 : ¬ fx c.l i = zv0) (n6 : ¬ fx c.l i = tTry) (n7 : ¬ fx c.l i = tVar) (n8 : ¬ fx c.l i = tLet) (n9 : ¬ fx c.l i = zqw) (n10 : ¬ fx c.l i = zw4) (n11 : ¬ fx c.l i = zfy) (hs : r = (zq2 c.l F.vl d i).bind fun v i1 => (zz0 c.l zz9 i1).bind fun _ i2 => .ok (.mk 15 zzx 0 [v]) i2) (ho : r ≠ .out) (h : Ps c w i 0 (-1)) :
  Calls Tryz.prog 111 #[pPtr c, .int .i64 (d : Int)] w (zj3 c w (NV w.heap.size) ZN r) := by
 have HLT := qh h.rlt
 have HLO := qh h.base.size
 have HO := qh ho
 have HF := qh hF
 have HNN := qh hN
 have HKK := qh hK
 have hdd : decide ((30 : Int) < (d : Int)) = false := decide_eq_false (by omega)
 have HS0 := qh (Stn.new h)
 have hc := zzy c (w.alloc nd0) i zz4 (by decide) HS0.out.ps
 rw [decide_eq_false n0] at hc
 have HC := qh hc
 clear hc
 clear h
 go_enter Tryz.func111, Tryz.ntmps111
 go_wp2_with fail
 refine cm HC.out ?_
 rintro e w1 ⟨rfl, hb⟩
 have HS1 := qh (HS0.out.below hb)
 clear hb HC HS0
 have HC := qh (zz1 c w1 i zz9 (by decide) n1 HS1.out.ps)
 go_wp2_with fail
 refine cm HC.out ?_
 rintro e w2 ⟨rfl, hb⟩
 have HS2 := qh (HS1.out.below hb)
 clear hb HC HS1
 have HC := qh (zz1 c w2 i zzw (by decide) n2 HS2.out.ps)
 go_wp2_with fail
 refine cm HC.out ?_
 rintro e w3 ⟨rfl, hb⟩
 have HS3 := qh (HS2.out.below hb)
 clear hb HC HS2
 have HC := qh (zz1 c w3 i tIf (by decide) n3 HS3.out.ps)
 go_wp2_with fail
 refine cm HC.out ?_
 rintro e w4 ⟨rfl, hb⟩
 have HS4 := qh (HS3.out.below hb)
 clear hb HC HS3
 have hc := zzy c w4 i zjz (by decide) HS4.out.ps
 rw [decide_eq_false n4] at hc
 have HC := qh hc
 clear hc
 go_wp2_with fail
 refine cm HC.out ?_
 rintro e w5 ⟨rfl, hb⟩
 have HS5 := qh (HS4.out.below hb)
 clear hb HC HS4
 have hc := zzy c w5 i zv0 (by decide) HS5.out.ps
 rw [decide_eq_false n5] at hc
 have HC := qh hc
 clear hc
 go_wp2_with fail
 refine cm HC.out ?_
 rintro e w6 ⟨rfl, hb⟩
 have HS6 := qh (HS5.out.below hb)
 clear hb HC HS5
 have HC := qh (zz1 c w6 i tTry (by decide) n6 HS6.out.ps)
 go_wp2_with fail
 refine cm HC.out ?_
 rintro e w7 ⟨rfl, hb⟩
 have HS7 := qh (HS6.out.below hb)
 clear hb HC HS6
 have hc := zzy c w7 i tVar (by decide) HS7.out.ps
 rw [decide_eq_false n7] at hc
 have HC := qh hc
 clear hc
 go_wp2_with fail
 refine cm HC.out ?_
 rintro e w8 ⟨rfl, hb⟩
 have HS8 := qh (HS7.out.below hb)
 clear hb HC HS7
 have hc := zzy c w8 i tLet (by decide) HS8.out.ps
 rw [decide_eq_false n8] at hc
 have HC := qh hc
 clear hc
 go_wp2_with fail
 refine cm HC.out ?_
 rintro e w9 ⟨rfl, hb⟩
 have HS9 := qh (HS8.out.below hb)
 clear hb HC HS8
 have hc := zzy c w9 i zqw (by decide) HS9.out.ps
 rw [decide_eq_false n9] at hc
 have HC := qh hc
 clear hc
 go_wp2_with fail
 refine cm HC.out ?_
 rintro e w10 ⟨rfl, hb⟩
 have HS10 := qh (HS9.out.below hb)
 clear hb HC HS9
 have HC := qh (zz1 c w10 i zw4 (by decide) n10 HS10.out.ps)
 go_wp2_with fail
 refine cm HC.out ?_
 rintro e w11 ⟨rfl, hb⟩
 have HS11 := qh (HS10.out.below hb)
 clear hb HC HS10
 have HC := qh (zz1 c w11 i zfy (by decide) n11 HS11.out.ps)
 go_wp2_with fail
 refine cm HC.out ?_
 rintro e w12 ⟨rfl, hb⟩
 have HS12 := qh (HS11.out.below hb)
 clear hb HC HS11
 have HQ := qh hs
 clear ho hs hF hN hK
 cases hr : zq2 c.l F.vl d i with
 | out => rw [hr] at HQ; exact absurd HQ.out HO.out
 | bad er pl =>
  have HC := qh (HF.out.vl w12 d i _ hd hr.symm (by nofun) HS12.out.ps); rw [hr] at HQ; have hq : r = .bad er pl := zzq HQ; subst hq; clear hr HQ; go_wp2_with fail; refine cm HC.out ?_
  rintro e wv ⟨⟨v, rfl, q, rfl⟩, ⟨j, hp1⟩, he, ha⟩; have nb := (ha.block _ (zzz HS12.out.nd) (by have := zzq HLT; omega)).trans HS12.out.nd
  obtain ⟨c0, c1, c2, c3, cf⟩ := zzj nb; have cf0 := cf 0; have cf3 := cf 3; have hnl := zzz nb; have hA := HS12.out.ap.next ha
  have HB : Hid (Below w.heap.size wv (((wv.setCell ⟨w.heap.size, 0, none⟩ (.int .i64 15)).setCell ⟨w.heap.size, 3, none⟩ (.slice (some ⟨wv.heap.size, 0, none⟩) 1 1)).alloc (.cells #[nPtr q] 22))) := (((Below.refl w.heap.size wv).setCell (p := ⟨w.heap.size, 0, none⟩) qv _).setCell (p := ⟨w.heap.size, 3, none⟩) qv _).alloc (by simp; omega) _
  have HA := qh (hA.trans (Ap.of HB.out)); have HP := qh (hp1.ap HB.out HLO.out); have HC2 := qh (zx9 c _ j er pl he zz9 HP.out); clear hp1 ha HC nb hA; go_wp2_with fail; refine cm HC2.out ?_
  rintro e wz ⟨rfl, rfl⟩; clear HC2; go_wp2_with fail; go_ret; exact ⟨⟨_, rfl, _, rfl⟩, ⟨j, HP.out⟩, he, HA.out⟩
 | ok t j =>
  have HC := qh (HF.out.vl w12 d i _ hd hr.symm (by nofun) HS12.out.ps); rw [hr] at HQ; have hq : r = (zz0 c.l zz9 j).bind fun _ i2 => .ok (.mk 15 zzx 0 [t]) i2 := zzq HQ; have HQ2 := qh hq; clear hr HQ hq
  go_wp2_with fail; refine cm HC.out ?_; rintro e wv ⟨⟨v, rfl, q, rfl, hn⟩, hp1, ha⟩; have nb := (ha.block _ (zzz HS12.out.nd) (by have := zzq HLT; omega)).trans HS12.out.nd
  obtain ⟨c0, c1, c2, c3, cf⟩ := zzj nb; have cf0 := cf 0; have cf3 := cf 3; have hnl := zzz nb; have hA := HS12.out.ap.next ha
  have HB : Hid (Below w.heap.size wv (((wv.setCell ⟨w.heap.size, 0, none⟩ (.int .i64 15)).setCell ⟨w.heap.size, 3, none⟩ (.slice (some ⟨wv.heap.size, 0, none⟩) 1 1)).alloc (.cells #[nPtr q] 22))) := (((Below.refl w.heap.size wv).setCell (p := ⟨w.heap.size, 0, none⟩) qv _).setCell (p := ⟨w.heap.size, 3, none⟩) qv _).alloc (by simp; omega) _
  have HA := qh (hA.trans (Ap.of HB.out)); have HP := qh (hp1.ap HB.out HLO.out)
  have HN : Hid (NV w.heap.size (((wv.setCell ⟨w.heap.size, 0, none⟩ (.int .i64 15)).setCell ⟨w.heap.size, 3, none⟩ (.slice (some ⟨wv.heap.size, 0, none⟩) 1 1)).alloc (.cells #[nPtr q] 22)) (.mk 15 zzx 0 [t]) (nPtr w.heap.size)) := znj qv (zzz HS12.out.nd) (set2 wv w.heap.size _ _) (by simp) ha.size (by rw [zz8 (zz8 nb _)]; rfl) (NAts.cons hn NAts.nil) rfl #[nPtr q] rfl (by simp [maxLen])
  have HC2 := qh (zx4 c _ j zz9 (by decide) HP.out); clear hp1 ha HC nb hA hn; go_wp2_with fail; refine cm HC2.out ?_; intro e wz hp
  cases hr2 : zz0 c.l zz9 j with
  | out => rw [hr2] at HQ2; exact absurd HQ2.out HO.out
  | bad er pl =>
   rw [hr2] at hp HQ2; have hq : r = .bad er pl := zzq HQ2; subst hq; obtain ⟨⟨v, rfl, rfl⟩, hp2, he, ha2⟩ := hp; have HP2 := qh hp2; have HA2 := qh (HA.out.next ha2); clear hp2 ha2 HC2 hr2; go_wp2_with fail; go_ret
   exact ⟨⟨_, rfl, _, rfl⟩, HP2.out, he, HA2.out⟩
  | ok x j2 =>
   rw [hr2] at hp HQ2; have hq : r = .ok (.mk 15 zzx 0 [t]) j2 := zzq HQ2; subst hq; obtain ⟨⟨v, rfl, rfl⟩, hp2, ha2⟩ := hp; have HP2 := qh hp2; have HA2 := qh (HA.out.next ha2)
   have HN2 := qh (NV.later HN.out ha2 HLT.out); clear hp2 ha2 HC2 hr2; go_wp2_with fail; go_ret; exact ⟨⟨_, rfl, HN2.out⟩, HP2.out, HA2.out⟩
end Go.Proofs.YtoimgcjbcbhclaaGreatDoor.Old
