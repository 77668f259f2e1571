/-
  The document's parser: pairs.
-/
import Derived.Test.YtoimgcjbcbhclaaGreatDoorRn20
import Derived.Laws.IdiomRangeMap
import Derived.Maps.RangeRun
namespace Go.Proofs.YtoimgcjbcbhclaaGreatDoor.Old
open Go.RowKit
set_option maxRecDepth 100000 in
set_option maxHeartbeats 1000000 in
theorem rpairs_nil {c : PC} {F : Fns} (hF : RCt c F) (w : World) (d i g o : Nat) (r : PR Tr) (hd : d ≤ 30) (hs : r = zkx c.l F d [] i) (ho : r ≠ .out) (h : Ps c w i 0 (-1)) :
  Calls Tryz.prog 254 #[pPtr c, .int .i64 (d : Int), .slice (some ⟨g, o, none⟩) 0 0] w (zj3 c w (NV w.heap.size) ZN r) := by
 have HC := qh (hF.sg w d i r hd hs ho h)
 have HO := qh ho
 clear h hs ho hF
 go_enter Tryz.func254, Tryz.ntmps254
 go_wp2_with fail
 refine cm HC.out ?_
 intro e w1 hp
 cases r with
 | out => exact absurd rfl HO.out
 | bad er pl =>
  obtain ⟨⟨v, rfl, q, rfl⟩, hp1, he, ha⟩ := hp; have HP := qh hp1; have HA := qh ha; clear hp1 ha HC; go_wp2_with fail; go_ret; exact ⟨⟨_, rfl, _, rfl⟩, HP.out, he, HA.out⟩
 | ok t j =>
  obtain ⟨⟨v, rfl, q, rfl, hn⟩, hp1, ha⟩ := hp; have HP := qh hp1; have HA := qh ha; have HN := qh hn; clear hp1 ha hn HC; go_wp2_with fail; go_ret; exact ⟨⟨_, rfl, q, rfl, HN.out⟩, HP.out, HA.out⟩
def PairC (c : PC) (F : Fns) (d g o : Nat) (ls : List ByteArray) : Prop := ∀ w i r, r = zkx c.l F d ls i → r ≠ .out → Ps c w i 0 (-1) → w.heap[g]? = some (.cells zy7 9 (0, 0)) → Calls Tryz.prog 254 #[pPtr c, .int .i64 (d : Int), .slice (some ⟨g, o, none⟩) ls.length ls.length] w (zj3 c w (NV w.heap.size) ZN r)
theorem zb2 {B : Nat} {w : World} {t : Tr} {q : Nat} (h : NV B w t (nPtr q)) : NAt (fun b => B ≤ b) w t q := by
 obtain ⟨p, hp, hn⟩ := h
 have : q = p := by injection hp with h1; injection h1 with h2; injection h2
 rw [this]; exact hn
theorem zdx (W : World) (N : Nat) (hN : N = W.heap.size) : ∃ m1 m2 m3 m4 m5 m6 m7 : Array MapEntry,
  (Instr.makeMap 89 none).run Tryz.prog W.drew.drew = .ok (.map (some N)) (W.alloc (.map #[] 0)).drew.drew
  ∧ (Instr.mapUpdate 89 (.map (some N)) (.string tOr) (.int .i64 25)).run Tryz.prog (W.alloc (.map #[] 0)).drew.drew = .ok () (W.alloc (.map m1 1)).drew.drew
  ∧ (Instr.mapUpdate 89 (.map (some N)) (.string tAnd) (.int .i64 26)).run Tryz.prog (W.alloc (.map m1 1)).drew.drew = .ok () (W.alloc (.map m2 2)).drew.drew
  ∧ (Instr.mapUpdate 89 (.map (some N)) (.string tSame) (.int .i64 27)).run Tryz.prog (W.alloc (.map m2 2)).drew.drew = .ok () (W.alloc (.map m3 3)).drew.drew
  ∧ (Instr.mapUpdate 89 (.map (some N)) (.string tLess) (.int .i64 28)).run Tryz.prog (W.alloc (.map m3 3)).drew.drew = .ok () (W.alloc (.map m4 4)).drew.drew
  ∧ (Instr.mapUpdate 89 (.map (some N)) (.string tAdd) (.int .i64 29)).run Tryz.prog (W.alloc (.map m4 4)).drew.drew = .ok () (W.alloc (.map m5 5)).drew.drew
  ∧ (Instr.mapUpdate 89 (.map (some N)) (.string tSub) (.int .i64 30)).run Tryz.prog (W.alloc (.map m5 5)).drew.drew = .ok () (W.alloc (.map m6 6)).drew.drew
  ∧ (Instr.mapUpdate 89 (.map (some N)) (.string tMul) (.int .i64 31)).run Tryz.prog (W.alloc (.map m6 6)).drew.drew = .ok () (W.alloc (.map m7 7)).drew.drew
  ∧ ∀ s, (Instr.lookup 89 (.map (some N)) (.string s) false).run Tryz.prog (W.alloc (.map m7 7)).drew.drew = .ok (.int .i64 (opK s)) (W.alloc (.map m7 7)).drew.drew := by
 subst hN
 exact ops_made W.drew.drew
theorem zmq (s x : ByteArray) :
  (zny s x = true ∧ (x.toList == s.toList) = true) ∨ (zny s x = true ∧ (x.toList == s.toList) = false ∧ (s.toList == [43, 45]) = true ∧ (x.toList == [43]) = true)
  ∨ (zny s x = true ∧ (x.toList == s.toList) = false ∧ (s.toList == [43, 45]) = true ∧ (x.toList == [43]) = false ∧ (x.toList == [45]) = true)
  ∨ (zny s x = false ∧ (x.toList == s.toList) = false ∧ (s.toList == [43, 45]) = false)
  ∨ (zny s x = false ∧ (x.toList == s.toList) = false ∧ (s.toList == [43, 45]) = true ∧ (x.toList == [43]) = false ∧ (x.toList == [45]) = false) := by
 unfold zny
 by_cases h1 : x = s
 ·
  exact Or.inl ⟨by simp [h1], tl_eq h1⟩
 ·
  by_cases h2 : s = tPM
  ·
   by_cases h3 : x = tAdd
   ·
    exact Or.inr (Or.inl ⟨by simp [h2, h3], tl_ne h1, zfw (b := tPM) rfl h2, zfw (b := tAdd) rfl h3⟩)
   ·
    by_cases h4 : x = tSub
    ·
     exact Or.inr (Or.inr (Or.inl ⟨by simp [h2, h4], tl_ne h1, zfw (b := tPM) rfl h2, zf3 (b := tAdd) rfl h3, zfw (b := tSub) rfl h4⟩))
    ·
     exact Or.inr (Or.inr (Or.inr (Or.inr ⟨by simp [h1, h3, h4], tl_ne h1, zfw (b := tPM) rfl h2, zf3 (b := tAdd) rfl h3, zf3 (b := tSub) rfl h4⟩)))
  ·
   exact Or.inr (Or.inr (Or.inr (Or.inl ⟨by simp [h1, h2], tl_ne h1, zf3 (b := tPM) rfl h2⟩)))
set_option maxRecDepth 100000 in
set_option maxHeartbeats 8000000 in
theorem rpairs_more {c : PC} {F : Fns} {d g o : Nat} {s : ByteArray} {rest : List ByteArray} (hg : g ≠ c.P) (hso : zy7[o]? = some (.string s)) (hz : rest ≠ []) (hC : PairC c F d g (o + 1) rest) : PairC c F d g o (s :: rest) := by
 intro w i r hs ho h hk
 unfold zkx at hs
 have HLT := qh h.rlt
 have HSO := qh hso
 have HO := qh ho
 have HS := qh hs
 have HK := qh hk
 have HGN := qh hg
 have HC := qh (fun r hr ho => hC w i r hr ho h hk)
 have HPC := qh hC
 clear hs ho hso
 unfold PairC at HPC
 simp only [List.length_cons]
 obtain ⟨n, hn⟩ : ∃ n, rest.length = n := ⟨_, rfl⟩
 rw [hn] at HC HPC
 rw [hn]
 have hn0 : ¬ n = 0 := by rw [← hn]; intro h0; exact hz (List.length_eq_zero_iff.1 h0)
 have b0 : (((n : Nat) : Int) + 1 == 0) = false := beq_eq_false_iff_ne.2 (by omega)
 clear hz hn
 clear h hk hC hg
 cases hr : zkx c.l F d rest i with
 | out => rw [hr] at HS; exact absurd HS.out HO.out
 | bad er pl =>
  have HC' := qh (HC.out _ hr.symm (by nofun)); rw [hr] at HS; have hq : r = .bad er pl := zzq HS; subst hq; clear HC HPC hr; go_enter Tryz.func254, Tryz.ntmps254; go_wp2_with fail; refine cm HC'.out ?_
  rintro e w1 ⟨⟨v, rfl, q, rfl⟩, ⟨j, hp1⟩, he, ha1⟩; have HC1 := qh (zvj he hp1); have HP1 := qh hp1; have HA1 := qh ha1; clear hp1 ha1 HC'; go_wp2_with fail; refine wp_loop_rounds 1 ?_; rw [rounds_succ]
  go_wp2_with fail; refine cm HC1.out ?_; rintro e w2 ⟨rfl, rfl⟩; clear HC1; go_wp2_with fail; go_ret; exact ⟨⟨_, rfl, _, rfl⟩, ⟨j, HP1.out⟩, he, HA1.out⟩
 | ok t0 j0 =>
  have HC' := qh (HC.out _ hr.symm (by nofun)); rw [hr] at HS; have HS2 : Hid (zj2 c.l (zkx c.l F d rest) s F.fuel t0 j0 = r) := HS.out.symm; clear HC hr HS; go_enter Tryz.func254, Tryz.ntmps254
  go_wp2_with fail; refine cm HC'.out ?_; rintro e w1 ⟨⟨v, rfl, q, rfl, hn1⟩, hp1, ha1⟩; have HP1 := qh hp1; have HA1 := qh ha1; have HN1 : Hid (NV w.heap.size w1 t0 (nPtr q)) := ⟨q, rfl, hn1⟩; clear hp1 ha1 hn1 HC'
  go_wp2_with fail
  go_loopg [7] F.fuel (fun k v wr => (∃ t j, zj2 c.l (zkx c.l F d rest) s k t j = r ∧ NV w.heap.size wr t v ∧ Ps c wr j 0 (-1) ∧ Ap c.P w.heap.size w wr)
   ∨ (∃ er pl, r = .bad er pl ∧ er ≠ 0 ∧ (∃ j, Ps c wr j er (pl : Int)) ∧ Ap c.P w.heap.size w wr ∧ ZN v))
  case atStart => exact Or.inl ⟨t0, j0, HS2.out, HN1.out, HP1.out, HA1.out⟩
  case round =>
   clear HS2 HP1 HA1 HN1
   rcases hrel with ⟨t, j, hq, hnv, hps, hap⟩ | ⟨er, pl, hq, he, ⟨j, hps⟩, hap, q, rfl⟩
   ·
    obtain ⟨k, rfl⟩ : ∃ k, gk = k + 1 := by
     cases gk with
     | zero => exact absurd hq.symm HO.out
     | succ k => exact ⟨k, rfl⟩
    obtain ⟨q, rfl, hn⟩ := hnv; have HN := qh hn; have HPS := qh hps; have HAP := qh hap; have h0 := hps.c0; have h1 := hps.c1; have f1 := hps.fz 1; obtain ⟨k0, k1, k2, k3⟩ := hps.toks
    have hlt : (j : Int) < (c.l.length : Int) := by have := hps.lt; omega
    have hl3 := hps.base.len; have hR := hps.rlt; have hT := hps.base.tlt; have hR1 : c.P < wr.heap.size + 1 := by omega
    have hT1 : c.tb < wr.heap.size + 1 := by omega
    have hgb := (hap.block g (zzz HK.out) HGN.out).trans HK.out; have HGB := qh hgb; have hgl := zzz hgb; have hg1 : g < wr.heap.size + 1 := by omega
    have kg : wr.cell? ⟨g, o, none⟩ = some (.string s) := by rw [zqy hgb]; exact zzq HSO
    have HC1 := qh (zk8 hps); have hnx : (tkA c.l j).kd = 5 → j + 1 < c.l.length := fun hk => zk4 hps.base.ends hps.lt (by rw [hk]; decide)
    have HNX := qh hnx; unfold zj2 at hq; have HQ := qh hq; clear hq hn hps hap hgb hnx
    by_cases h5 : (tkA c.l j).kd = 5
    ·
     rcases zmq s (tkA c.l j).tx with ⟨hf, b1⟩ | ⟨hf, b1, b2, b3⟩ | ⟨hf, b1, b2, b3, b4⟩ | ⟨hf, b1, b2⟩ | ⟨hf, b1, b2, b3, b4⟩
     ·
      have b5 : ((tkA c.l j).kd != 5) = false := by rw [h5]; rfl
      rw [if_pos ⟨h5, hf⟩] at HQ; have hl := HNX.out h5; clear hf h5; have hnj : ((j : Int) + 1) = (((j + 1 : Nat)) : Int) := by omega
      obtain ⟨m1, m2, m3, m4, m5, m6, m7, e0, e1, e2, e3, e4, e5, e6, e7, e8⟩ := zdx ((wr.setCell ⟨c.P, 1, none⟩ (.int .i64 ((j : Int) + 1))).alloc (tokO (tkA c.l j))) (wr.heap.size + 1) (by simp)
      have HP3 : Hid (Ps c ((((wr.setCell ⟨c.P, 1, none⟩ (.int .i64 ((j : Int) + 1))).alloc (tokO (tkA c.l j))).alloc (.map m7 7)).drew.drew) (j + 1) 0 (-1)) := by rw [hnj]; exact (((HPS.out.step hl).alloc _).alloc _).drew.drew
      have HA3 : Hid (Ap c.P w.heap.size w ((((wr.setCell ⟨c.P, 1, none⟩ (.int .i64 ((j : Int) + 1))).alloc (tokO (tkA c.l j))).alloc (.map m7 7)).drew.drew)) := (((HAP.out.setCell (p := ⟨c.P, 1, none⟩) (Or.inr rfl) _).alloc (by have := HAP.out.size; simp; omega) _).alloc (by have := HAP.out.size; simp; omega) _).drew.drew
      have HN3 : Hid (NV w.heap.size ((((wr.setCell ⟨c.P, 1, none⟩ (.int .i64 ((j : Int) + 1))).alloc (tokO (tkA c.l j))).alloc (.map m7 7)).drew.drew) t (nPtr q)) := NV.later ⟨q, rfl, HN.out⟩ (((((Ap.refl c.P wr.heap.size wr).setCell (p := ⟨c.P, 1, none⟩) (Or.inr rfl) _).alloc (by simp) _).alloc (by simp) _).drew.drew) HLT.out
      have HK3 : Hid (((((wr.setCell ⟨c.P, 1, none⟩ (.int .i64 ((j : Int) + 1))).alloc (tokO (tkA c.l j))).alloc (.map m7 7)).drew.drew).heap[g]? = some (.cells zy7 9 (0, 0))) := (HA3.out.block g (zzz HK.out) HGN.out).trans HK.out
      cases hr2 : zkx c.l F d rest (j + 1) with
      | out => rw [hr2] at HQ; exact absurd HQ.out.symm HO.out
      | bad er pl =>
       have HC3 := qh (HPC.out _ _ _ hr2.symm (by nofun) HP3.out HK3.out); rw [hr2] at HQ; have HQQ : Hid (r = .bad er pl) := HQ.out.symm; clear hr2 HQ hnj
       generalize tkA c.l j = tk at *
       go_wp2_with fail; refine cm HC1.out ?_; rintro e w2 ⟨rfl, rfl⟩; clear HC1; go_wp2_with fail
       go_region
       go_wp2_with fail
       go_region
       go_wp2_with fail; refine cm HC3.out ?_; rintro e w3 ⟨⟨v, rfl, p3, rfl⟩, ⟨j3, hp3⟩, he, ha3⟩; have HP4 := qh hp3; have HA4 := qh (HA3.out.next ha3)
       clear hp3 ha3 HC3 HP3 HA3 HN3 HK3 e0 e1 e2 e3 e4 e5 e6 e7 e8 h0 h1 f1 k0 k1 k2 k3 kg; go_wp2_with fail
       go_roundg k
       case measure => omega
       case rel => exact Or.inr ⟨er, pl, HQQ.out, he, ⟨j3, (HP4.out.alloc _).alloc _⟩, (HA4.out.alloc HA4.out.size _).alloc (by have := HA4.out.size; simp; omega) _, _, rfl⟩
      | ok u j2 =>
       have HC3 := qh (HPC.out _ _ _ hr2.symm (by nofun) HP3.out HK3.out); rw [hr2] at HQ; have HQQ : Hid (zj2 c.l (zkx c.l F d rest) s k (.mk (opK (tkA c.l j).tx) zzx 0 [t, u]) j2 = r) := zzq HQ
       clear hr2 HQ hnj
       generalize tkA c.l j = tk at *
       go_wp2_with fail; refine cm HC1.out ?_; rintro e w2 ⟨rfl, rfl⟩; clear HC1; go_wp2_with fail
       go_region
       go_wp2_with fail
       go_region
       go_wp2_with fail; refine cm HC3.out ?_; rintro e w3 ⟨⟨v, rfl, p3, rfl, hn3⟩, hp3, ha3⟩; have HP4 := qh hp3; have HA4 := qh (HA3.out.next ha3); have HN4 := qh (zb2 (NV.later HN3.out ha3 HLT.out))
       have HU4 : Hid (NAt (fun b => w.heap.size ≤ b) w3 u p3) := NAt.mono (fun b hb _ => Nat.le_trans HA3.out.size hb) _ _ hn3; clear hn3 hp3 ha3 HC3 HP3 HA3 HN3 HK3 e0 e1 e2 e3 e4 e5 e6 e7 e8 h0 h1 f1 k0 k1 k2 k3 kg
       go_wp2_with fail
       go_roundg k
       case measure => omega
       case rel => exact Or.inl ⟨_, j2, HQQ.out, (zhx (NAts.cons HN4.out (NAts.cons HU4.out NAts.nil)) HA4.out.size (by simp [maxLen]) #[nPtr q, nPtr p3] rfl 2 rfl _ zzx 0 _ rfl).nv, (HP4.out.alloc _).alloc _, (HA4.out.alloc HA4.out.size _).alloc (by have := HA4.out.size; simp; omega) _⟩
     ·
      have b5 : ((tkA c.l j).kd != 5) = false := by rw [h5]; rfl
      rw [if_pos ⟨h5, hf⟩] at HQ; have hl := HNX.out h5; clear hf h5; have hnj : ((j : Int) + 1) = (((j + 1 : Nat)) : Int) := by omega
      obtain ⟨m1, m2, m3, m4, m5, m6, m7, e0, e1, e2, e3, e4, e5, e6, e7, e8⟩ := zdx ((wr.setCell ⟨c.P, 1, none⟩ (.int .i64 ((j : Int) + 1))).alloc (tokO (tkA c.l j))) (wr.heap.size + 1) (by simp)
      have HP3 : Hid (Ps c ((((wr.setCell ⟨c.P, 1, none⟩ (.int .i64 ((j : Int) + 1))).alloc (tokO (tkA c.l j))).alloc (.map m7 7)).drew.drew) (j + 1) 0 (-1)) := by rw [hnj]; exact (((HPS.out.step hl).alloc _).alloc _).drew.drew
      have HA3 : Hid (Ap c.P w.heap.size w ((((wr.setCell ⟨c.P, 1, none⟩ (.int .i64 ((j : Int) + 1))).alloc (tokO (tkA c.l j))).alloc (.map m7 7)).drew.drew)) := (((HAP.out.setCell (p := ⟨c.P, 1, none⟩) (Or.inr rfl) _).alloc (by have := HAP.out.size; simp; omega) _).alloc (by have := HAP.out.size; simp; omega) _).drew.drew
      have HN3 : Hid (NV w.heap.size ((((wr.setCell ⟨c.P, 1, none⟩ (.int .i64 ((j : Int) + 1))).alloc (tokO (tkA c.l j))).alloc (.map m7 7)).drew.drew) t (nPtr q)) := NV.later ⟨q, rfl, HN.out⟩ (((((Ap.refl c.P wr.heap.size wr).setCell (p := ⟨c.P, 1, none⟩) (Or.inr rfl) _).alloc (by simp) _).alloc (by simp) _).drew.drew) HLT.out
      have HK3 : Hid (((((wr.setCell ⟨c.P, 1, none⟩ (.int .i64 ((j : Int) + 1))).alloc (tokO (tkA c.l j))).alloc (.map m7 7)).drew.drew).heap[g]? = some (.cells zy7 9 (0, 0))) := (HA3.out.block g (zzz HK.out) HGN.out).trans HK.out
      cases hr2 : zkx c.l F d rest (j + 1) with
      | out => rw [hr2] at HQ; exact absurd HQ.out.symm HO.out
      | bad er pl =>
       have HC3 := qh (HPC.out _ _ _ hr2.symm (by nofun) HP3.out HK3.out); rw [hr2] at HQ; have HQQ : Hid (r = .bad er pl) := HQ.out.symm; clear hr2 HQ hnj
       generalize tkA c.l j = tk at *
       go_wp2_with fail; refine cm HC1.out ?_; rintro e w2 ⟨rfl, rfl⟩; clear HC1; go_wp2_with fail
       go_region
       go_wp2_with fail
       go_region
       go_wp2_with fail; refine cm HC3.out ?_; rintro e w3 ⟨⟨v, rfl, p3, rfl⟩, ⟨j3, hp3⟩, he, ha3⟩; have HP4 := qh hp3; have HA4 := qh (HA3.out.next ha3)
       clear hp3 ha3 HC3 HP3 HA3 HN3 HK3 e0 e1 e2 e3 e4 e5 e6 e7 e8 h0 h1 f1 k0 k1 k2 k3 kg; go_wp2_with fail
       go_roundg k
       case measure => omega
       case rel => exact Or.inr ⟨er, pl, HQQ.out, he, ⟨j3, (HP4.out.alloc _).alloc _⟩, (HA4.out.alloc HA4.out.size _).alloc (by have := HA4.out.size; simp; omega) _, _, rfl⟩
      | ok u j2 =>
       have HC3 := qh (HPC.out _ _ _ hr2.symm (by nofun) HP3.out HK3.out); rw [hr2] at HQ; have HQQ : Hid (zj2 c.l (zkx c.l F d rest) s k (.mk (opK (tkA c.l j).tx) zzx 0 [t, u]) j2 = r) := zzq HQ
       clear hr2 HQ hnj
       generalize tkA c.l j = tk at *
       go_wp2_with fail; refine cm HC1.out ?_; rintro e w2 ⟨rfl, rfl⟩; clear HC1; go_wp2_with fail
       go_region
       go_wp2_with fail
       go_region
       go_wp2_with fail; refine cm HC3.out ?_; rintro e w3 ⟨⟨v, rfl, p3, rfl, hn3⟩, hp3, ha3⟩; have HP4 := qh hp3; have HA4 := qh (HA3.out.next ha3); have HN4 := qh (zb2 (NV.later HN3.out ha3 HLT.out))
       have HU4 : Hid (NAt (fun b => w.heap.size ≤ b) w3 u p3) := NAt.mono (fun b hb _ => Nat.le_trans HA3.out.size hb) _ _ hn3; clear hn3 hp3 ha3 HC3 HP3 HA3 HN3 HK3 e0 e1 e2 e3 e4 e5 e6 e7 e8 h0 h1 f1 k0 k1 k2 k3 kg
       go_wp2_with fail
       go_roundg k
       case measure => omega
       case rel => exact Or.inl ⟨_, j2, HQQ.out, (zhx (NAts.cons HN4.out (NAts.cons HU4.out NAts.nil)) HA4.out.size (by simp [maxLen]) #[nPtr q, nPtr p3] rfl 2 rfl _ zzx 0 _ rfl).nv, (HP4.out.alloc _).alloc _, (HA4.out.alloc HA4.out.size _).alloc (by have := HA4.out.size; simp; omega) _⟩
     ·
      have b5 : ((tkA c.l j).kd != 5) = false := by rw [h5]; rfl
      rw [if_pos ⟨h5, hf⟩] at HQ; have hl := HNX.out h5; clear hf h5; have hnj : ((j : Int) + 1) = (((j + 1 : Nat)) : Int) := by omega
      obtain ⟨m1, m2, m3, m4, m5, m6, m7, e0, e1, e2, e3, e4, e5, e6, e7, e8⟩ := zdx ((wr.setCell ⟨c.P, 1, none⟩ (.int .i64 ((j : Int) + 1))).alloc (tokO (tkA c.l j))) (wr.heap.size + 1) (by simp)
      have HP3 : Hid (Ps c ((((wr.setCell ⟨c.P, 1, none⟩ (.int .i64 ((j : Int) + 1))).alloc (tokO (tkA c.l j))).alloc (.map m7 7)).drew.drew) (j + 1) 0 (-1)) := by rw [hnj]; exact (((HPS.out.step hl).alloc _).alloc _).drew.drew
      have HA3 : Hid (Ap c.P w.heap.size w ((((wr.setCell ⟨c.P, 1, none⟩ (.int .i64 ((j : Int) + 1))).alloc (tokO (tkA c.l j))).alloc (.map m7 7)).drew.drew)) := (((HAP.out.setCell (p := ⟨c.P, 1, none⟩) (Or.inr rfl) _).alloc (by have := HAP.out.size; simp; omega) _).alloc (by have := HAP.out.size; simp; omega) _).drew.drew
      have HN3 : Hid (NV w.heap.size ((((wr.setCell ⟨c.P, 1, none⟩ (.int .i64 ((j : Int) + 1))).alloc (tokO (tkA c.l j))).alloc (.map m7 7)).drew.drew) t (nPtr q)) := NV.later ⟨q, rfl, HN.out⟩ (((((Ap.refl c.P wr.heap.size wr).setCell (p := ⟨c.P, 1, none⟩) (Or.inr rfl) _).alloc (by simp) _).alloc (by simp) _).drew.drew) HLT.out
      have HK3 : Hid (((((wr.setCell ⟨c.P, 1, none⟩ (.int .i64 ((j : Int) + 1))).alloc (tokO (tkA c.l j))).alloc (.map m7 7)).drew.drew).heap[g]? = some (.cells zy7 9 (0, 0))) := (HA3.out.block g (zzz HK.out) HGN.out).trans HK.out
      cases hr2 : zkx c.l F d rest (j + 1) with
      | out => rw [hr2] at HQ; exact absurd HQ.out.symm HO.out
      | bad er pl =>
       have HC3 := qh (HPC.out _ _ _ hr2.symm (by nofun) HP3.out HK3.out); rw [hr2] at HQ; have HQQ : Hid (r = .bad er pl) := HQ.out.symm; clear hr2 HQ hnj
       generalize tkA c.l j = tk at *
       go_wp2_with fail; refine cm HC1.out ?_; rintro e w2 ⟨rfl, rfl⟩; clear HC1; go_wp2_with fail
       go_region
       go_wp2_with fail
       go_region
       go_wp2_with fail; refine cm HC3.out ?_; rintro e w3 ⟨⟨v, rfl, p3, rfl⟩, ⟨j3, hp3⟩, he, ha3⟩; have HP4 := qh hp3; have HA4 := qh (HA3.out.next ha3)
       clear hp3 ha3 HC3 HP3 HA3 HN3 HK3 e0 e1 e2 e3 e4 e5 e6 e7 e8 h0 h1 f1 k0 k1 k2 k3 kg; go_wp2_with fail
       go_roundg k
       case measure => omega
       case rel => exact Or.inr ⟨er, pl, HQQ.out, he, ⟨j3, (HP4.out.alloc _).alloc _⟩, (HA4.out.alloc HA4.out.size _).alloc (by have := HA4.out.size; simp; omega) _, _, rfl⟩
      | ok u j2 =>
       have HC3 := qh (HPC.out _ _ _ hr2.symm (by nofun) HP3.out HK3.out); rw [hr2] at HQ; have HQQ : Hid (zj2 c.l (zkx c.l F d rest) s k (.mk (opK (tkA c.l j).tx) zzx 0 [t, u]) j2 = r) := zzq HQ
       clear hr2 HQ hnj
       generalize tkA c.l j = tk at *
       go_wp2_with fail; refine cm HC1.out ?_; rintro e w2 ⟨rfl, rfl⟩; clear HC1; go_wp2_with fail
       go_region
       go_wp2_with fail
       go_region
       go_wp2_with fail; refine cm HC3.out ?_; rintro e w3 ⟨⟨v, rfl, p3, rfl, hn3⟩, hp3, ha3⟩; have HP4 := qh hp3; have HA4 := qh (HA3.out.next ha3); have HN4 := qh (zb2 (NV.later HN3.out ha3 HLT.out))
       have HU4 : Hid (NAt (fun b => w.heap.size ≤ b) w3 u p3) := NAt.mono (fun b hb _ => Nat.le_trans HA3.out.size hb) _ _ hn3; clear hn3 hp3 ha3 HC3 HP3 HA3 HN3 HK3 e0 e1 e2 e3 e4 e5 e6 e7 e8 h0 h1 f1 k0 k1 k2 k3 kg
       go_wp2_with fail
       go_roundg k
       case measure => omega
       case rel => exact Or.inl ⟨_, j2, HQQ.out, (zhx (NAts.cons HN4.out (NAts.cons HU4.out NAts.nil)) HA4.out.size (by simp [maxLen]) #[nPtr q, nPtr p3] rfl 2 rfl _ zzx 0 _ rfl).nv, (HP4.out.alloc _).alloc _, (HA4.out.alloc HA4.out.size _).alloc (by have := HA4.out.size; simp; omega) _⟩
     all_goals
      have b5 : ((tkA c.l j).kd != 5) = false := by rw [h5]; rfl
      rw [if_neg (fun h => by rw [hf] at h; exact absurd h.2 (by decide))] at HQ
      have hq : r = .ok t j := HQ.out.symm; subst hq; clear HQ hf h5 HPC HNX HO HK HSO
      generalize tkA c.l j = tk at *
      go_wp2_with fail; refine cm HC1.out ?_; rintro e w2 ⟨rfl, rfl⟩; clear HC1; go_wp2_with fail
      go_region
      go_wp2_with fail
      go_region
      go_wp2_with fail; go_ret
      exact ⟨⟨_, rfl, q, rfl, zb2 (NV.later ⟨q, rfl, HN.out⟩ (((Ap.refl c.P w2.heap.size w2).alloc qv _).drew.drew) HLT.out)⟩, (HPS.out.alloc _).drew.drew, (HAP.out.alloc HAP.out.size _).drew.drew⟩
    ·
     have HFF := qh (zmq s (tkA c.l j).tx); rw [if_neg (fun h => h5 h.1)] at HQ; have b5 : ((tkA c.l j).kd != 5) = true := bne_iff_ne.2 h5
     rcases zzq HFF with ⟨_, b1⟩ | ⟨_, b1, b2, b3⟩ | ⟨_, b1, b2, b3, b4⟩ | ⟨_, b1, b2⟩ | ⟨_, b1, b2, b3, b4⟩
     all_goals
      have hq : r = .ok t j := HQ.out.symm; subst hq; clear HQ h5 HFF HPC HNX HO HK HSO
      generalize tkA c.l j = tk at *
      go_wp2_with fail; refine cm HC1.out ?_; rintro e w2 ⟨rfl, rfl⟩; clear HC1; go_wp2_with fail
      go_region
      go_wp2_with fail
      go_region
      go_wp2_with fail; go_ret
      exact ⟨⟨_, rfl, q, rfl, zb2 (NV.later ⟨q, rfl, HN.out⟩ (((Ap.refl c.P w2.heap.size w2).alloc qv _).drew.drew) HLT.out)⟩, (HPS.out.alloc _).drew.drew, (HAP.out.alloc HAP.out.size _).drew.drew⟩
   ·
    have HC1 := qh (zvj he hps); have HP1 := qh hps; have HA1 := qh hap; clear hps hap; subst hq; go_wp2_with fail; refine cm HC1.out ?_; rintro e w2 ⟨rfl, rfl⟩; clear HC1; go_wp2_with fail; go_ret
    exact ⟨⟨_, rfl, _, rfl⟩, ⟨j, HP1.out⟩, he, HA1.out⟩
set_option maxRecDepth 100000 in
set_option maxHeartbeats 8000000 in
theorem rpairs_one {c : PC} {F : Fns} {d g o : Nat} {s : ByteArray} {rest : List ByteArray} (hg : g ≠ c.P) (hso : zy7[o]? = some (.string s)) (hz : rest = []) (hC : PairC c F d g o rest) : PairC c F d g o (s :: rest) := by
 intro w i r hs ho h hk
 unfold zkx at hs
 have HLT := qh h.rlt
 have HSO := qh hso
 have HO := qh ho
 have HS := qh hs
 have HK := qh hk
 have HGN := qh hg
 have HC := qh (fun r hr ho => hC w i r hr ho h hk)
 have HPC := qh hC
 clear hs ho hso
 subst hz
 simp only [List.length_cons, List.length_nil, Nat.zero_add]
 unfold PairC at HPC
 simp only [List.length_nil] at HC HPC
 clear h hk hC hg
 cases hr : zkx c.l F d [] i with
 | out => rw [hr] at HS; exact absurd HS.out HO.out
 | bad er pl =>
  have HC' := qh (HC.out _ hr.symm (by nofun)); rw [hr] at HS; have hq : r = .bad er pl := zzq HS; subst hq; clear HC HPC hr; go_enter Tryz.func254, Tryz.ntmps254; go_wp2_with fail; refine cm HC'.out ?_
  rintro e w1 ⟨⟨v, rfl, q, rfl⟩, ⟨j, hp1⟩, he, ha1⟩; have HC1 := qh (zvj he hp1); have HP1 := qh hp1; have HA1 := qh ha1; clear hp1 ha1 HC'; go_wp2_with fail; refine wp_loop_rounds 1 ?_; rw [rounds_succ]
  go_wp2_with fail; refine cm HC1.out ?_; rintro e w2 ⟨rfl, rfl⟩; clear HC1; go_wp2_with fail; go_ret; exact ⟨⟨_, rfl, _, rfl⟩, ⟨j, HP1.out⟩, he, HA1.out⟩
 | ok t0 j0 =>
  have HC' := qh (HC.out _ hr.symm (by nofun)); rw [hr] at HS; have HS2 : Hid (zj2 c.l (zkx c.l F d []) s F.fuel t0 j0 = r) := HS.out.symm; clear HC hr HS; go_enter Tryz.func254, Tryz.ntmps254; go_wp2_with fail
  refine cm HC'.out ?_; rintro e w1 ⟨⟨v, rfl, q, rfl, hn1⟩, hp1, ha1⟩; have HP1 := qh hp1; have HA1 := qh ha1; have HN1 : Hid (NV w.heap.size w1 t0 (nPtr q)) := ⟨q, rfl, hn1⟩; clear hp1 ha1 hn1 HC'; go_wp2_with fail
  go_loopg [7] F.fuel (fun k v wr => (∃ t j, zj2 c.l (zkx c.l F d []) s k t j = r ∧ NV w.heap.size wr t v ∧ Ps c wr j 0 (-1) ∧ Ap c.P w.heap.size w wr)
   ∨ (∃ er pl, r = .bad er pl ∧ er ≠ 0 ∧ (∃ j, Ps c wr j er (pl : Int)) ∧ Ap c.P w.heap.size w wr ∧ ZN v))
  case atStart => exact Or.inl ⟨t0, j0, HS2.out, HN1.out, HP1.out, HA1.out⟩
  case round =>
   clear HS2 HP1 HA1 HN1
   rcases hrel with ⟨t, j, hq, hnv, hps, hap⟩ | ⟨er, pl, hq, he, ⟨j, hps⟩, hap, q, rfl⟩
   ·
    obtain ⟨k, rfl⟩ : ∃ k, gk = k + 1 := by
     cases gk with
     | zero => exact absurd hq.symm HO.out
     | succ k => exact ⟨k, rfl⟩
    obtain ⟨q, rfl, hn⟩ := hnv; have HN := qh hn; have HPS := qh hps; have HAP := qh hap; have h0 := hps.c0; have h1 := hps.c1; have f1 := hps.fz 1; obtain ⟨k0, k1, k2, k3⟩ := hps.toks
    have hlt : (j : Int) < (c.l.length : Int) := by have := hps.lt; omega
    have hl3 := hps.base.len; have hR := hps.rlt; have hT := hps.base.tlt; have hR1 : c.P < wr.heap.size + 1 := by omega
    have hT1 : c.tb < wr.heap.size + 1 := by omega
    have hgb := (hap.block g (zzz HK.out) HGN.out).trans HK.out; have HGB := qh hgb; have hgl := zzz hgb; have hg1 : g < wr.heap.size + 1 := by omega
    have kg : wr.cell? ⟨g, o, none⟩ = some (.string s) := by rw [zqy hgb]; exact zzq HSO
    have HC1 := qh (zk8 hps); have hnx : (tkA c.l j).kd = 5 → j + 1 < c.l.length := fun hk => zk4 hps.base.ends hps.lt (by rw [hk]; decide)
    have HNX := qh hnx; unfold zj2 at hq; have HQ := qh hq; clear hq hn hps hap hgb hnx
    by_cases h5 : (tkA c.l j).kd = 5
    ·
     rcases zmq s (tkA c.l j).tx with ⟨hf, b1⟩ | ⟨hf, b1, b2, b3⟩ | ⟨hf, b1, b2, b3, b4⟩ | ⟨hf, b1, b2⟩ | ⟨hf, b1, b2, b3, b4⟩
     ·
      have b5 : ((tkA c.l j).kd != 5) = false := by rw [h5]; rfl
      rw [if_pos ⟨h5, hf⟩] at HQ; have hl := HNX.out h5; clear hf h5; have hnj : ((j : Int) + 1) = (((j + 1 : Nat)) : Int) := by omega
      obtain ⟨m1, m2, m3, m4, m5, m6, m7, e0, e1, e2, e3, e4, e5, e6, e7, e8⟩ := zdx ((wr.setCell ⟨c.P, 1, none⟩ (.int .i64 ((j : Int) + 1))).alloc (tokO (tkA c.l j))) (wr.heap.size + 1) (by simp)
      have HP3 : Hid (Ps c ((((wr.setCell ⟨c.P, 1, none⟩ (.int .i64 ((j : Int) + 1))).alloc (tokO (tkA c.l j))).alloc (.map m7 7)).drew.drew) (j + 1) 0 (-1)) := by rw [hnj]; exact (((HPS.out.step hl).alloc _).alloc _).drew.drew
      have HA3 : Hid (Ap c.P w.heap.size w ((((wr.setCell ⟨c.P, 1, none⟩ (.int .i64 ((j : Int) + 1))).alloc (tokO (tkA c.l j))).alloc (.map m7 7)).drew.drew)) := (((HAP.out.setCell (p := ⟨c.P, 1, none⟩) (Or.inr rfl) _).alloc (by have := HAP.out.size; simp; omega) _).alloc (by have := HAP.out.size; simp; omega) _).drew.drew
      have HN3 : Hid (NV w.heap.size ((((wr.setCell ⟨c.P, 1, none⟩ (.int .i64 ((j : Int) + 1))).alloc (tokO (tkA c.l j))).alloc (.map m7 7)).drew.drew) t (nPtr q)) := NV.later ⟨q, rfl, HN.out⟩ (((((Ap.refl c.P wr.heap.size wr).setCell (p := ⟨c.P, 1, none⟩) (Or.inr rfl) _).alloc (by simp) _).alloc (by simp) _).drew.drew) HLT.out
      have HK3 : Hid (((((wr.setCell ⟨c.P, 1, none⟩ (.int .i64 ((j : Int) + 1))).alloc (tokO (tkA c.l j))).alloc (.map m7 7)).drew.drew).heap[g]? = some (.cells zy7 9 (0, 0))) := (HA3.out.block g (zzz HK.out) HGN.out).trans HK.out
      cases hr2 : zkx c.l F d [] (j + 1) with
      | out => rw [hr2] at HQ; exact absurd HQ.out.symm HO.out
      | bad er pl =>
       have HC3 := qh (HPC.out _ _ _ hr2.symm (by nofun) HP3.out HK3.out); rw [hr2] at HQ; have HQQ : Hid (r = .bad er pl) := HQ.out.symm; clear hr2 HQ hnj
       generalize tkA c.l j = tk at *
       go_wp2_with fail; refine cm HC1.out ?_; rintro e w2 ⟨rfl, rfl⟩; clear HC1; go_wp2_with fail
       go_region
       go_wp2_with fail
       go_region
       go_wp2_with fail; refine cm HC3.out ?_; rintro e w3 ⟨⟨v, rfl, p3, rfl⟩, ⟨j3, hp3⟩, he, ha3⟩; have HP4 := qh hp3; have HA4 := qh (HA3.out.next ha3)
       clear hp3 ha3 HC3 HP3 HA3 HN3 HK3 e0 e1 e2 e3 e4 e5 e6 e7 e8 h0 h1 f1 k0 k1 k2 k3 kg; go_wp2_with fail
       go_roundg k
       case measure => omega
       case rel => exact Or.inr ⟨er, pl, HQQ.out, he, ⟨j3, (HP4.out.alloc _).alloc _⟩, (HA4.out.alloc HA4.out.size _).alloc (by have := HA4.out.size; simp; omega) _, _, rfl⟩
      | ok u j2 =>
       have HC3 := qh (HPC.out _ _ _ hr2.symm (by nofun) HP3.out HK3.out); rw [hr2] at HQ; have HQQ : Hid (zj2 c.l (zkx c.l F d []) s k (.mk (opK (tkA c.l j).tx) zzx 0 [t, u]) j2 = r) := zzq HQ
       clear hr2 HQ hnj
       generalize tkA c.l j = tk at *
       go_wp2_with fail; refine cm HC1.out ?_; rintro e w2 ⟨rfl, rfl⟩; clear HC1; go_wp2_with fail
       go_region
       go_wp2_with fail
       go_region
       go_wp2_with fail; refine cm HC3.out ?_; rintro e w3 ⟨⟨v, rfl, p3, rfl, hn3⟩, hp3, ha3⟩; have HP4 := qh hp3; have HA4 := qh (HA3.out.next ha3); have HN4 := qh (zb2 (NV.later HN3.out ha3 HLT.out))
       have HU4 : Hid (NAt (fun b => w.heap.size ≤ b) w3 u p3) := NAt.mono (fun b hb _ => Nat.le_trans HA3.out.size hb) _ _ hn3; clear hn3 hp3 ha3 HC3 HP3 HA3 HN3 HK3 e0 e1 e2 e3 e4 e5 e6 e7 e8 h0 h1 f1 k0 k1 k2 k3 kg
       go_wp2_with fail
       go_roundg k
       case measure => omega
       case rel => exact Or.inl ⟨_, j2, HQQ.out, (zhx (NAts.cons HN4.out (NAts.cons HU4.out NAts.nil)) HA4.out.size (by simp [maxLen]) #[nPtr q, nPtr p3] rfl 2 rfl _ zzx 0 _ rfl).nv, (HP4.out.alloc _).alloc _, (HA4.out.alloc HA4.out.size _).alloc (by have := HA4.out.size; simp; omega) _⟩
     ·
      have b5 : ((tkA c.l j).kd != 5) = false := by rw [h5]; rfl
      rw [if_pos ⟨h5, hf⟩] at HQ; have hl := HNX.out h5; clear hf h5; have hnj : ((j : Int) + 1) = (((j + 1 : Nat)) : Int) := by omega
      obtain ⟨m1, m2, m3, m4, m5, m6, m7, e0, e1, e2, e3, e4, e5, e6, e7, e8⟩ := zdx ((wr.setCell ⟨c.P, 1, none⟩ (.int .i64 ((j : Int) + 1))).alloc (tokO (tkA c.l j))) (wr.heap.size + 1) (by simp)
      have HP3 : Hid (Ps c ((((wr.setCell ⟨c.P, 1, none⟩ (.int .i64 ((j : Int) + 1))).alloc (tokO (tkA c.l j))).alloc (.map m7 7)).drew.drew) (j + 1) 0 (-1)) := by rw [hnj]; exact (((HPS.out.step hl).alloc _).alloc _).drew.drew
      have HA3 : Hid (Ap c.P w.heap.size w ((((wr.setCell ⟨c.P, 1, none⟩ (.int .i64 ((j : Int) + 1))).alloc (tokO (tkA c.l j))).alloc (.map m7 7)).drew.drew)) := (((HAP.out.setCell (p := ⟨c.P, 1, none⟩) (Or.inr rfl) _).alloc (by have := HAP.out.size; simp; omega) _).alloc (by have := HAP.out.size; simp; omega) _).drew.drew
      have HN3 : Hid (NV w.heap.size ((((wr.setCell ⟨c.P, 1, none⟩ (.int .i64 ((j : Int) + 1))).alloc (tokO (tkA c.l j))).alloc (.map m7 7)).drew.drew) t (nPtr q)) := NV.later ⟨q, rfl, HN.out⟩ (((((Ap.refl c.P wr.heap.size wr).setCell (p := ⟨c.P, 1, none⟩) (Or.inr rfl) _).alloc (by simp) _).alloc (by simp) _).drew.drew) HLT.out
      have HK3 : Hid (((((wr.setCell ⟨c.P, 1, none⟩ (.int .i64 ((j : Int) + 1))).alloc (tokO (tkA c.l j))).alloc (.map m7 7)).drew.drew).heap[g]? = some (.cells zy7 9 (0, 0))) := (HA3.out.block g (zzz HK.out) HGN.out).trans HK.out
      cases hr2 : zkx c.l F d [] (j + 1) with
      | out => rw [hr2] at HQ; exact absurd HQ.out.symm HO.out
      | bad er pl =>
       have HC3 := qh (HPC.out _ _ _ hr2.symm (by nofun) HP3.out HK3.out); rw [hr2] at HQ; have HQQ : Hid (r = .bad er pl) := HQ.out.symm; clear hr2 HQ hnj
       generalize tkA c.l j = tk at *
       go_wp2_with fail; refine cm HC1.out ?_; rintro e w2 ⟨rfl, rfl⟩; clear HC1; go_wp2_with fail
       go_region
       go_wp2_with fail
       go_region
       go_wp2_with fail; refine cm HC3.out ?_; rintro e w3 ⟨⟨v, rfl, p3, rfl⟩, ⟨j3, hp3⟩, he, ha3⟩; have HP4 := qh hp3; have HA4 := qh (HA3.out.next ha3)
       clear hp3 ha3 HC3 HP3 HA3 HN3 HK3 e0 e1 e2 e3 e4 e5 e6 e7 e8 h0 h1 f1 k0 k1 k2 k3 kg; go_wp2_with fail
       go_roundg k
       case measure => omega
       case rel => exact Or.inr ⟨er, pl, HQQ.out, he, ⟨j3, (HP4.out.alloc _).alloc _⟩, (HA4.out.alloc HA4.out.size _).alloc (by have := HA4.out.size; simp; omega) _, _, rfl⟩
      | ok u j2 =>
       have HC3 := qh (HPC.out _ _ _ hr2.symm (by nofun) HP3.out HK3.out); rw [hr2] at HQ; have HQQ : Hid (zj2 c.l (zkx c.l F d []) s k (.mk (opK (tkA c.l j).tx) zzx 0 [t, u]) j2 = r) := zzq HQ
       clear hr2 HQ hnj
       generalize tkA c.l j = tk at *
       go_wp2_with fail; refine cm HC1.out ?_; rintro e w2 ⟨rfl, rfl⟩; clear HC1; go_wp2_with fail
       go_region
       go_wp2_with fail
       go_region
       go_wp2_with fail; refine cm HC3.out ?_; rintro e w3 ⟨⟨v, rfl, p3, rfl, hn3⟩, hp3, ha3⟩; have HP4 := qh hp3; have HA4 := qh (HA3.out.next ha3); have HN4 := qh (zb2 (NV.later HN3.out ha3 HLT.out))
       have HU4 : Hid (NAt (fun b => w.heap.size ≤ b) w3 u p3) := NAt.mono (fun b hb _ => Nat.le_trans HA3.out.size hb) _ _ hn3; clear hn3 hp3 ha3 HC3 HP3 HA3 HN3 HK3 e0 e1 e2 e3 e4 e5 e6 e7 e8 h0 h1 f1 k0 k1 k2 k3 kg
       go_wp2_with fail
       go_roundg k
       case measure => omega
       case rel => exact Or.inl ⟨_, j2, HQQ.out, (zhx (NAts.cons HN4.out (NAts.cons HU4.out NAts.nil)) HA4.out.size (by simp [maxLen]) #[nPtr q, nPtr p3] rfl 2 rfl _ zzx 0 _ rfl).nv, (HP4.out.alloc _).alloc _, (HA4.out.alloc HA4.out.size _).alloc (by have := HA4.out.size; simp; omega) _⟩
     ·
      have b5 : ((tkA c.l j).kd != 5) = false := by rw [h5]; rfl
      rw [if_pos ⟨h5, hf⟩] at HQ; have hl := HNX.out h5; clear hf h5; have hnj : ((j : Int) + 1) = (((j + 1 : Nat)) : Int) := by omega
      obtain ⟨m1, m2, m3, m4, m5, m6, m7, e0, e1, e2, e3, e4, e5, e6, e7, e8⟩ := zdx ((wr.setCell ⟨c.P, 1, none⟩ (.int .i64 ((j : Int) + 1))).alloc (tokO (tkA c.l j))) (wr.heap.size + 1) (by simp)
      have HP3 : Hid (Ps c ((((wr.setCell ⟨c.P, 1, none⟩ (.int .i64 ((j : Int) + 1))).alloc (tokO (tkA c.l j))).alloc (.map m7 7)).drew.drew) (j + 1) 0 (-1)) := by rw [hnj]; exact (((HPS.out.step hl).alloc _).alloc _).drew.drew
      have HA3 : Hid (Ap c.P w.heap.size w ((((wr.setCell ⟨c.P, 1, none⟩ (.int .i64 ((j : Int) + 1))).alloc (tokO (tkA c.l j))).alloc (.map m7 7)).drew.drew)) := (((HAP.out.setCell (p := ⟨c.P, 1, none⟩) (Or.inr rfl) _).alloc (by have := HAP.out.size; simp; omega) _).alloc (by have := HAP.out.size; simp; omega) _).drew.drew
      have HN3 : Hid (NV w.heap.size ((((wr.setCell ⟨c.P, 1, none⟩ (.int .i64 ((j : Int) + 1))).alloc (tokO (tkA c.l j))).alloc (.map m7 7)).drew.drew) t (nPtr q)) := NV.later ⟨q, rfl, HN.out⟩ (((((Ap.refl c.P wr.heap.size wr).setCell (p := ⟨c.P, 1, none⟩) (Or.inr rfl) _).alloc (by simp) _).alloc (by simp) _).drew.drew) HLT.out
      have HK3 : Hid (((((wr.setCell ⟨c.P, 1, none⟩ (.int .i64 ((j : Int) + 1))).alloc (tokO (tkA c.l j))).alloc (.map m7 7)).drew.drew).heap[g]? = some (.cells zy7 9 (0, 0))) := (HA3.out.block g (zzz HK.out) HGN.out).trans HK.out
      cases hr2 : zkx c.l F d [] (j + 1) with
      | out => rw [hr2] at HQ; exact absurd HQ.out.symm HO.out
      | bad er pl =>
       have HC3 := qh (HPC.out _ _ _ hr2.symm (by nofun) HP3.out HK3.out); rw [hr2] at HQ; have HQQ : Hid (r = .bad er pl) := HQ.out.symm; clear hr2 HQ hnj
       generalize tkA c.l j = tk at *
       go_wp2_with fail; refine cm HC1.out ?_; rintro e w2 ⟨rfl, rfl⟩; clear HC1; go_wp2_with fail
       go_region
       go_wp2_with fail
       go_region
       go_wp2_with fail; refine cm HC3.out ?_; rintro e w3 ⟨⟨v, rfl, p3, rfl⟩, ⟨j3, hp3⟩, he, ha3⟩; have HP4 := qh hp3; have HA4 := qh (HA3.out.next ha3)
       clear hp3 ha3 HC3 HP3 HA3 HN3 HK3 e0 e1 e2 e3 e4 e5 e6 e7 e8 h0 h1 f1 k0 k1 k2 k3 kg; go_wp2_with fail
       go_roundg k
       case measure => omega
       case rel => exact Or.inr ⟨er, pl, HQQ.out, he, ⟨j3, (HP4.out.alloc _).alloc _⟩, (HA4.out.alloc HA4.out.size _).alloc (by have := HA4.out.size; simp; omega) _, _, rfl⟩
      | ok u j2 =>
       have HC3 := qh (HPC.out _ _ _ hr2.symm (by nofun) HP3.out HK3.out); rw [hr2] at HQ; have HQQ : Hid (zj2 c.l (zkx c.l F d []) s k (.mk (opK (tkA c.l j).tx) zzx 0 [t, u]) j2 = r) := zzq HQ
       clear hr2 HQ hnj
       generalize tkA c.l j = tk at *
       go_wp2_with fail; refine cm HC1.out ?_; rintro e w2 ⟨rfl, rfl⟩; clear HC1; go_wp2_with fail
       go_region
       go_wp2_with fail
       go_region
       go_wp2_with fail; refine cm HC3.out ?_; rintro e w3 ⟨⟨v, rfl, p3, rfl, hn3⟩, hp3, ha3⟩; have HP4 := qh hp3; have HA4 := qh (HA3.out.next ha3); have HN4 := qh (zb2 (NV.later HN3.out ha3 HLT.out))
       have HU4 : Hid (NAt (fun b => w.heap.size ≤ b) w3 u p3) := NAt.mono (fun b hb _ => Nat.le_trans HA3.out.size hb) _ _ hn3; clear hn3 hp3 ha3 HC3 HP3 HA3 HN3 HK3 e0 e1 e2 e3 e4 e5 e6 e7 e8 h0 h1 f1 k0 k1 k2 k3 kg
       go_wp2_with fail
       go_roundg k
       case measure => omega
       case rel => exact Or.inl ⟨_, j2, HQQ.out, (zhx (NAts.cons HN4.out (NAts.cons HU4.out NAts.nil)) HA4.out.size (by simp [maxLen]) #[nPtr q, nPtr p3] rfl 2 rfl _ zzx 0 _ rfl).nv, (HP4.out.alloc _).alloc _, (HA4.out.alloc HA4.out.size _).alloc (by have := HA4.out.size; simp; omega) _⟩
     all_goals
      have b5 : ((tkA c.l j).kd != 5) = false := by rw [h5]; rfl
      rw [if_neg (fun h => by rw [hf] at h; exact absurd h.2 (by decide))] at HQ
      have hq : r = .ok t j := HQ.out.symm; subst hq; clear HQ hf h5 HPC HNX HO HK HSO
      generalize tkA c.l j = tk at *
      go_wp2_with fail; refine cm HC1.out ?_; rintro e w2 ⟨rfl, rfl⟩; clear HC1; go_wp2_with fail
      go_region
      go_wp2_with fail
      go_region
      go_wp2_with fail; go_ret
      exact ⟨⟨_, rfl, q, rfl, zb2 (NV.later ⟨q, rfl, HN.out⟩ (((Ap.refl c.P w2.heap.size w2).alloc qv _).drew.drew) HLT.out)⟩, (HPS.out.alloc _).drew.drew, (HAP.out.alloc HAP.out.size _).drew.drew⟩
    ·
     have HFF := qh (zmq s (tkA c.l j).tx); rw [if_neg (fun h => h5 h.1)] at HQ; have b5 : ((tkA c.l j).kd != 5) = true := bne_iff_ne.2 h5
     rcases zzq HFF with ⟨_, b1⟩ | ⟨_, b1, b2, b3⟩ | ⟨_, b1, b2, b3, b4⟩ | ⟨_, b1, b2⟩ | ⟨_, b1, b2, b3, b4⟩
     all_goals
      have hq : r = .ok t j := HQ.out.symm; subst hq; clear HQ h5 HFF HPC HNX HO HK HSO
      generalize tkA c.l j = tk at *
      go_wp2_with fail; refine cm HC1.out ?_; rintro e w2 ⟨rfl, rfl⟩; clear HC1; go_wp2_with fail
      go_region
      go_wp2_with fail
      go_region
      go_wp2_with fail; go_ret
      exact ⟨⟨_, rfl, q, rfl, zb2 (NV.later ⟨q, rfl, HN.out⟩ (((Ap.refl c.P w2.heap.size w2).alloc qv _).drew.drew) HLT.out)⟩, (HPS.out.alloc _).drew.drew, (HAP.out.alloc HAP.out.size _).drew.drew⟩
   ·
    have HC1 := qh (zvj he hps); have HP1 := qh hps; have HA1 := qh hap; clear hps hap; subst hq; go_wp2_with fail; refine cm HC1.out ?_; rintro e w2 ⟨rfl, rfl⟩; clear HC1; go_wp2_with fail; go_ret
    exact ⟨⟨_, rfl, _, rfl⟩, ⟨j, HP1.out⟩, he, HA1.out⟩
theorem rpairs_any {c : PC} {F : Fns} (hF : RCt c F) {d g : Nat} (hd : d ≤ 30) (hg : g ≠ c.P) : ∀ (ls : List ByteArray) (o : Nat), lvls.drop o = ls → PairC c F d g o ls
 | [], o, _ => fun w i r hs ho h _ => rpairs_nil hF w d i g o r hd hs ho h
 | s :: rest, o, he => by
  have h1 : lvls[o]? = some s := by
   have : (lvls.drop o)[0]? = some s := by rw [he]; rfl
   rw [List.getElem?_drop] at this; exact this
  have h2 : lvls.drop (o + 1) = rest := by
   have : (lvls.drop o).tail = rest := by rw [he]; rfl
   rw [List.tail_drop] at this; exact this
  have h3 : zy7[o]? = some (.string s) := by
   unfold zy7; rw [List.getElem?_toArray, List.getElem?_map, h1]; rfl
  by_cases hz : rest = []
  ·
   exact rpairs_one hg h3 hz (by rw [hz]; exact fun w i r hs ho h _ => rpairs_nil hF w d i g o r hd hs ho h)
  ·
   exact rpairs_more hg h3 hz (rpairs_any hF hd hg rest (o + 1) h2)
theorem rpr_any {c : PC} {F : Fns} (hF : RCt c F) (w : World) (d i : Nat) (r : PR Tr) (g : Nat) (hd : d ≤ 30) (hs : r = rpr c.l F 2 d i) (ho : r ≠ .out) (h : Ps c w i 0 (-1)) (hk : w.heap[g]? = some (.cells zy7 9 (0, 0))) (hg : g ≠ c.P) :
  Calls Tryz.prog 254 #[pPtr c, .int .i64 (d : Int), .slice (some ⟨g, 0, none⟩) 6 6] w (zj3 c w (NV w.heap.size) ZN r) :=
 rpairs_any hF hd hg lvls 0 rfl w i r hs ho h hk
end Go.Proofs.YtoimgcjbcbhclaaGreatDoor.Old
