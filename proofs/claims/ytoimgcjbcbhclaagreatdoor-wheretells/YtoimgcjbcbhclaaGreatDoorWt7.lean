/-
  Parts of proofs that stand more than once.
-/
import Derived.Test.YtoimgcjbcbhclaaGreatDoorWt6
set_option maxRecDepth 100000
set_option maxHeartbeats 16000000
namespace Go.Proofs.YtoimgcjbcbhclaaGreatDoor
open Go.RowKit
theorem zrqdd.zrcdX {G:Prop}(h:G:=by
  have HC4:=hide (rfail_new c (w3.alloc (.map m4 4)) i 3 (by decide) (HP3.out.alloc _));have HA4:=hide (HA3.out.alloc HA3.out.size (.map m4 4))
  have hdone:∀ e w4,NPost c (w3.alloc (.map m4 4)) 3 ((tkA c.l i).pl:Int) ZN e w4→QPost c w (NV w.heap.size) ZN (badF c.l 3 i) e w4:=fun e w4 hp=>npost_trans HA4.out hp;have HD:=hide hdone;clear hdone
  generalize hX:badF (α:=Tr) c.l 3 i=X at *
  clear hX
  generalize ((tkA c.l i).pl:Int)=PL at *
  generalize tkA c.l i=t at *
  by_cases hk2:t.kd=2
  ·have bk:(t.kd==2)=true:=beq_iff_eq.2 hk2;have hlk:¬ 0<litK t.tx:=fun hh=>hno ⟨hk2,hh⟩;exact zbfe
  ·have bk:(t.kd==2)=false:=beq_eq_false_iff_ne.2 hk2;exact zbfe
 ):G:=h
theorem zrqdd.zrbkX {G:Prop}(h:G:=by
  exact zrcd
 ):G:=h
theorem zrqdd.zrqX {G:Prop}(h:G:=by
  exact zear
 ):G:=h
theorem zrqde.zrczX {G:Prop}(h:G:=by
  refine⟨⟨_,rfl,nv_leaf2 (by simp;omega) 23 t.tx 0 _ (by simp)⟩,?_,?_⟩
  ·exact zbgs
  ·exact zbdq
 ):G:=h
theorem zrqde.zrrX {G:Prop}(h:G:=by
  have b1:((tkA c.l i).kd==1)=true:=beq_iff_eq.2 hk;exact zrcz
 ):G:=h
theorem zrqdf.zrczX {G:Prop}(h:G:=by
  refine⟨⟨_,rfl,nv_leaf2 (by simp;omega) 17 noText t.n _ (by simp)⟩,?_,?_⟩
  ·exact zbgs
  ·exact zbdq
 ):G:=h
theorem zrqdf.zrrX {G:Prop}(h:G:=by
  have b1:((tkA c.l i).kd==1)=false:=by rw[hk];rfl
  have b3:((tkA c.l i).kd==3)=true:=beq_iff_eq.2 hk;exact zrcz
 ):G:=h
theorem zrqdg.zrczX {G:Prop}(h:G:=by
  refine⟨⟨_,rfl,nv_leaf2 (by simp;omega) 18 t.tx 0 _ (by simp)⟩,?_,?_⟩
  ·exact zbgs
  ·exact zbdq
 ):G:=h
theorem zrqdg.zrrX {G:Prop}(h:G:=by
  have b1:((tkA c.l i).kd==1)=false:=by rw[hk];rfl
  have b3:((tkA c.l i).kd==3)=false:=by rw[hk];rfl
  have b4:((tkA c.l i).kd==4)=true:=beq_iff_eq.2 hk;exact zrcz
 ):G:=h
theorem zrqdh.zrcmX {G:Prop}(h:G:=by
  by_cases h5:(tkA c.l j).kd=5
  ·rcases fits_ways s (tkA c.l j).tx with ⟨hf,b1⟩|⟨hf,b1,b2,b3⟩|⟨hf,b1,b2,b3,b4⟩|⟨hf,b1,b2⟩|⟨hf,b1,b2,b3,b4⟩
   ·exact zbad
   ·exact zbad
   ·exact zbad
   all_goals
    have b5:((tkA c.l j).kd != 5)=false:=by rw[h5];rfl
    rw[if_neg (fun h=>by rw[hf] at h;exact absurd h.2 (by decide))] at HQ
    have hq:r=.ok t j:=HQ.out.symm;subst hq;clear HQ hf h5 HPC HNX HO HK HSO
    generalize tkA c.l j=tk at *
    go_wp2_with fail;refine cm HC1.out ?_;rintro e w2 ⟨rfl,rfl⟩;clear HC1;go_wp2_with fail
    go_region
    go_wp2_with fail
    go_region
    go_wp2_with fail;go_ret
    exact⟨⟨_,rfl,q,rfl,nv_at (NV.later ⟨q,rfl,HN.out⟩ (((Ap.refl c.P w2.heap.size w2).alloc (Nat.le_refl _) _).drew.drew) HLT.out)⟩,(HPS.out.alloc _).drew.drew,(HAP.out.alloc HAP.out.size _).drew.drew⟩
  ·exact zbcj
 ):G:=h
theorem zrqdh.zreiX {G:Prop}(h:G:=by
  go_loopg [7] F.fuel (fun k v wr=>(∃ t j,rpairLoop c.l (rpairs c.l F d rest) s k t j=r∧NV w.heap.size wr t v∧Ps c wr j 0 (-1)∧Ap c.P w.heap.size w wr)
   ∨ (∃ er pl,r=.bad er pl∧er≠0∧(∃ j,Ps c wr j er (pl:Int))∧Ap c.P w.heap.size w wr∧ZN v))
  case atStart=>exact Or.inl ⟨t0,j0,HS2.out,HN1.out,HP1.out,HA1.out⟩
  case round=>
   exact zeaj
 ):G:=h
theorem zrqdi.zrcmX {G:Prop}(h:G:=by
  by_cases h5:(tkA c.l j).kd=5
  ·rcases fits_ways s (tkA c.l j).tx with ⟨hf,b1⟩|⟨hf,b1,b2,b3⟩|⟨hf,b1,b2,b3,b4⟩|⟨hf,b1,b2⟩|⟨hf,b1,b2,b3,b4⟩
   ·exact zbae
   ·exact zbae
   ·exact zbae
   all_goals
    have b5:((tkA c.l j).kd != 5)=false:=by rw[h5];rfl
    rw[if_neg (fun h=>by rw[hf] at h;exact absurd h.2 (by decide))] at HQ
    have hq:r=.ok t j:=HQ.out.symm;subst hq;clear HQ hf h5 HPC HNX HO HK HSO
    generalize tkA c.l j=tk at *
    go_wp2_with fail;refine cm HC1.out ?_;rintro e w2 ⟨rfl,rfl⟩;clear HC1;go_wp2_with fail
    go_region
    go_wp2_with fail
    go_region
    go_wp2_with fail;go_ret
    exact⟨⟨_,rfl,q,rfl,nv_at (NV.later ⟨q,rfl,HN.out⟩ (((Ap.refl c.P w2.heap.size w2).alloc (Nat.le_refl _) _).drew.drew) HLT.out)⟩,(HPS.out.alloc _).drew.drew,(HAP.out.alloc HAP.out.size _).drew.drew⟩
  ·exact zbcj
 ):G:=h
theorem zrqdi.zreiX {G:Prop}(h:G:=by
  go_loopg [7] F.fuel (fun k v wr=>(∃ t j,rpairLoop c.l (rpairs c.l F d []) s k t j=r∧NV w.heap.size wr t v∧Ps c wr j 0 (-1)∧Ap c.P w.heap.size w wr)
   ∨ (∃ er pl,r=.bad er pl∧er≠0∧(∃ j,Ps c wr j er (pl:Int))∧Ap c.P w.heap.size w wr∧ZN v))
  case atStart=>exact Or.inl ⟨t0,j0,HS2.out,HN1.out,HP1.out,HA1.out⟩
  case round=>
   exact zeaj
 ):G:=h
theorem zrqdj.zrdzX {G:Prop}(h:G:=by
  have HB:Hid (Below w.heap.size wv (((wv.setCell ⟨w.heap.size,0,none⟩ (.int .i64 11)).setCell ⟨w.heap.size,3,none⟩ (.slice (some ⟨wv.heap.size,0,none⟩) 1 1)).alloc (.cells #[nPtr q] 22))):=(((Below.refl w.heap.size wv).setCell (p:=⟨w.heap.size,0,none⟩) (Nat.le_refl _) _).setCell (p:=⟨w.heap.size,3,none⟩) (Nat.le_refl _) _).alloc (by simp;omega) _
  have HA:=hide (hA.trans (Ap.of HB.out));have HP:=hide (hp1.ap HB.out HLO.out)
  have HN:Hid (NV w.heap.size (((wv.setCell ⟨w.heap.size,0,none⟩ (.int .i64 11)).setCell ⟨w.heap.size,3,none⟩ (.slice (some ⟨wv.heap.size,0,none⟩) 1 1)).alloc (.cells #[nPtr q] 22)) (.mk 11 noText 0 [t]) (nPtr w.heap.size)):=st_row (Nat.le_refl _) (lt_of_heap HS12.out.nd) (set2 wv w.heap.size _ _) (by simp) ha.size (by rw[heap_set (heap_set nb _)];rfl) (NAts.cons hn NAts.nil) rfl #[nPtr q] rfl (by simp[maxLen])
  have HC2:=hide (rmust_any c _ j tSemi (by decide) HP.out);clear hp1 ha HC nb hA hn;go_wp2_with fail;refine cm HC2.out ?_;intro e wz hp
  cases hr2:mustP c.l tSemi j with
  | out=>rw[hr2] at HQ2;exact absurd HQ2.out HO.out
  | bad er pl=>
   exact zbci
  | ok x j2=>
   rw[hr2] at hp HQ2;have hq:r=.ok (.mk 11 noText 0 [t]) j2:=unhide HQ2;exact zbcl
 ):G:=h
theorem zrqdj.zrdvX {G:Prop}(h:G:=by
  have HB:Hid (Below w.heap.size wv (((wv.setCell ⟨w.heap.size,0,none⟩ (.int .i64 11)).setCell ⟨w.heap.size,3,none⟩ (.slice (some ⟨wv.heap.size,0,none⟩) 1 1)).alloc (.cells #[nPtr q] 22))):=(((Below.refl w.heap.size wv).setCell (p:=⟨w.heap.size,0,none⟩) (Nat.le_refl _) _).setCell (p:=⟨w.heap.size,3,none⟩) (Nat.le_refl _) _).alloc (by simp;omega) _
  exact zbct
 ):G:=h
theorem zrqdj.zrbhX {G:Prop}(h:G:=by
  have HC:=hide (rskip_no c w10 i tReturn (by decide) n10 HS10.out.ps);go_wp2_with fail;refine cm HC.out ?_;rintro e w11 ⟨rfl,hb⟩;have HS11:=hide (HS10.out.below hb);clear hb HC HS10
  have HC:=hide (rskip_yes c w11 i tThrow (by decide) hf HS11.out.ps);go_wp2_with fail;refine cm HC.out ?_;rintro e w12 ⟨rfl,hp,ha⟩;have HS12:=hide (HS11.out.on HLT.out hp ha);clear hp ha HC HS11
  have HQ:=hide hs;clear ho hs hF hN hK
  cases hr:deepP c.l F.vl d (i+1) with
  | out=>rw[hr] at HQ;exact absurd HQ.out HO.out
  | bad er pl=>
   have HC:=hide (HF.out.vl w12 d (i+1) _ hd hr.symm (by nofun) HS12.out.ps);exact zrdv
  | ok t j=>
   have HC:=hide (HF.out.vl w12 d (i+1) _ hd hr.symm (by nofun) HS12.out.ps);rw[hr] at HQ;have hq:r=(mustP c.l tSemi j).bind fun _ i2=>.ok (.mk 11 noText 0 [t]) i2:=unhide HQ;exact zrdz
 ):G:=h
theorem zrqdj.zrbX {G:Prop}(h:G:=by
  exact zrbh
 ):G:=h
theorem zrqdj.zreeX {G:Prop}(h:G:=by
  have n10:¬ fx c.l i=tReturn:=by rw[hf];decide
  exact zrb
 ):G:=h
theorem zrqdj.zrvX {G:Prop}(h:G:=by
  exact zree
 ):G:=h
theorem zrqdk.zrdzX {G:Prop}(h:G:=by
  have HB:Hid (Below w.heap.size wv (((wv.setCell ⟨w.heap.size,0,none⟩ (.int .i64 15)).setCell ⟨w.heap.size,3,none⟩ (.slice (some ⟨wv.heap.size,0,none⟩) 1 1)).alloc (.cells #[nPtr q] 22))):=(((Below.refl w.heap.size wv).setCell (p:=⟨w.heap.size,0,none⟩) (Nat.le_refl _) _).setCell (p:=⟨w.heap.size,3,none⟩) (Nat.le_refl _) _).alloc (by simp;omega) _
  have HA:=hide (hA.trans (Ap.of HB.out));have HP:=hide (hp1.ap HB.out HLO.out)
  have HN:Hid (NV w.heap.size (((wv.setCell ⟨w.heap.size,0,none⟩ (.int .i64 15)).setCell ⟨w.heap.size,3,none⟩ (.slice (some ⟨wv.heap.size,0,none⟩) 1 1)).alloc (.cells #[nPtr q] 22)) (.mk 15 noText 0 [t]) (nPtr w.heap.size)):=st_row (Nat.le_refl _) (lt_of_heap HS12.out.nd) (set2 wv w.heap.size _ _) (by simp) ha.size (by rw[heap_set (heap_set nb _)];rfl) (NAts.cons hn NAts.nil) rfl #[nPtr q] rfl (by simp[maxLen])
  have HC2:=hide (rmust_any c _ j tSemi (by decide) HP.out);clear hp1 ha HC nb hA hn;go_wp2_with fail;refine cm HC2.out ?_;intro e wz hp
  cases hr2:mustP c.l tSemi j with
  | out=>rw[hr2] at HQ2;exact absurd HQ2.out HO.out
  | bad er pl=>
   exact zbci
  | ok x j2=>
   rw[hr2] at hp HQ2;have hq:r=.ok (.mk 15 noText 0 [t]) j2:=unhide HQ2;exact zbcl
 ):G:=h
theorem zrqdk.zrdvX {G:Prop}(h:G:=by
  have HB:Hid (Below w.heap.size wv (((wv.setCell ⟨w.heap.size,0,none⟩ (.int .i64 15)).setCell ⟨w.heap.size,3,none⟩ (.slice (some ⟨wv.heap.size,0,none⟩) 1 1)).alloc (.cells #[nPtr q] 22))):=(((Below.refl w.heap.size wv).setCell (p:=⟨w.heap.size,0,none⟩) (Nat.le_refl _) _).setCell (p:=⟨w.heap.size,3,none⟩) (Nat.le_refl _) _).alloc (by simp;omega) _
  exact zbct
 ):G:=h
theorem zrqdk.zrbhX {G:Prop}(h:G:=by
  have HC:=hide (rskip_no c w10 i tReturn (by decide) n10 HS10.out.ps);go_wp2_with fail;refine cm HC.out ?_;rintro e w11 ⟨rfl,hb⟩;have HS11:=hide (HS10.out.below hb);clear hb HC HS10
  have HC:=hide (rskip_no c w11 i tThrow (by decide) n11 HS11.out.ps);go_wp2_with fail;refine cm HC.out ?_;rintro e w12 ⟨rfl,hb⟩;have HS12:=hide (HS11.out.below hb);clear hb HC HS11;have HQ:=hide hs
  clear ho hs hF hN hK
  cases hr:deepP c.l F.vl d i with
  | out=>rw[hr] at HQ;exact absurd HQ.out HO.out
  | bad er pl=>
   have HC:=hide (HF.out.vl w12 d i _ hd hr.symm (by nofun) HS12.out.ps);exact zrdv
  | ok t j=>
   have HC:=hide (HF.out.vl w12 d i _ hd hr.symm (by nofun) HS12.out.ps);rw[hr] at HQ;have hq:r=(mustP c.l tSemi j).bind fun _ i2=>.ok (.mk 15 noText 0 [t]) i2:=unhide HQ;exact zrdz
 ):G:=h
theorem zrqdk.zrbX {G:Prop}(h:G:=by
  exact zrbh
 ):G:=h
theorem zrqdk.zrbbX {G:Prop}(h:G:=by
  exact zrb
 ):G:=h
theorem zrqdl.zrkX {G:Prop}(h:G:=by
  have HC:=hide (rskip_yes c w1 i tSemi (by decide) hf HS1.out.ps);go_wp2_with fail;refine cm HC.out ?_;rintro e w2 ⟨rfl,hp,ha⟩;have HS2:=hide (HS1.out.on HLT.out hp ha);clear hp ha HC HS1;subst hs
  have nb:=HS2.out.nd;obtain⟨c0,c1,c2,c3,cf⟩:=node_cells nb;have cf0:=cf 0;have hnl:=lt_of_heap nb;have HB:=hide nb;clear nb;go_wp2_with fail;go_ret
  refine⟨⟨_,rfl,st_done (Nat.le_refl _) (by rw[heap_set HB.out];rfl) owns_nil NAts.nil⟩,?_,?_⟩
  ·exact HS2.out.ps.ap ((Below.refl w.heap.size w2).setCell (p:=⟨w.heap.size,0,none⟩) (Nat.le_refl _) _) HLO.out
  ·exact HS2.out.ap.setCell (p:=⟨w.heap.size,0,none⟩) (Or.inl (Nat.le_refl _)) _
 ):G:=h
theorem zrqdl.zrbbX {G:Prop}(h:G:=by
  have n0:¬ fx c.l i=tLBrace:=by rw[hf];decide
  exact zrk
 ):G:=h
theorem zrqdm.zrkX {G:Prop}(h:G:=by
  have HC:=hide (rskip_no c w1 i tSemi (by decide) n1 HS1.out.ps);go_wp2_with fail;refine cm HC.out ?_;rintro e w2 ⟨rfl,hb⟩;have HS2:=hide (HS1.out.below hb);clear hb HC HS1
  have HC:=hide (rskip_yes c w2 i tFunction (by decide) hf HS2.out.ps);go_wp2_with fail;refine cm HC.out ?_;rintro e w3 ⟨rfl,hp,ha⟩;have HS3:=hide (HS2.out.on HLT.out hp ha);clear hp ha HC HS2
  have HQ:=hide hs;have HC:=hide (rident_any c w3 (i+1) HS3.out.ps);clear ho hs hF hN hK;go_wp2_with fail;refine cm HC.out ?_;intro e w9 hp;clear HC
  cases hr:nameP c.l (i+1) with
  | out=>rw[hr] at HQ;exact absurd HQ.out HO.out
  | bad er pl=>
   rw[hr] at hp HQ;have hq:r=.bad er pl:=unhide HQ;subst hq;obtain⟨⟨v,rfl,s,rfl⟩,⟨j,hp1⟩,he,ha⟩:=hp;have HA:=hide (HS3.out.ap.next ha)
   have HC:=hide (rfunction_old c w9 j er pl 5 (d:Int) s he hp1);clear hp1 ha hr HQ;go_wp2_with fail;refine cm HC.out ?_;rintro e wz ⟨⟨v,rfl,q,rfl⟩,hp2,_,ha2⟩;have HP2:=hide hp2
   have HA2:=hide (HA.out.next ha2);clear hp2 ha2 HC;exact zbda
  | ok s j=>
   rw[hr] at hp HQ;have hq:r=rfuncTail c.l F 5 s d j:=unhide HQ;obtain⟨⟨v,rfl,rfl⟩,hp1,ha⟩:=hp;have HS9:=hide (HS3.out.on HLT.out hp1 ha)
   have HC:=hide (rfunction_any HF.out HNN.out HKK.out w9 5 s d j r hd hq HO.out hp1);clear hp1 ha hr HQ hq;go_wp2_with fail;refine cm HC.out ?_;intro e wz hp
   cases r with
   | out=>exact absurd rfl HO.out
   | bad er pl=>
    obtain⟨⟨v,rfl,q,rfl⟩,hp1,he,ha⟩:=hp;have HP:=hide hp1;have HA:=hide (HS9.out.ap.next ha);exact zcca
   | ok t j=>
    obtain⟨⟨v,rfl,q,rfl,hn⟩,hp1,ha⟩:=hp;have HP:=hide hp1;have HA:=hide (HS9.out.ap.next ha)
    have HN:=hide (NAt.mono (fun b hb _=>Nat.le_trans HS9.out.ap.size hb) _ _ hn:NAt (fun b=>w.heap.size≤b) wz t q);exact zcbu
 ):G:=h
theorem zrqdm.zrzX {G:Prop}(h:G:=by
  exact zrk
 ):G:=h
theorem zrqdn.zrbbX {G:Prop}(h:G:=by
  have HS0:=hide (Stn.new h);have hc:=rnext_any c (w.alloc nd0) i tLBrace (by decide) HS0.out.ps;rw[decide_eq_true hf] at hc;have HC:=hide hc;clear hc;clear h;go_enter Tryz.func111,Tryz.ntmps111
  go_wp2_with fail;refine cm HC.out ?_;rintro e w1 ⟨rfl,hb⟩;have HS1:=hide (HS0.out.below hb);clear hb HC HS0;have HC:=hide (rbraces_any HF.out HNN.out HKK.out false w1 d i r hd (by rw[hs];rfl) ho HS1.out.ps)
  clear ho hs hF hN hK;go_wp2_with fail;refine cm HC.out ?_;intro e wz hp
  cases r with
  | out=>exact absurd rfl HO.out
  | bad er pl=>
   obtain⟨⟨v,rfl,q,rfl⟩,hp1,he,ha⟩:=hp;have HP:=hide hp1;have HA:=hide (HS1.out.ap.next ha);exact zcca
  | ok t j=>
   obtain⟨⟨v,rfl,q,rfl,hn⟩,hp1,ha⟩:=hp;have HP:=hide hp1;have HA:=hide (HS1.out.ap.next ha)
   have HN:=hide (NAt.mono (fun b hb _=>Nat.le_trans HS1.out.ap.size hb) _ _ hn:NAt (fun b=>w.heap.size≤b) wz t q);exact zcbu
 ):G:=h
theorem zrqdo.zrbsX {G:Prop}(h:G:=by
  have HP:=hide (hp1.ap HB.out HLO.out)
  have HN:Hid (NV w.heap.size ((wv.setCell ⟨w.heap.size,3,none⟩ (.slice (some ⟨wv.heap.size,0,none⟩) 1 1)).alloc (.cells #[nPtr q] 22)) (.mk 10 noText 0 [t]) (nPtr w.heap.size)):=st_row (Nat.le_refl _) (lt_of_heap HK1.out.nd) (set1 wv w.heap.size _) (by simp) ha.size (by rw[heap_set nb];rfl) (NAts.cons hn NAts.nil) rfl #[nPtr q] rfl (by simp[maxLen])
  have HC2:=hide (rmust_any c _ j tSemi (by decide) HP.out);clear hp1 ha HC nb hA hn;go_wp2_with fail;refine cm HC2.out ?_;intro e wz hp
  cases hr2:mustP c.l tSemi j with
  | out=>rw[hr2] at HQ2;exact absurd HQ2.out HO.out
  | bad er pl=>
   exact zbci
  | ok x j2=>
   rw[hr2] at hp HQ2;have hq:r=.ok (.mk 10 noText 0 [t]) j2:=unhide HQ2;exact zbcl
 ):G:=h
theorem zrqdo.zrbhX {G:Prop}(h:G:=by
  have HC:=hide (rskip_yes c w10 i tReturn (by decide) hf HS10.out.ps);go_wp2_with fail;refine cm HC.out ?_;rintro e w11 ⟨rfl,hp,ha⟩;have HS11:=hide (HS10.out.on HLT.out hp ha);clear hp ha HC HS10
  clear ho hF hN hK;have HK0:=hide (HS11.out.kind HLO.out 10);have hc:=rnext_any c _ (i+1) tSemi (by decide) HK0.out.ps;have nb:=HS11.out.nd;obtain⟨c0,c1,c2,c3,cf⟩:=node_cells nb;have cf0:=cf 0
  have cf3:=cf 3;have hnl:=lt_of_heap nb;clear nb
  by_cases hx:fx c.l (i+1)=tSemi
  ·rw[decide_eq_true hx] at hc;have HC:=hide hc;rw[if_neg (fun h=>h hx)] at HQ;clear hc hx;go_wp2_with fail;refine cm HC.out ?_;rintro e wx ⟨rfl,hb⟩;have HK1:=hide (HK0.out.below hb)
   clear hb HC c0 c1 c2 c3 cf cf0 cf3 hnl;have HA:=hide HK1.out.ap;have HN:Hid (NV w.heap.size wx (.mk 10 noText 0 []) (nPtr w.heap.size)):=st_done (Nat.le_refl _) HK1.out.nd owns_nil NAts.nil
   have HC2:=hide (rmust_any c wx (i+1) tSemi (by decide) HK1.out.ps);have HQ2:=HQ;clear HQ;go_wp2_with fail;refine cm HC2.out ?_;intro e wz hp
   cases hr2:mustP c.l tSemi (i+1) with
   | out=>rw[hr2] at HQ2;exact absurd HQ2.out HO.out
   | bad er pl=>
    exact zbci
   | ok x j2=>
    rw[hr2] at hp HQ2;have hq:r=.ok (.mk 10 noText 0 []) j2:=unhide HQ2;exact zbcl
  ·rw[decide_eq_false hx] at hc;have HC:=hide hc;rw[if_pos hx] at HQ;clear hc hx;go_wp2_with fail;refine cm HC.out ?_;rintro e wx ⟨rfl,hb⟩;have HK1:=hide (HK0.out.below hb)
   clear hb HC c0 c1 c2 c3 cf cf0 cf3 hnl
   cases hr:deepP c.l F.vl d (i+1) with
   | out=>rw[hr] at HQ;exact absurd HQ.out HO.out
   | bad er pl=>
    have HC:=hide (HF.out.vl wx d (i+1) _ hd hr.symm (by nofun) HK1.out.ps);rw[hr] at HQ;have hq:r=.bad er pl:=unhide HQ;subst hq;clear hr HQ;go_wp2_with fail;refine cm HC.out ?_
    rintro e wv ⟨⟨v,rfl,q,rfl⟩,⟨j,hp1⟩,he,ha⟩;have nb:=(ha.block _ (lt_of_heap HK1.out.nd) (by have:=unhide HLT;omega)).trans HK1.out.nd
    obtain⟨c0,c1,c2,c3,cf⟩:=node_cells nb;have cf3:=cf 3;have hnl:=lt_of_heap nb;have hA:=HK1.out.ap.next ha
    have HB:Hid (Below w.heap.size wv ((wv.setCell ⟨w.heap.size,3,none⟩ (.slice (some ⟨wv.heap.size,0,none⟩) 1 1)).alloc (.cells #[nPtr q] 22))):=((Below.refl w.heap.size wv).setCell (p:=⟨w.heap.size,3,none⟩) (Nat.le_refl _) _).alloc (by simp;omega) _
    exact zbct
   | ok t j=>
    have HC:=hide (HF.out.vl wx d (i+1) _ hd hr.symm (by nofun) HK1.out.ps);rw[hr] at HQ;have hq:r=(mustP c.l tSemi j).bind fun _ i2=>.ok (.mk 10 noText 0 [t]) i2:=unhide HQ;have HQ2:=hide hq
    clear hr HQ hq;go_wp2_with fail;refine cm HC.out ?_;rintro e wv ⟨⟨v,rfl,q,rfl,hn⟩,hp1,ha⟩;have nb:=(ha.block _ (lt_of_heap HK1.out.nd) (by have:=unhide HLT;omega)).trans HK1.out.nd
    obtain⟨c0,c1,c2,c3,cf⟩:=node_cells nb;have cf3:=cf 3;have hnl:=lt_of_heap nb;have hA:=HK1.out.ap.next ha;exact zrbs
 ):G:=h
theorem zrqdo.zrbX {G:Prop}(h:G:=by
  exact zrbh
 ):G:=h
theorem zrqdo.zreeX {G:Prop}(h:G:=by
  have HQ:=hide hs;clear hs;exact zrb
 ):G:=h
theorem zrqdo.zrvX {G:Prop}(h:G:=by
  exact zree
 ):G:=h
theorem zrqdp.zrbnX {G:Prop}(h:G:=by
  have HN:Hid (NV w.heap.size ((wv.setCell ⟨w.heap.size,3,none⟩ (.slice (some ⟨wv.heap.size,0,none⟩) 2 2)).alloc (.cells #[nPtr q,nPtr q2] 22)) (.mk 9 noText 0 [t,s]) (nPtr w.heap.size)):=st_row (Nat.le_refl _) HZW.out (set1 wv w.heap.size _) (by simp) (Nat.le_trans HZ0.out ha2.size) (by rw[heap_set nb];rfl) n1' rfl #[nPtr q,nPtr q2] rfl (by simp[maxLen])
  clear hp2 ha2 HC2 nb hA hn2 n1';go_wp2_with fail;go_ret;exact⟨⟨_,rfl,HN.out⟩,HP.out,HA.out⟩
 ):G:=h
theorem zrqdp.zrcvX {G:Prop}(h:G:=by
  clear hp1 ha HC hn c0 c1 c2 c3 cf cf0 cf3 hnl x1 xf
  cases hr:deepP c.l F.st d j with
  | out=>rw[hr] at HQ2;exact absurd HQ2.out HO.out
  | bad er pl=>
   exact zcbj
  | ok s j2=>
   have HC2:=hide (rstatement2_any HF.out wh d j _ hd hr.symm (by nofun) HP0.out);rw[hr] at HQ2;have hq:r=.ok (.mk 9 noText 0 [t,s]) j2:=unhide HQ2;subst hq;exact zrbn
 ):G:=h
theorem zrqdp.zrdhX {G:Prop}(h:G:=by
  have HK2:=hide ((HK1.out.kind HLO.out 9).stepped HLT.out hl)
  cases hr:inParP c.l F d (i+1) with
  | out=>rw[hr] at HQ;exact absurd HQ.out HO.out
  | bad er pl=>
   exact zcak
  | ok t j=>
   have HC:=hide (rhead_any HF.out _ d (i+1) _ hd hr.symm (by nofun) HK2.out.ps);rw[hr] at HQ;have HQ2:Hid (r=(deepP c.l F.st d j).bind fun s i2=>.ok (.mk 9 noText 0 [t,s]) i2):=unhide HQ;exact zrcv
 ):G:=h
theorem zrqdp.zrbX {G:Prop}(h:G:=by
  rw[decide_eq_true hf] at hc;have HC:=hide hc;clear hc;go_wp2_with fail;refine cm HC.out ?_;rintro e w6 ⟨rfl,hb⟩;have HS6:=hide (HS5.out.below hb);clear hb HC HS5;have HQ:=hide hs;clear ho hs hF hN hK
  have hl:=fx_lt HS6.out.ps.base.ends HS6.out.ps.lt hf (by decide);have hl3:=HS6.out.ps.base.len;have HK0:=hide (HS6.out.kind HLO.out 8);have hc:=rnext_any c _ i tWith (by decide) HK0.out.ps
  rw[decide_eq_true hf] at hc;have HC:=hide hc;clear hc;have nb:=HS6.out.nd;exact zrdh
 ):G:=h
theorem zrqdp.zrvX {G:Prop}(h:G:=by
  have n4:¬ fx c.l i=tWhile:=by rw[hf];decide
  exact zrb
 ):G:=h
theorem zrqdq.zrbnX {G:Prop}(h:G:=by
  have HN:Hid (NV w.heap.size ((wv.setCell ⟨w.heap.size,3,none⟩ (.slice (some ⟨wv.heap.size,0,none⟩) 2 2)).alloc (.cells #[nPtr q,nPtr q2] 22)) (.mk 8 noText 0 [t,s]) (nPtr w.heap.size)):=st_row (Nat.le_refl _) HZW.out (set1 wv w.heap.size _) (by simp) (Nat.le_trans HZ0.out ha2.size) (by rw[heap_set nb];rfl) n1' rfl #[nPtr q,nPtr q2] rfl (by simp[maxLen])
  clear hp2 ha2 HC2 nb hA hn2 n1';go_wp2_with fail;go_ret;exact⟨⟨_,rfl,HN.out⟩,HP.out,HA.out⟩
 ):G:=h
theorem zrqdq.zrcvX {G:Prop}(h:G:=by
  clear hp1 ha HC hn c0 c1 c2 c3 cf cf0 cf3 hnl x1 xf
  cases hr:deepP c.l F.st d j with
  | out=>rw[hr] at HQ2;exact absurd HQ2.out HO.out
  | bad er pl=>
   exact zcbj
  | ok s j2=>
   have HC2:=hide (rstatement2_any HF.out wh d j _ hd hr.symm (by nofun) HP0.out);rw[hr] at HQ2;have hq:r=.ok (.mk 8 noText 0 [t,s]) j2:=unhide HQ2;subst hq;exact zrbn
 ):G:=h
theorem zrqdq.zrdhX {G:Prop}(h:G:=by
  have HK2:=hide (HK1.out.stepped HLT.out hl)
  cases hr:inParP c.l F d (i+1) with
  | out=>rw[hr] at HQ;exact absurd HQ.out HO.out
  | bad er pl=>
   exact zcak
  | ok t j=>
   have HC:=hide (rhead_any HF.out _ d (i+1) _ hd hr.symm (by nofun) HK2.out.ps);rw[hr] at HQ;have HQ2:Hid (r=(deepP c.l F.st d j).bind fun s i2=>.ok (.mk 8 noText 0 [t,s]) i2):=unhide HQ;exact zrcv
 ):G:=h
theorem zrqdq.zreX {G:Prop}(h:G:=by
  have HC:=hide (rskip_no c w3 i tIf (by decide) n3 HS3.out.ps);go_wp2_with fail;refine cm HC.out ?_;rintro e w4 ⟨rfl,hb⟩;have HS4:=hide (HS3.out.below hb);clear hb HC HS3
  have hc:=rnext_any c w4 i tWhile (by decide) HS4.out.ps;rw[decide_eq_true hf] at hc;have HC:=hide hc;clear hc;go_wp2_with fail;refine cm HC.out ?_;rintro e w5 ⟨rfl,hb⟩;have HS5:=hide (HS4.out.below hb)
  clear hb HC HS4;have HQ:=hide hs;clear ho hs hF hN hK;have hl:=fx_lt HS5.out.ps.base.ends HS5.out.ps.lt hf (by decide);have hl3:=HS5.out.ps.base.len;have HK0:=hide (HS5.out.kind HLO.out 8)
  have hc:=rnext_any c _ i tWith (by decide) HK0.out.ps;rw[decide_eq_false (by rw[hf];decide)] at hc
  have HC:=hide hc;clear hc;have nb:=HS5.out.nd;exact zrdh
 ):G:=h
theorem zrqdq.zrvX {G:Prop}(h:G:=by
  exact zre
 ):G:=h
theorem zrqdr.zrcxX {G:Prop}(h:G:=by
  refine wr2 4 7 (fun K hK=>?_) fun K hK=>?_
  ·go_simp;refine hK _ _ ?_;clear hK K;refine wr1 7 fun K hK=>?_;go_simp;refine cm HC.out ?_;rintro e wc ⟨⟨vc,rfl,pc,rfl,hnc⟩,hpc,ha⟩;have HAc:=hide (HA6.out.drew.next ha);have HPc:=hide hpc
   have HOc:=hide (HO6.out.stay (((Ap.refl c.P w6.heap.size w6).drew).next ha) HLT.out)
   have HNc:=hide (HO6.out.apart2 HA6.out.size (Nat.le_refl _) (NAts.cons hnc NAts.nil) (HO6.out.kb (((Ap.refl c.P w6.heap.size w6).drew).next ha) HLT.out));obtain⟨gc3,gcf,gcl⟩:=HOc.out.cell;clear ha hpc hnc
   refine hK _ _ ?_;clear hK K;refine wr1 8 fun K hK=>?_;exact zbam
  ·go_simp;refine cm HC.out ?_;rintro e wc ⟨⟨vc,rfl,pc,rfl,hnc⟩,hpc,ha⟩;have HAc:=hide (HA6.out.drew.next ha);have HPc:=hide hpc
   have HOc:=hide (HO6.out.stay (((Ap.refl c.P w6.heap.size w6).drew).next ha) HLT.out)
   have HNc:=hide (HO6.out.apart2 HA6.out.size (Nat.le_refl _) (NAts.cons hnc NAts.nil) (HO6.out.kb (((Ap.refl c.P w6.heap.size w6).drew).next ha) HLT.out));obtain⟨gc3,gcf,gcl⟩:=HOc.out.cell;clear ha hpc hnc
   refine hK _ _ ?_;clear hK K;refine wr2 4 8 (fun K hK=>?_) fun K hK=>?_
   ·go_simp;refine hK _ _ ?_;clear hK K;refine wr1 8 fun K hK=>?_;exact zbam
   ·go_simp;refine hK _ _ ?_;clear hK K;refine wr1 4 fun K hK=>?_;exact zbam
 ):G:=h
theorem zrqdr.zrcqX {G:Prop}(h:G:=by
  refine wt 5 (pPtr c) ?_;refine wt 6 (.int .i64 (d:Int)) ?_;refine wr2 4 7 (fun K hK=>?_) fun K hK=>?_
  ·go_simp;refine hK _ _ ?_;clear hK K;refine wr1 7 fun K hK=>?_;go_simp;refine cm HC.out ?_;rintro e wc ⟨⟨vc,rfl,pc,rfl⟩,⟨jc,hpc⟩,he,ha⟩;have HAc:=hide (HA6.out.drew.next ha);have HPc:=hide hpc
   have HOc:=hide (HO6.out.stay (((Ap.refl c.P w6.heap.size w6).drew).next ha) HLT.out);obtain⟨gc3,gcf,gcl⟩:=HOc.out.cell;clear ha hpc;refine hK _ _ ?_;clear hK K;refine wr1 8 fun K hK=>?_;exact zbap
  ·go_simp;refine cm HC.out ?_;rintro e wc ⟨⟨vc,rfl,pc,rfl⟩,⟨jc,hpc⟩,he,ha⟩;have HAc:=hide (HA6.out.drew.next ha);have HPc:=hide hpc
   have HOc:=hide (HO6.out.stay (((Ap.refl c.P w6.heap.size w6).drew).next ha) HLT.out);obtain⟨gc3,gcf,gcl⟩:=HOc.out.cell;clear ha hpc;refine hK _ _ ?_;clear hK K;refine wr2 4 8 (fun K hK=>?_) fun K hK=>?_
   ·go_simp;refine hK _ _ ?_;clear hK K;refine wr1 8 fun K hK=>?_;exact zbap
   ·go_simp;refine hK _ _ ?_;clear hK K;refine wr1 4 fun K hK=>?_;exact zbap
 ):G:=h
theorem zrqdr.zrbnX {G:Prop}(h:G:=by
  have HOP:Hid (Open w.heap.size ((wv.setCell ⟨w.heap.size,3,none⟩ (.slice (some ⟨wv.heap.size,0,none⟩) 2 2)).alloc (.cells #[nPtr q,nPtr q2] 22)) (.mk 7 noText 0 [t,s]) w.heap.size (.slice (some ⟨wv.heap.size,0,none⟩) 2 2) [q,q2]):=st_open (Nat.le_refl _) HZW.out (set1 wv w.heap.size _) (by simp) (Nat.le_trans HZ0.out ha2.size) (by rw[heap_set nb];rfl) n1' rfl #[nPtr q,nPtr q2] rfl (by simp[maxLen])
  clear hp2 ha2 HC2 nb hA hn2 n1'
  by_cases hx:fx c.l j2=tElse
  ·rw[if_pos hx] at HQ3;have HC3:=hide (rskip_yes c _ j2 tElse (by decide) hx HP.out);clear hx;go_wp2_with fail;refine cm HC3.out ?_;rintro e w6 ⟨rfl,hp6,ha6⟩;have HP6:=hide hp6
   have HA6:=hide (HA.out.next ha6);have HO6:=hide (HOP.out.stay ha6 HLT.out);clear hp6 ha6 HC3 c0 c1 c2 c3 cf cf3 hnl HOP HA HP;obtain⟨hc3,hcf,hcl⟩:=HO6.out.cell
   cases hr:deepP c.l F.st d (j2+1) with
   | out=>rw[hr] at HQ3;exact absurd HQ3.out HO.out
   | bad er pl=>
    have HC:=hide (rstatement2_any HF.out w6.drew d (j2+1) _ hd hr.symm (by nofun) HP6.out.drew);rw[hr] at HQ3;have hq:r=.bad er pl:=unhide HQ3;subst hq;clear hr HQ3;go_wp2_with fail;exact zrcq
   | ok s2 j3=>
    have HC:=hide (rstatement2_any HF.out w6.drew d (j2+1) _ hd hr.symm (by nofun) HP6.out.drew);rw[hr] at HQ3;have hq:r=.ok (.mk 7 noText 0 [t,s,s2]) j3:=unhide HQ3;subst hq;clear hr HQ3;go_wp2_with fail
    exact zrcx
  ·rw[if_neg hx] at HQ3;have hq:r=.ok (.mk 7 noText 0 [t,s]) j2:=unhide HQ3;subst hq;have HC3:=hide (rskip_no c _ j2 tElse (by decide) hx HP.out);clear hx HQ3;go_wp2_with fail;refine cm HC3.out ?_
   rintro e wz ⟨rfl,hb⟩;have HA9:=hide (HA.out.next (Ap.of hb));have HP9:=hide (HP.out.later hb);have HN9:=hide (HOP.out.stay (Ap.of hb) HLT.out).nv;clear hb HC3 c0 c1 c2 c3 cf cf3 hnl;go_wp2_with fail;go_ret
   exact⟨⟨_,rfl,HN9.out⟩,HP9.out,HA9.out⟩
 ):G:=h
theorem zrqdr.zrcvX {G:Prop}(h:G:=by
  clear hp1 ha HC hn c0 c1 c2 c3 cf cf0 cf3 hnl
  cases hr:deepP c.l F.st d j with
  | out=>rw[hr] at HQ2;exact absurd HQ2.out HO.out
  | bad er pl=>
   have HC2:=hide (rstatement2_any HF.out wh d j _ hd hr.symm (by nofun) HP0.out);rw[hr] at HQ2;have hq:r=.bad er pl:=unhide HQ2;subst hq;clear hr HQ2;go_wp2_with fail;refine cm HC2.out ?_
   rintro e wv ⟨⟨v,rfl,q2,rfl⟩,⟨j2,hp2⟩,he,ha2⟩;exact zbcd
  | ok s j2=>
   have HC2:=hide (rstatement2_any HF.out wh d j _ hd hr.symm (by nofun) HP0.out);rw[hr] at HQ2
   have HQ3:Hid (r=if fx c.l j2=tElse then (deepP c.l F.st d (j2+1)).bind fun s2 i3=>.ok (.mk 7 noText 0 [t,s,s2]) i3 else .ok (.mk 7 noText 0 [t,s]) j2):=unhide HQ2;exact zrbn
 ):G:=h
theorem zrqdr.zreX {G:Prop}(h:G:=by
  have HC:=hide (rskip_yes c w3 i tIf (by decide) hf HS3.out.ps);go_wp2_with fail;refine cm HC.out ?_;rintro e w4 ⟨rfl,hp,ha⟩;have HS4:=hide (HS3.out.on HLT.out hp ha);clear hp ha HC HS3;have HQ:=hide hs
  clear ho hs hF hN hK;obtain⟨i0,hi0,hz0,hz1,hz2⟩:=info_parts info22;have HK2:=hide (HS4.out.kind HLO.out 7);have hPN:c.P<w.heap.size:=unhide HLT;have nb:=HS4.out.nd
  obtain⟨c0,c1,c2,c3,cf⟩:=node_cells nb;have cf0:=cf 0;have cf3:=cf 3;have hnl:=lt_of_heap nb;clear nb
  cases hr:inParP c.l F d (i+1) with
  | out=>rw[hr] at HQ;exact absurd HQ.out HO.out
  | bad er pl=>
   have HC:=hide (rhead_any HF.out _ d (i+1) _ hd hr.symm (by nofun) HK2.out.ps);rw[hr] at HQ;have hq:r=.bad er pl:=unhide HQ;subst hq;clear hr HQ;go_wp2_with fail;refine cm HC.out ?_
   rintro e wh ⟨⟨v,rfl,q,rfl⟩,⟨j,hp1⟩,he,ha⟩;have nb0:=(ha.block _ (lt_of_heap HK2.out.nd) (by have:=unhide HLT;omega)).trans HK2.out.nd
   have hA0:=HK2.out.ap.next ha;have HC2:=hide (rstatement2_old c wh j er pl (d:Int) he hp1);have HNB:=hide nb0;have HA0:=hide hA0;clear hp1 ha HC nb0 hA0 c0 c1 c2 c3 cf cf0 cf3 hnl;go_wp2_with fail
   refine cm HC2.out ?_;rintro e wv ⟨⟨v,rfl,q2,rfl⟩,⟨j2,hp2⟩,_,ha2⟩;exact zbcd
  | ok t j=>
   have HC:=hide (rhead_any HF.out _ d (i+1) _ hd hr.symm (by nofun) HK2.out.ps);rw[hr] at HQ
   have HQ2:Hid (r=(deepP c.l F.st d j).bind fun s i2=>if fx c.l i2=tElse then (deepP c.l F.st d (i2+1)).bind fun s2 i3=>.ok (.mk 7 noText 0 [t,s,s2]) i3 else .ok (.mk 7 noText 0 [t,s]) i2):=unhide HQ
   exact zrcv
 ):G:=h
theorem zrqdr.zrzX {G:Prop}(h:G:=by
  have n2:¬ fx c.l i=tFunction:=by rw[hf];decide
  exact zre
 ):G:=h
end Go.Proofs.YtoimgcjbcbhclaaGreatDoor
