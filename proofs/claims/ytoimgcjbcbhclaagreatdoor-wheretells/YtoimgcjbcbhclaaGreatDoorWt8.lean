/-
  Parts of proofs that stand more than once.
-/
import Derived.Test.YtoimgcjbcbhclaaGreatDoorWt7
set_option maxRecDepth 100000
set_option maxHeartbeats 16000000
namespace Go.Proofs.YtoimgcjbcbhclaaGreatDoor
open Go.RowKit
theorem zrqds.zrbX {G:Prop}(h:G:=by
  rw[decide_eq_false n5] at hc;have HC:=hide hc;clear hc;go_wp2_with fail;refine cm HC.out ?_;rintro e w6 ⟨rfl,hb⟩;have HS6:=hide (HS5.out.below hb);clear hb HC HS5
  have HC:=hide (rskip_no c w6 i tTry (by decide) n6 HS6.out.ps);go_wp2_with fail;refine cm HC.out ?_;rintro e w7 ⟨rfl,hb⟩;have HS7:=hide (HS6.out.below hb);clear hb HC HS6
  have hkk:dcK tg=kd:=by rcases hdc with ⟨rfl,rfl⟩|⟨rfl,rfl⟩|⟨rfl,rfl⟩ <;> decide +kernel
  have hHK:hdKind tg=kd:=by rcases hdc with ⟨rfl,rfl⟩|⟨rfl,rfl⟩|⟨rfl,rfl⟩ <;> decide +kernel
  have htx:(tkA c.l i).tx=tg:=((fx_is (by rcases hdc with ⟨rfl,_⟩|⟨rfl,_⟩|⟨rfl,_⟩ <;> decide)).1 hf).2
  have HHL:=hide (fx_lt h9.base.ends h9.lt hf (by rcases hdc with ⟨rfl,_⟩|⟨rfl,_⟩|⟨rfl,_⟩ <;> decide));clear h9 n0 n1 n2 n3 n4 n5 n6
  rcases hdc with ⟨h1,h2⟩|⟨h1,h2⟩|⟨h1,h2⟩
  focus
   have hc:=rnext_any c w7 i tVar (by decide) HS7.out.ps;rw[decide_eq_true (hf.trans h1)] at hc;have HC:=hide hc;clear hc;go_wp2_with fail;refine cm HC.out ?_;rintro e wk ⟨rfl,hb⟩
   have HSk:=hide (HS7.out.below hb);clear hb HC HS7
  rotate_left
  focus
   have hc:=rnext_any c w7 i tVar (by decide) HS7.out.ps;rw[decide_eq_false (by rw[hf,h1];decide)] at hc
   have HC:=hide hc;clear hc;go_wp2_with fail;refine cm HC.out ?_;rintro e w8 ⟨rfl,hb⟩;have HS8:=hide (HS7.out.below hb);clear hb HC HS7;have hc:=rnext_any c w8 i tLet (by decide) HS8.out.ps
   rw[decide_eq_true (hf.trans h1)] at hc;have HC:=hide hc;clear hc;go_wp2_with fail;refine cm HC.out ?_;rintro e wk ⟨rfl,hb⟩;have HSk:=hide (HS8.out.below hb);clear hb HC HS8
  rotate_left
  focus
   have hc:=rnext_any c w7 i tVar (by decide) HS7.out.ps;rw[decide_eq_false (by rw[hf,h1];decide)] at hc
   have HC:=hide hc;clear hc;go_wp2_with fail;refine cm HC.out ?_;rintro e w8 ⟨rfl,hb⟩;have HS8:=hide (HS7.out.below hb);clear hb HC HS7;have hc:=rnext_any c w8 i tLet (by decide) HS8.out.ps
   rw[decide_eq_false (by rw[hf,h1];decide)] at hc
   have HC:=hide hc;clear hc;go_wp2_with fail;refine cm HC.out ?_;rintro e w9 ⟨rfl,hb⟩;have HS9:=hide (HS8.out.below hb);clear hb HC HS8;have hc:=rnext_any c w9 i tConst (by decide) HS9.out.ps
   rw[decide_eq_true (hf.trans h1)] at hc;have HC:=hide hc;clear hc;go_wp2_with fail;refine cm HC.out ?_;rintro e wk ⟨rfl,hb⟩;have HSk:=hide (HS9.out.below hb);clear hb HC HS9
  rotate_left
  all_goals
   have HKD:=hide h2;clear h2;clear ho hF hN hK;have nb:=HSk.out.nd;obtain⟨c0,c1,c2,c3,cf⟩:=node_cells nb;have cf0:=cf 0;have cf3:=cf 3;have hnl:=lt_of_heap nb;clear nb;have x0:=HSk.out.ps.c0
   have x1:=HSk.out.ps.c1;have xf:=HSk.out.ps.fz 1;have hR:=HSk.out.ps.rlt;have hT:=HSk.out.ps.base.tlt;obtain⟨k0,k1,k2,k3⟩:=HSk.out.ps.toks
   have hlt:(i:Int)<(c.l.length:Int):=by have:=HSk.out.ps.lt;omega
   go_wp2_with fail;obtain⟨W0,hW0⟩:∃ W0,W0=wk.drew:=⟨_,rfl⟩;have hS0:TokS c wk W0:=by rw[hW0];exact⟨rfl,rfl⟩
   have hz0:W0.heap.size=wk.heap.size:=by rw[hW0];rfl
   have y0:W0.cell? ⟨w.heap.size,0,none⟩=some (.int .i64 0):=by rw[hW0];exact c0
   have yf:W0.frozen? ⟨w.heap.size,0,none⟩=false:=by rw[hW0];exact cf0
   have hSA:∀ o,TokS c wk (W0.alloc o):=fun o=>hS0.alloc (by omega) (by omega) o;have hPN:c.P≠w.heap.size:=by have:=unhide HLT;omega
   have hTN:c.tb≠w.heap.size:=by have h1:=HSk.out.ps.base.old;have h2:=unhide HLO;omega
   have hSB:∀ o,TokS c wk ((W0.setCell ⟨w.heap.size,0,none⟩ (.int .i64 kd)).alloc o):=fun o=>(hS0.set hPN hTN).alloc (by simp;omega) (by simp;omega) o
   have hnl0:w.heap.size<W0.heap.size:=by omega
   have HST:∀ o,Hid (Stk c w kd i ((W0.setCell ⟨w.heap.size,0,none⟩ (.int .i64 kd)).alloc o)):=fun o=>HSk.out.decl HLO.out hW0 o kd
   have HQ1:Hid (r=(nameP c.l (i+1)).bind fun s i1=>if kd=4∧¬ fx c.l i1=tEq then badF c.l 3 i1 else if fx c.l i1=tEq then (deepP c.l F.vl d (i1+1)).bind fun v i2=>(mustP c.l tSemi i2).bind fun _ i3=>.ok (.mk kd s 0 [v]) i3 else (mustP c.l tSemi i1).bind fun _ i2=>.ok (.mk kd s 0 []) i2):=by
    have h1:=unhide HQ;unfold declP at h1;rw[htx,hHK] at h1;exact h1
   have HHL3:=hide HSk.out.ps.base.len;clear HQ hHK hz0 c0 c1 c2 c3 cf cf0 cf3 hf h1;have HW0:=hide hW0;clear hW0;apply viaM
   ·intro CONT;refine wp_region_held (S:=TokS c wk) (by kernel_rfl) ?_;change wpAnyH _ _ _ _ _ _ _ _ (World.drew _);rw[←HW0.out]
    obtain⟨ma,mb,mc,mab,mac,mba,mbc,mca,mcb,mabc,macb,mbac,mbca,mcab,mcba,e0,ea,eb,ec,eab,eac,eba,ebc,eca,ecb,eabc,eacb,ebac,ebca,ecab,ecba,labc,lacb,lbac,lbca,lcab,lcba⟩:=decl_made W0
    refine wh 0 (nPtr w.heap.size) hS0 ?_;refine wh 6 (pPtr c) hS0 ?_;refine wh 7 (pPtr c) hS0 ?_;refine wh 8 (.pointer (some ⟨c.P,0,none⟩)) hS0 ?_
    refine wg 9 (.slice (some ⟨c.tb,0,none⟩) c.l.length c.cap) rfl (Or.inl ⟨by kernel_rfl,fun W hW=>by have hh:=(TokS.cell hW 0).trans x0;go_simp⟩) hS0 ?_
    refine wh 10 (pPtr c) hS0 ?_;refine wh 11 (pPtr c) hS0 ?_;refine wh 12 (.pointer (some ⟨c.P,1,none⟩)) hS0 ?_
    refine wg 13 (.int .i64 (i:Int)) rfl (Or.inl ⟨by kernel_rfl,fun W hW=>by have hh:=(TokS.cell hW 1).trans x1;go_simp⟩) hS0 ?_
    refine wh 14 (.pointer (some ⟨c.tb,i * 4,none⟩)) hS0 ?_;refine wh 15 (.pointer (some ⟨c.tb,i * 4+1,none⟩)) hS0 ?_
    refine wg 16 (.string tg) rfl (Or.inl ⟨by kernel_rfl,fun W hW=>by have hh:=(TokS.tok hW (i * 4+1)).trans (k1.trans (by rw[htx]));go_simp⟩) hS0 ?_
    refine wq1 1 fun K hK=>?_;go_simp;refine hK _ _ (hSA _) (fun _=>?_);clear hK K;have e1:=labc tg;have e2:=lacb tg;have e3:=lbac tg;have e4:=lbca tg;have e5:=lcab tg;have e6:=lcba tg
    rw[hkk] at e1 e2 e3 e4 e5 e6;have z0:∀ m:Array MapEntry,(W0.alloc (.map m 3)).cell? ⟨w.heap.size,0,none⟩=some (.int .i64 0):=fun m=>by rw[World.cell?_alloc_past _ _ _ hnl0];exact y0
    have zf:∀ m:Array MapEntry,(W0.alloc (.map m 3)).frozen? ⟨w.heap.size,0,none⟩=false:=fun m=>by rw[World.frozen?_of_block (w:=W0) (Below.heap_alloc W0 _ _ hnl0)];exact yf
    refine wpAnyH_ready (rs:=[2,3,4]) (by kernel_rfl) (by simp) (AllReadyH.cons rfl (fun K hK=>?_) (AllReadyH.cons rfl (fun K hK=>?_) (AllReadyH.cons rfl (fun K hK=>?_) AllReadyH.nil)))
    all_goals
     go_simp;refine hK _ _ (hSA _) (fun _=>?_);clear hK K
    refine wpAnyH_ready (rs:=[3,4]) (by kernel_rfl) (by simp) (AllReadyH.cons rfl (fun K hK=>?_) (AllReadyH.cons rfl (fun K hK=>?_) AllReadyH.nil));rotate_left 2
    refine wpAnyH_ready (rs:=[2,4]) (by kernel_rfl) (by simp) (AllReadyH.cons rfl (fun K hK=>?_) (AllReadyH.cons rfl (fun K hK=>?_) AllReadyH.nil));rotate_left 2
    refine wpAnyH_ready (rs:=[2,3]) (by kernel_rfl) (by simp) (AllReadyH.cons rfl (fun K hK=>?_) (AllReadyH.cons rfl (fun K hK=>?_) AllReadyH.nil));rotate_left 2
    all_goals
     go_simp;refine hK _ _ (hSA _) (fun _=>?_);clear hK K
    refine wq1 4 fun K hK=>?_;rotate_left;refine wq1 3 fun K hK=>?_;rotate_left;refine wq1 4 fun K hK=>?_;rotate_left;refine wq1 2 fun K hK=>?_;rotate_left;refine wq1 3 fun K hK=>?_;rotate_left
    refine wq1 2 fun K hK=>?_;rotate_left
    all_goals
      go_simp;refine hK _ _ (hSA _) (fun _=>?_);clear hK K;refine wh 5 (.map (some W0.heap.size)) (hSA _) ?_;refine wq1 17 fun K hK=>?_;go_simp;refine hK _ _ (hSA _) (fun _=>?_);clear hK K
      refine wh 18 (nPtr w.heap.size) (hSA _) ?_;refine wh 19 (.pointer (some ⟨w.heap.size,0,none⟩)) (hSA _) ?_;refine wq1 20 fun K hK=>?_;go_simp;refine hK _ _ (hSB _) (fun _=>?_);clear hK K
      refine wpAnyH_done (by kernel_rfl) ?_ _;go_simp
      first|exact CONT mabc|exact CONT macb|exact CONT mbac|exact CONT mbca|exact CONT mcab|exact CONT mcba
   ·intro m;obtain⟨W1,hW1⟩:∃ W1,W1=(W0.setCell ⟨w.heap.size,0,none⟩ (.int .i64 kd)).alloc (.map m 3):=⟨_,rfl⟩;have HK1:Hid (Stk c w kd i W1):=by rw[hW1];exact unhide (HST _)
    rw[←hW1];clear hW1 HST hSA hSB hS0 x0 x1 xf hR hT k0 k1 k2 k3 y0 yf hnl0 hkk htx;have hl:=unhide HHL;have hl3:=unhide HHL3;have x1:=HK1.out.ps.c1;have xf:=HK1.out.ps.fz 1;have hR:=HK1.out.ps.rlt
    have HK2:=hide (HK1.out.stepped HLT.out hl);have HC:=hide (rident_any c _ (i+1) HK2.out.ps);go_wp2_with fail;refine cm HC.out ?_;intro e wi hp;clear HC x1 xf hR
    cases hr:nameP c.l (i+1) with
    | out=>rw[hr] at HQ1;exact absurd HQ1.out HO.out
    | bad er pl=>
     rw[hr] at hp HQ1;have hq:r=.bad er pl:=unhide HQ1;subst hq;obtain⟨⟨v,rfl,s,rfl⟩,⟨j,hp1⟩,he,ha⟩:=hp;have nb:=(ha.block _ (lt_of_heap HK2.out.nd) (by have:=unhide HLT;omega)).trans HK2.out.nd
     obtain⟨c0,c1,c2,c3,cf⟩:=node_cells nb;have cf1:=cf 1;have hnl:=lt_of_heap nb
     have hbw:Below w.heap.size wi (wi.setCell ⟨w.heap.size,1,none⟩ (.string s)):=(Below.refl w.heap.size wi).setCell (p:=⟨w.heap.size,1,none⟩) (Nat.le_refl _) _
     have HA:=hide ((HK2.out.ap.next ha).trans (Ap.of hbw));have HP:=hide (hp1.ap hbw HLO.out)
     have nb2:(wi.setCell ⟨w.heap.size,1,none⟩ (.string s)).heap[w.heap.size]? = some (nodeObj kd s 0 (.slice none 0 0)):=by rw[heap_set nb];rfl
     obtain⟨d0,d1,d2,d3,df⟩:=node_cells nb2;have hnl2:=lt_of_heap nb2;have HC3:=hide (rok_old he HP.out);have HC4:=hide (rskip_old c _ j er pl he tEq HP.out);clear hp1 ha hr HQ1 nb nb2 hbw
     first
      | have h4:kd=4:=(HKD:Hid (kd=4)).out
        subst h4;go_wp2_with fail;refine cm HC3.out ?_;rintro e wo ⟨rfl,rfl⟩;clear HC3
      | clear HC3
        have h4:=HKD.out;subst h4
     go_wp2_with fail;refine cm HC4.out ?_;rintro e wz ⟨rfl,hb⟩;have HA9:=hide (HA.out.next (Ap.of hb));have HP9:=hide (HP.out.later hb);have HC5:=hide (rmust_old c wz j er pl he tSemi HP9.out)
     clear hb HC4 c0 c1 c2 c3 cf cf1 hnl d0 d1 d2 d3 df hnl2;go_wp2_with fail;refine cm HC5.out ?_;rintro e wy ⟨rfl,rfl⟩;clear HC5;go_wp2_with fail;go_ret;exact⟨⟨_,rfl,_,rfl⟩,⟨j,HP9.out⟩,he,HA9.out⟩
    | ok s j=>
     rw[hr] at hp HQ1
     have HQ2:Hid (r=if kd=4∧¬ fx c.l j=tEq then badF c.l 3 j else if fx c.l j=tEq then (deepP c.l F.vl d (j+1)).bind fun v i2=>(mustP c.l tSemi i2).bind fun _ i3=>.ok (.mk kd s 0 [v]) i3 else (mustP c.l tSemi j).bind fun _ i2=>.ok (.mk kd s 0 []) i2):=unhide HQ1
     obtain⟨⟨v,rfl,rfl⟩,hp1,ha⟩:=hp;have HK3:=hide (HK2.out.on HLT.out hp1 ha);have HX:=hide (HK3.out.text HLO.out s);have nb:=HK3.out.nd;obtain⟨c0,c1,c2,c3,cf⟩:=node_cells nb;have cf1:=cf 1
     have hnl:=lt_of_heap nb;obtain⟨d0,d1,d2,d3,df⟩:=node_cells HX.out.nd;have hnl2:=lt_of_heap HX.out.nd;clear hp1 ha hr HQ1 nb HK1 HK2
     by_cases hx:fx c.l j=tEq
     ·rw[if_neg (fun h=>h.2 hx),if_pos hx] at HQ2;have HEQ:=hide hx
      first
       | have h4:kd=4:=(HKD:Hid (kd=4)).out
         rw[h4] at c0 d0;have HC3:=hide (rok_new HX.out.ps);have hc:=rnext_any c _ j tEq (by decide) HX.out.ps;rw[decide_eq_true hx] at hc;have HC4:=hide hc;clear hc hx;go_wp2_with fail;refine cm HC3.out ?_
         rintro e wo ⟨rfl,rfl⟩;clear HC3;go_wp2_with fail;refine cm HC4.out ?_;rintro e wn ⟨rfl,hb⟩;have HY:=hide (HX.out.below hb);clear hb HC4 c0 c1 c2 c3 cf cf1 hnl d0 d1 d2 d3 df hnl2
         have HC4:=hide (rskip_yes c _ j tEq (by decide) HEQ.out HY.out.ps);go_wp2_with fail;refine cm HC4.out ?_;rintro e ws ⟨rfl,hp6,ha6⟩;have HZ:=hide (HY.out.on HLT.out hp6 ha6);clear hp6 ha6 HC4 HY
       | have h4:=HKD.out
         rw[h4] at c0 d0;clear hx;have HC4:=hide (rskip_yes c _ j tEq (by decide) HEQ.out HX.out.ps);go_wp2_with fail;refine cm HC4.out ?_;rintro e ws ⟨rfl,hp6,ha6⟩;have HZ:=hide (HX.out.on HLT.out hp6 ha6)
         clear hp6 ha6 HC4 c0 c1 c2 c3 cf cf1 hnl d0 d1 d2 d3 df hnl2
      cases hr:deepP c.l F.vl d (j+1) with
      | out=>rw[hr] at HQ2;exact absurd HQ2.out HO.out
      | bad er pl=>
       have HC:=hide (HF.out.vl ws d (j+1) _ hd hr.symm (by nofun) HZ.out.ps);rw[hr] at HQ2;have hq:r=.bad er pl:=unhide HQ2;subst hq;clear hr HQ2;go_wp2_with fail;refine cm HC.out ?_
       rintro e wv ⟨⟨v,rfl,q,rfl⟩,⟨j2,hp1⟩,he,ha⟩;have nb:=(ha.block _ (lt_of_heap HZ.out.nd) (by have:=unhide HLT;omega)).trans HZ.out.nd
       obtain⟨c0,c1,c2,c3,cf⟩:=node_cells nb;have cf3:=cf 3;have hnl:=lt_of_heap nb;have hA:=HZ.out.ap.next ha
       have HB:Hid (Below w.heap.size wv ((wv.setCell ⟨w.heap.size,3,none⟩ (.slice (some ⟨wv.heap.size,0,none⟩) 1 1)).alloc (.cells #[nPtr q] 22))):=((Below.refl w.heap.size wv).setCell (p:=⟨w.heap.size,3,none⟩) (Nat.le_refl _) _).alloc (by simp;omega) _
       have HA:=hide (hA.trans (Ap.of HB.out));have HP:=hide (hp1.ap HB.out HLO.out);have HC2:=hide (rmust_old c _ j2 er pl he tSemi HP.out);clear hp1 ha HC nb hA;go_wp2_with fail;refine cm HC2.out ?_
       rintro e wz ⟨rfl,rfl⟩;clear HC2;go_wp2_with fail;go_ret;exact⟨⟨_,rfl,_,rfl⟩,⟨j2,HP.out⟩,he,HA.out⟩
      | ok t j3=>
       have HC:=hide (HF.out.vl ws d (j+1) _ hd hr.symm (by nofun) HZ.out.ps);rw[hr] at HQ2;have hq:r=(mustP c.l tSemi j3).bind fun _ i2=>.ok (.mk kd s 0 [t]) i2:=unhide HQ2;have HQ3:=hide hq
       clear hr HQ2 hq;go_wp2_with fail;refine cm HC.out ?_;rintro e wv ⟨⟨v,rfl,q,rfl,hn⟩,hp1,ha⟩;have nb:=(ha.block _ (lt_of_heap HZ.out.nd) (by have:=unhide HLT;omega)).trans HZ.out.nd
       obtain⟨c0,c1,c2,c3,cf⟩:=node_cells nb;have cf3:=cf 3;have hnl:=lt_of_heap nb;have hA:=HZ.out.ap.next ha
       have HB:Hid (Below w.heap.size wv ((wv.setCell ⟨w.heap.size,3,none⟩ (.slice (some ⟨wv.heap.size,0,none⟩) 1 1)).alloc (.cells #[nPtr q] 22))):=((Below.refl w.heap.size wv).setCell (p:=⟨w.heap.size,3,none⟩) (Nat.le_refl _) _).alloc (by simp;omega) _
       have HA:=hide (hA.trans (Ap.of HB.out));have HP:=hide (hp1.ap HB.out HLO.out)
       have HN:Hid (NV w.heap.size ((wv.setCell ⟨w.heap.size,3,none⟩ (.slice (some ⟨wv.heap.size,0,none⟩) 1 1)).alloc (.cells #[nPtr q] 22)) (.mk kd s 0 [t]) (nPtr w.heap.size)):=st_row (Nat.le_refl _) (lt_of_heap HZ.out.nd) (set1 wv w.heap.size _) (by simp) ha.size (by rw[heap_set nb];rfl) (NAts.cons hn NAts.nil) rfl #[nPtr q] rfl (by simp[maxLen])
       have HC2:=hide (rmust_any c _ j3 tSemi (by decide) HP.out);have HQ2:=HQ3;clear hp1 ha HC nb hA hn HQ3;go_wp2_with fail;refine cm HC2.out ?_;intro e wz hp
       cases hr2:mustP c.l tSemi j3 with
       | out=>rw[hr2] at HQ2;exact absurd HQ2.out HO.out
       | bad er pl=>
        rw[hr2] at hp HQ2;have hq:r=.bad er pl:=unhide HQ2;subst hq;obtain⟨⟨v,rfl,rfl⟩,hp2,he,ha2⟩:=hp;have HP2:=hide hp2;have HA2:=hide (HA.out.next ha2);clear hp2 ha2 HC2 hr2;go_wp2_with fail
        go_ret;exact⟨⟨_,rfl,_,rfl⟩,HP2.out,he,HA2.out⟩
       | ok x j2=>
        rw[hr2] at hp HQ2;have hq:r=.ok (.mk kd s 0 [t]) j2:=unhide HQ2;subst hq;obtain⟨⟨v,rfl,rfl⟩,hp2,ha2⟩:=hp;have HP2:=hide hp2;have HA2:=hide (HA.out.next ha2)
        have HN2:=hide (NV.later HN.out ha2 HLT.out);clear hp2 ha2 HC2 hr2;go_wp2_with fail;go_ret;exact⟨⟨_,rfl,HN2.out⟩,HP2.out,HA2.out⟩
     ·first
       | have h4:kd=4:=(HKD:Hid (kd=4)).out
         subst h4;rw[if_pos ⟨rfl,hx⟩] at HQ2;have HC3:=hide (rok_new HX.out.ps);have hc:=rnext_any c _ j tEq (by decide) HX.out.ps;rw[decide_eq_false hx] at hc;have HC4:=hide hc
         have hq:r=.bad 3 (tkA c.l j).pl:=unhide HQ2;subst hq;clear hc hx;go_wp2_with fail;refine cm HC3.out ?_;rintro e wo ⟨rfl,rfl⟩;clear HC3;go_wp2_with fail;refine cm HC4.out ?_;rintro e wn ⟨rfl,hb⟩
         have HY:=hide (HX.out.below hb);have HC5:=hide (rfail_new c wn j 3 (by decide) HY.out.ps);clear hb HC4 c0 c1 c2 c3 cf cf1 hnl d0 d1 d2 d3 df hnl2;go_wp2_with fail;refine cm HC5.out ?_
         rintro e wq ⟨⟨v,rfl,q,rfl⟩,⟨j2,hp2⟩,he,ha⟩;have HA:=hide (HY.out.ap.next ha);have HP:=hide hp2;have HC6:=hide (rskip_old c wq j2 _ _ he tEq hp2);clear hp2 ha HC5;go_wp2_with fail
         refine cm HC6.out ?_;rintro e wz ⟨rfl,hb⟩;have HA9:=hide (HA.out.next (Ap.of hb));have HP9:=hide (HP.out.later hb);have HC7:=hide (rmust_old c wz j2 _ _ he tSemi HP9.out);clear hb HC6;go_wp2_with fail
         refine cm HC7.out ?_;rintro e wy ⟨rfl,rfl⟩;clear HC7;go_wp2_with fail;go_ret;exact⟨⟨_,rfl,_,rfl⟩,⟨j2,HP9.out⟩,he,HA9.out⟩
       | have h4:¬ kd=4:=by have:=HKD.out;omega
         rw[if_neg (fun h=>h4 h.1),if_neg hx] at HQ2;have h5:=HKD.out;subst h5;have HC4:=hide (rskip_no c _ j tEq (by decide) hx HX.out.ps);clear hx;go_wp2_with fail;refine cm HC4.out ?_
         rintro e wn ⟨rfl,hb⟩;have HY:=hide (HX.out.below hb);clear hb HC4 c0 c1 c2 c3 cf cf1 hnl d0 d1 d2 d3 df hnl2;have HA:=hide HY.out.ap
         have HN:Hid (NV w.heap.size wn (.mk _ s 0 []) (nPtr w.heap.size)):=st_done (Nat.le_refl _) HY.out.nd owns_nil NAts.nil;have HC2:=hide (rmust_any c wn j tSemi (by decide) HY.out.ps);go_wp2_with fail
         refine cm HC2.out ?_;intro e wz hp
         cases hr2:mustP c.l tSemi j with
         | out=>rw[hr2] at HQ2;exact absurd HQ2.out HO.out
         | bad er pl=>
          rw[hr2] at hp HQ2;have hq:r=.bad er pl:=unhide HQ2;subst hq;obtain⟨⟨v,rfl,rfl⟩,hp2,he,ha2⟩:=hp;have HP2:=hide hp2;have HA2:=hide (HA.out.next ha2);clear hp2 ha2 HC2 hr2;go_wp2_with fail
          go_ret;exact⟨⟨_,rfl,_,rfl⟩,HP2.out,he,HA2.out⟩
         | ok x j2=>
          rw[hr2] at hp HQ2;have hq:r=.ok (.mk _ s 0 []) j2:=unhide HQ2;subst hq;obtain⟨⟨v,rfl,rfl⟩,hp2,ha2⟩:=hp;have HP2:=hide hp2;have HA2:=hide (HA.out.next ha2)
          have HN2:=hide (NV.later HN.out ha2 HLT.out);clear hp2 ha2 HC2 hr2;go_wp2_with fail;go_ret;exact⟨⟨_,rfl,HN2.out⟩,HP2.out,HA2.out⟩
 ):G:=h
theorem zrqds.zrbbX {G:Prop}(h:G:=by
  have n0:¬ fx c.l i=tLBrace:=by rw[hf];rcases hdc with ⟨rfl,_⟩|⟨rfl,_⟩|⟨rfl,_⟩ <;> decide
  have n1:¬ fx c.l i=tSemi:=by rw[hf];rcases hdc with ⟨rfl,_⟩|⟨rfl,_⟩|⟨rfl,_⟩ <;> decide
  have n2:¬ fx c.l i=tFunction:=by rw[hf];rcases hdc with ⟨rfl,_⟩|⟨rfl,_⟩|⟨rfl,_⟩ <;> decide
  have n3:¬ fx c.l i=tIf:=by rw[hf];rcases hdc with ⟨rfl,_⟩|⟨rfl,_⟩|⟨rfl,_⟩ <;> decide
  have n4:¬ fx c.l i=tWhile:=by rw[hf];rcases hdc with ⟨rfl,_⟩|⟨rfl,_⟩|⟨rfl,_⟩ <;> decide
  have n5:¬ fx c.l i=tWith:=by rw[hf];rcases hdc with ⟨rfl,_⟩|⟨rfl,_⟩|⟨rfl,_⟩ <;> decide
  have n6:¬ fx c.l i=tTry:=by rw[hf];rcases hdc with ⟨rfl,_⟩|⟨rfl,_⟩|⟨rfl,_⟩ <;> decide
  have HQ:=hide hs;clear hs;exact zrb
 ):G:=h
theorem zrqdt.zrbsX {G:Prop}(h:G:=by
  have HP:=hide (hp2.ap HB.out HLO.out)
  have HNB:Hid (((wv.setCell ⟨w.heap.size,3,none⟩ (.slice (some ⟨wv.heap.size,0,none⟩) 1 1)).alloc (.cells #[nPtr q] 22)).heap[w.heap.size]? = some (nodeObj 12 noText 0 (.slice (some ⟨wv.heap.size,0,none⟩) 1 1))):=by
   show _=_
   rw[Below.heap_alloc _ _ _ (by simp;omega),heap_set nb]
   rfl
  clear hp2 ha2 HC nb hA;have HC3:=hide (rskip_old c _ j2 _ _ he tCatch HP.out);go_wp2_with fail;refine cm HC3.out ?_;rintro e wx ⟨rfl,hb⟩;have HA1:=hide (HA.out.next (Ap.of hb))
  have HP1:=hide (HP.out.later hb);have HN1:=hide ((hb.block _ (lt_of_heap HNB.out)).trans HNB.out);clear hb HC3 HA HP HNB;have HC4:=hide (rskip_old c _ j2 _ _ he tFinally HP1.out);clear c0 c1 c2 c3 cf cf3 hnl
  go_wp2_with fail;refine cm HC4.out ?_;rintro e wy ⟨rfl,hb⟩;have HA2:=hide (HA1.out.next (Ap.of hb));have HP2:=hide (HP1.out.later hb);have nb:=(hb.block _ (lt_of_heap HN1.out)).trans HN1.out
  clear hb HC4 HA1 HP1 HN1;obtain⟨c0,c1,c2,c3,cf⟩:=node_cells nb;have hnl:=lt_of_heap nb;clear nb;have HC5:=hide (rfail_old c wy j2 _ _ 3 he HP2.out);go_wp2_with fail;refine cm HC5.out ?_
  rintro e wz ⟨⟨v,rfl,q2,rfl⟩,hp3,_,ha3⟩;have HA3:=hide (HA2.out.next ha3);have HP3:=hide hp3;clear hp3 ha3 HC5 c0 c1 c2 c3 cf hnl;go_wp2_with fail;go_ret;exact⟨⟨_,rfl,_,rfl⟩,HP3.out,he,HA3.out⟩
 ):G:=h
theorem zrqdt.zrbdX {G:Prop}(h:G:=by
  have hq:r=.bad er pl:=by have h1:=unhide HQ;rw[hb0] at h1;exact h1
  subst hq;clear HQ;have HC:=hide (rbraces_any HF.out HNN.out HKK.out false _ d (i+1) _ hd hb0.symm (by nofun) HK2.out.ps);clear hb0;go_wp2_with fail;refine cm HC.out ?_
  rintro e wv ⟨⟨v,rfl,q,rfl⟩,⟨j2,hp2⟩,he,ha2⟩;have nb:=(ha2.block _ (lt_of_heap HK2.out.nd) (by have:=unhide HLT;omega)).trans HK2.out.nd
  clear c0 c1 c2 c3 cf cf0 cf3 hnl;obtain⟨c0,c1,c2,c3,cf⟩:=node_cells nb;have cf3:=cf 3;have hnl:=lt_of_heap nb;have hA:=HK2.out.ap.next ha2;exact zrbs
 ):G:=h
theorem zrqdt.zrbX {G:Prop}(h:G:=by
  exact zrbd
 ):G:=h
theorem zrqdt.zrvX {G:Prop}(h:G:=by
  exact zead
 ):G:=h
theorem zrqdu.zrecX {G:Prop}(h:G:=by
  have HC3:=hide (rskip_no c _ j tFinally (by decide) hx HP.out);clear hx;go_wp2_with fail;refine cm HC3.out ?_;rintro e wy ⟨rfl,hb⟩;replace HOP:=hide (HOP.out.stay (Ap.of hb) HLT.out)
  replace HA:=hide (HA.out.next (Ap.of hb));replace HP:=hide (HP.out.later hb);clear hb HC3;obtain⟨c3,cf,hnl⟩:=HOP.out.cell;have HC5:=hide (rfail_new c wy j 3 (by decide) HP.out);go_wp2_with fail
  refine cm HC5.out ?_;rintro e wz ⟨⟨v,rfl,q2,rfl⟩,hp3,he,ha3⟩;have HA3:=hide (HA.out.next ha3);have HP3:=hide hp3;clear hp3 ha3 HC5 c3 cf hnl;go_wp2_with fail;go_ret
  exact⟨⟨_,rfl,_,rfl⟩,HP3.out,he,HA3.out⟩
 ):G:=h
theorem zrqdu.zrnX {G:Prop}(h:G:=by
  exact zrec
 ):G:=h
theorem zrqdu.zrbdX {G:Prop}(h:G:=by
  have hq:r=.bad 3 (tkA c.l j).pl:=by
   have h1:=unhide HQ;rw[hb0,bind_ok] at h1;unfold catchP at h1;rw[if_neg hc0,bind_ok] at h1;unfold finallyP at h1;rw[if_neg hf0,bind_ok] at h1;exact h1
  subst hq;exact zrn
 ):G:=h
theorem zrqdu.zrbX {G:Prop}(h:G:=by
  exact zrbd
 ):G:=h
theorem zrqdu.zrvX {G:Prop}(h:G:=by
  exact zead
 ):G:=h
theorem zrqdv.zrclX {G:Prop}(h:G:=by
  have HEV:=hide (Open.push2 (x:=.mk 14 noText 0 [b2]) HOn.out (HOP.out.apart2 HSZ.out (Nat.le_refl _) (NAts.cons (nv_at (nv_row HHY.out.nd HHY.out.sz (by simp[maxLen]) #[nPtr pc] rfl 1 rfl 14 noText 0 _ rfl).nv) NAts.nil) ((HHY.out.kb.alloc _).alloc _)) rfl hown3 hgr3 (hg3.imp id fun e=>by rw[e];simp))
  have HBW:∀ v,Hid (Below w.heap.size wc (w3.setCell ⟨w.heap.size,3,none⟩ v)):=fun v=>HHY.out.op.grows ((((Below.refl _ wc).alloc hsz _).alloc (by simp;omega) _).alloc (by simp;omega) _) (by simp;omega) hgr3
  have hp3:w3.cell? ⟨w.heap.size,3,none⟩=wc.cell? ⟨w.heap.size,3,none⟩∧w3.frozen? ⟨w.heap.size,3,none⟩=wc.frozen? ⟨w.heap.size,3,none⟩:=by
   exact zcaw
  obtain⟨hp3c,hp3f⟩:=hp3;rw[gc3] at hp3c;rw[gcf 3] at hp3f;clear hown3 hgr3 hg3;exact zbdx
 ):G:=h
theorem zrqdv.zrcxX {G:Prop}(h:G:=by
  refine wr2 4 7 (fun K hK=>?_) fun K hK=>?_
  ·go_simp;refine hK _ _ ?_;clear hK K;refine wr1 7 fun K hK=>?_;go_simp;refine cm HC.out ?_;rintro e wc ⟨⟨vc,rfl,pc,rfl,hnc⟩,hpc,ha⟩;have HAc:=hide (HA.out.drew.next ha)
   have HOc:=hide (HOP.out.stay (((Ap.refl c.P w6.heap.size w6).drew).next ha) HLT.out)
   have HHY:Hid (CallOk _ _ _ _ _ _ _ _ wc pc):=CallOk.mk (Z:=w6.heap.size) HAc.out hpc HOc.out (NAts.cons hnc NAts.nil) ha.size (HOP.out.kb (((Ap.refl c.P w6.heap.size w6).drew).next ha) HLT.out);exact zcbm
  ·go_simp;refine cm HC.out ?_;rintro e wc ⟨⟨vc,rfl,pc,rfl,hnc⟩,hpc,ha⟩;have HAc:=hide (HA.out.drew.next ha);have HOc:=hide (HOP.out.stay (((Ap.refl c.P w6.heap.size w6).drew).next ha) HLT.out)
   have HHY:Hid (CallOk _ _ _ _ _ _ _ _ wc pc):=CallOk.mk (Z:=w6.heap.size) HAc.out hpc HOc.out (NAts.cons hnc NAts.nil) ha.size (HOP.out.kb (((Ap.refl c.P w6.heap.size w6).drew).next ha) HLT.out);exact zcbn
 ):G:=h
theorem zrqdv.zrcgX {G:Prop}(h:G:=by
  have hp3:w3.cell? ⟨w.heap.size,3,none⟩=wc.cell? ⟨w.heap.size,3,none⟩∧w3.frozen? ⟨w.heap.size,3,none⟩=wc.frozen? ⟨w.heap.size,3,none⟩:=by
   exact zcaw
  obtain⟨hp3c,hp3f⟩:=hp3;rw[gc3] at hp3c;rw[gcf 3] at hp3f;clear hown3 hgr3 hg3;exact zbdl
 ):G:=h
theorem zrqdv.zrcqX {G:Prop}(h:G:=by
  refine wt 5 (pPtr c) ?_;refine wt 6 (.int .i64 (d:Int)) ?_;refine wr2 4 7 (fun K hK=>?_) fun K hK=>?_
  ·go_simp;refine hK _ _ ?_;clear hK K;refine wr1 7 fun K hK=>?_;go_simp;refine cm HC.out ?_;rintro e wc ⟨⟨vc,rfl,pc,rfl⟩,hpc,he,ha⟩;have HAc:=hide (HA.out.drew.next ha)
   have HOc:=hide (HOP.out.stay (((Ap.refl c.P w6.heap.size w6).drew).next ha) HLT.out);exact zcbf
  ·go_simp;refine cm HC.out ?_;rintro e wc ⟨⟨vc,rfl,pc,rfl⟩,hpc,he,ha⟩;have HAc:=hide (HA.out.drew.next ha);have HOc:=hide (HOP.out.stay (((Ap.refl c.P w6.heap.size w6).drew).next ha) HLT.out);exact zcbg
 ):G:=h
theorem zrqdv.zrdsX {G:Prop}(h:G:=by
  clear hc0 hf0;obtain⟨hc3,hcf,hcl⟩:=HOP.out.cell
  cases hr:blockP c.l F d (j+1) with
  | out=>rw[hr] at HQ1;exact absurd HQ1.out HO.out
  | bad er pl=>
   have HC:=hide (rbraces_any HF.out HNN.out HKK.out false w6.drew d (j+1) _ hd hr.symm (by nofun) HP.out.drew);rw[hr] at HQ1;have hq:r=.bad er pl:=unhide HQ1;subst hq;clear hr HQ1;go_wp2_with fail
   refine via2 (H:=CallBad c w (.mk 12 noText 0 [b]) (.slice (some ⟨wv.heap.size,0,none⟩) 1 1) [q] er pl) (G:=?G1) (fun CONT=>?_) ?_;rotate_left
   ·exact zrcq
   ·exact zrcg
  | ok b2 j3=>
   have HC:=hide (rbraces_any HF.out HNN.out HKK.out false w6.drew d (j+1) _ hd hr.symm (by nofun) HP.out.drew);rw[hr] at HQ1;have hq:r=.ok (.mk 12 noText 0 [b,.mk 14 noText 0 [b2]]) j3:=unhide HQ1;subst hq
   clear hr HQ1;go_wp2_with fail;have HSZ:=hide HA.out.size;have HSC:Hid (w6.heap.size≤w6.heap.size):=Nat.le_refl _
   refine via2 (H:=CallOk c w w6.heap.size (.mk 12 noText 0 [b]) (.slice (some ⟨wv.heap.size,0,none⟩) 1 1) [q] b2 j3) (G:=?G2) (fun CONT=>?_) ?_;rotate_left
   ·exact zrcx
   ·exact zrcl
 ):G:=h
theorem zrqdv.zrecX {G:Prop}(h:G:=by
  have HC3:=hide (rskip_yes c _ j tFinally (by decide) hx HP.out);exact zrds
 ):G:=h
theorem zrqdv.zrnX {G:Prop}(h:G:=by
  exact zrec
 ):G:=h
theorem zrqdv.zrbdX {G:Prop}(h:G:=by
  have HQ1:Hid (r=(blockP c.l F d (j+1)).bind fun b2 i1=>.ok (.mk 12 noText 0 [b,.mk 14 noText 0 [b2]]) i1):=by
   have h1:=unhide HQ;rw[hb0,bind_ok] at h1;unfold catchP at h1;rw[if_neg hc0,bind_ok] at h1;unfold finallyP at h1;rw[if_pos hf0] at h1;rw[h1]
   cases blockP c.l F d (j+1) <;> rfl
  exact zrn
 ):G:=h
theorem zrqdv.zrbX {G:Prop}(h:G:=by
  exact zrbd
 ):G:=h
theorem zrqdv.zrvX {G:Prop}(h:G:=by
  exact zead
 ):G:=h
theorem zrqdw.zrbzX {G:Prop}(h:G:=by
  obtain⟨jc,hpc⟩:=HHY.out.ps;have he:=HHY.out.he;have HPC:=hide (hpc.ap (unhide (HBW (.slice (some ⟨g,0,none⟩) 2 cap))) HLO.out)
  have HAC:=hide (HHY.out.ap.trans (Ap.of (unhide (HBW (.slice (some ⟨g,0,none⟩) 2 cap)))));have HNC:=HNW (.slice (some ⟨g,0,none⟩) 2 cap);have HC9:=hide (rskip_old c _ jc _ _ he tFinally HPC.out)
  clear hpc HBW HNW hp3c hp3f;go_wp2_with fail;refine cm HC9.out ?_;rintro e wy ⟨rfl,hb⟩;have HA2:=hide (HAC.out.next (Ap.of hb));have HP2:=hide (HPC.out.later hb)
  have nb:=(hb.block _ (lt_of_heap HNC.out)).trans HNC.out;clear hb HC9;obtain⟨z0,z1,z2,z3,zf⟩:=node_cells nb;have hnlz:=lt_of_heap nb;clear nb;go_wp2_with fail;go_ret
  exact⟨⟨_,rfl,_,rfl⟩,⟨jc,HP2.out⟩,he,HA2.out⟩
 ):G:=h
theorem zrqdw.zrcnX {G:Prop}(h:G:=by
  exact zrbz
 ):G:=h
theorem zrqdw.zrcqX {G:Prop}(h:G:=by
  refine wt 5 (.string s) ?_;refine wt 6 (pPtr c) ?_;refine wt 7 (.int .i64 (d:Int)) ?_;refine wr2 4 8 (fun K hK=>?_) fun K hK=>?_
  ·go_simp;refine hK _ _ ?_;clear hK K;refine wr1 8 fun K hK=>?_;go_simp;refine cm HC.out ?_;rintro e wc ⟨⟨vc,rfl,pc,rfl⟩,hpc,he,ha⟩;have HAc:=hide (HA.out.drew.next ha)
   have HOc:=hide (HOP.out.stay (((Ap.refl c.P wm.heap.size wm).drew).next ha) HLT.out);have HHY:Hid (CallBad _ _ _ _ _ _ _ wc pc):=CallBad.mk HAc.out hpc HOc.out he;obtain⟨gc3,gcf,gcl⟩:=HOc.out.cell
   have gcl1:w.heap.size<wc.heap.size+1:=by omega
   have gcl2:w.heap.size<wc.heap.size+2:=by omega
   have gcl3:w.heap.size<wc.heap.size+1+1:=by omega
   clear ha hpc;exact zbdd
  ·go_simp;refine cm HC.out ?_;rintro e wc ⟨⟨vc,rfl,pc,rfl⟩,hpc,he,ha⟩;have HAc:=hide (HA.out.drew.next ha);have HOc:=hide (HOP.out.stay (((Ap.refl c.P wm.heap.size wm).drew).next ha) HLT.out)
   have HHY:Hid (CallBad _ _ _ _ _ _ _ wc pc):=CallBad.mk HAc.out hpc HOc.out he;obtain⟨gc3,gcf,gcl⟩:=HOc.out.cell;have gcl1:w.heap.size<wc.heap.size+1:=by omega
   have gcl2:w.heap.size<wc.heap.size+2:=by omega
   have gcl3:w.heap.size<wc.heap.size+1+1:=by omega
   clear ha hpc;exact zbba
 ):G:=h
theorem zrqdw.zrdsX {G:Prop}(h:G:=by
  clear c0 c1 c2 c3 cf cf3 hnl;clear hc0
  refine viaB (H:=fun wm _=>∃ er pl,r=.bad er pl∧Calls Tryz.prog 186 #[pPtr c,.int .i64 (d:Int),.bool false] wm.drew (NPost c wm.drew er pl ZN)∧Open w.heap.size wm (.mk 12 noText 0 [b]) w.heap.size (.slice (some ⟨wv.heap.size,0,none⟩) 1 1) [q]∧Ap c.P w.heap.size w wm) (G:=?GB) (fun CONTB=>?_) ?_
  rotate_left
  ·have HC:=hide (rmust_any c w6 (j+1) tOpen (by decide) HP.out);go_wp2_with fail;refine cm HC.out ?_;intro e w8 hp;clear HC
   cases hr:mustP c.l tOpen (j+1) with
   | out=>rw[hr] at HQ1;exact absurd HQ1.out HO.out
   | bad er pl=>
    rw[hr] at hp HQ1;have hq:r=.bad er pl:=unhide HQ1;have HQB:=hide hq;clear hq;obtain⟨⟨v,rfl,rfl⟩,⟨jm,hp2⟩,he,ha⟩:=hp;clear hr HQ1;replace HOP:=hide (HOP.out.stay ha HLT.out)
    replace HA:=hide (HA.out.next ha);replace HP:=hide hp2;clear hp2 ha;have HC:=hide ((rident_old c _ jm _ _ he HP.out).mono (fun e w' h=>(⟨⟨_,h.1⟩,h.2⟩:(∃ s,e=.returned (.string s))∧w'=w8)))
    go_wp2_with fail;refine cm HC.out ?_;rintro e wi ⟨⟨s,rfl⟩,rfl⟩;clear HC;exact zccl
   | ok x1 k1=>
    rw[hr] at hp HQ1
    have HQ2:Hid (r=(nameP c.l k1).bind fun s i2=>(mustP c.l tShut i2).bind fun _ i3=>(blockP c.l F d i3).bind fun b2 i4=>(finallyP c.l F d i4).bind fun f i5=>.ok (.mk 12 noText 0 (b :: .mk 13 s 0 [b2]::f)) i5):=unhide HQ1
    obtain⟨⟨v,rfl,rfl⟩,hp2,ha⟩:=hp;have HR1:=hide hr;clear hr HQ1;replace HOP:=hide (HOP.out.stay ha HLT.out);replace HA:=hide (HA.out.next ha);replace HP:=hide hp2;clear hp2 ha
    have HC:=hide (rident_any c w8 k1 HP.out);go_wp2_with fail;refine cm HC.out ?_;intro e w9 hp;clear HC
    cases hr:nameP c.l k1 with
    | out=>rw[hr] at HQ2;exact absurd HQ2.out HO.out
    | bad er pl=>
     rw[hr] at hp HQ2;have hq:r=.bad er pl:=unhide HQ2;have HQB:=hide hq;clear hq;obtain⟨⟨v,rfl,s,rfl⟩,⟨jm,hp2⟩,he,ha⟩:=hp;clear hr HQ2;replace HOP:=hide (HOP.out.stay ha HLT.out)
     replace HA:=hide (HA.out.next ha);replace HP:=hide hp2;clear hp2 ha;exact zccl
    | ok s k2=>
     rw[hr] at hp HQ2
     have HQ3:Hid (r=(mustP c.l tShut k2).bind fun _ i3=>(blockP c.l F d i3).bind fun b2 i4=>(finallyP c.l F d i4).bind fun f i5=>.ok (.mk 12 noText 0 (b :: .mk 13 s 0 [b2]::f)) i5):=unhide HQ2
     obtain⟨⟨v,rfl,rfl⟩,hp2,ha⟩:=hp;have HR2:=hide hr;clear hr HQ2;replace HOP:=hide (HOP.out.stay ha HLT.out);replace HA:=hide (HA.out.next ha);replace HP:=hide hp2;clear hp2 ha
     have HC:=hide (rmust_any c w9 k2 tShut (by decide) HP.out);go_wp2_with fail;refine cm HC.out ?_;intro e wm hp;clear HC
     cases hr:mustP c.l tShut k2 with
     | out=>rw[hr] at HQ3;exact absurd HQ3.out HO.out
     | bad er pl=>
      rw[hr] at hp HQ3;have hq:r=.bad er pl:=unhide HQ3;have HQB:=hide hq;clear hq;obtain⟨⟨v,rfl,rfl⟩,⟨jm,hp2⟩,he,ha⟩:=hp;clear hr HQ3;replace HOP:=hide (HOP.out.stay ha HLT.out)
      replace HA:=hide (HA.out.next ha);replace HP:=hide hp2;clear hp2 ha;exact zbec
     | ok x3 k3=>
      rw[hr] at hp HQ3;have HQ4:Hid (r=(blockP c.l F d k3).bind fun b2 i4=>(finallyP c.l F d i4).bind fun f i5=>.ok (.mk 12 noText 0 (b :: .mk 13 s 0 [b2]::f)) i5):=unhide HQ3
      obtain⟨⟨v,rfl,rfl⟩,hp2,ha⟩:=hp;have HR3:=hide hr;clear hr HQ3;replace HOP:=hide (HOP.out.stay ha HLT.out);replace HA:=hide (HA.out.next ha);replace HP:=hide hp2;clear hp2 ha
      cases hr:blockP c.l F d k3 with
      | out=>rw[hr] at HQ4;exact absurd HQ4.out HO.out
      | ok b2 k4=>exact(unhide HNO k3 b2 k4 hr s k1 k2 HR1.out HR2.out HR3.out).elim
      | bad er pl=>
       have HC:=hide (rbraces_any HF.out HNN.out HKK.out false wm.drew d k3 _ hd hr.symm (by nofun) HP.out.drew);rw[hr] at HQ4;have hq:r=.bad er pl:=unhide HQ4;have HQB:=hide hq;clear hq;clear hr HQ4
       go_wp2_with fail;exact CONTB wm s ⟨er,pl,HQB.out,HC.out,HOP.out,HA.out⟩
  ·intro wm s hB;obtain⟨er,pl,hq,hC,hO,hA⟩:=hB;subst hq;have HC:=hide hC;have HOP2:=hide hO;have HA2:=hide hA;clear hC hO hA HA HP HQ1;clear HOP;have HOP:=HOP2;have HA:=HA2;clear HOP2 HA2
   obtain⟨hc3,hcf,hcl⟩:=HOP.out.cell;refine via2 (H:=CallBad c w (.mk 12 noText 0 [b]) (.slice (some ⟨wv.heap.size,0,none⟩) 1 1) [q] er pl) (G:=?G2) (fun CONT=>?_) ?_;rotate_left
   ·exact zrcq
   ·exact zrcn
 ):G:=h
theorem zrqdw.zrnX {G:Prop}(h:G:=by
  have HC3:=hide (rskip_yes c _ j tCatch (by decide) hx HP.out);exact zrds
 ):G:=h
theorem zrqdw.zrekX {G:Prop}(h:G:=by
  exact zrn
 ):G:=h
theorem zrqdw.zrbdX {G:Prop}(h:G:=by
  exact zrek
 ):G:=h
theorem zrqdw.zrbX {G:Prop}(h:G:=by
  exact zrbd
 ):G:=h
end Go.Proofs.YtoimgcjbcbhclaaGreatDoor
