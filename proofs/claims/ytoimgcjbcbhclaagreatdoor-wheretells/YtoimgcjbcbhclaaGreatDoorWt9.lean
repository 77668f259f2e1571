/-
  Parts of proofs that stand more than once.
-/
import Derived.Test.YtoimgcjbcbhclaaGreatDoorWt8
set_option maxRecDepth 100000
set_option maxHeartbeats 16000000
namespace Go.Proofs.YtoimgcjbcbhclaaGreatDoor
open Go.RowKit
theorem zrqdw.zrvX {G:Prop}(h:G:=by
  have n4:¬ fx c.l i=tWhile:=by rw[hf];decide
  have n5:¬ fx c.l i=tWith:=by rw[hf];decide
  have HNO:=hide hno;clear hno;have HQ:=hide hs;clear hs;exact zrb
 ):G:=h
theorem zrqdx.zrclX {G:Prop}(h:G:=by
  have HEV:=hide (Open.push2 (x:=.mk 14 noText 0 [b3]) HOn.out (HOP.out.apart2 HSZ.out (Nat.le_refl _) (NAts.cons (nv_at (nv_row HHY.out.nd HHY.out.sz (by simp[maxLen]) #[nPtr pc] rfl 1 rfl 14 noText 0 _ rfl).nv) NAts.nil) ((HHY.out.kb.alloc _).alloc _)) rfl hown3 hgr3 (hg3.imp id fun e=>by rw[e];simp))
  have HBW:∀ v,Hid (Below w.heap.size wc (w3.setCell ⟨w.heap.size,3,none⟩ v)):=fun v=>HHY.out.op.grows ((((Below.refl _ wc).alloc hsz _).alloc (by simp;omega) _).alloc (by simp;omega) _) (by simp;omega) hgr3
  have hB3:Below wc.heap.size wc _:=(((Below.refl wc.heap.size wc).alloc (Nat.le_refl _) (.cells #[nPtr pc] 22)).alloc (by simp) (nodeObj 14 noText 0 (.slice (some ⟨wc.heap.size,0,none⟩) 1 1))).alloc (by simp <;> omega) (.cells #[nPtr (wc.heap.size+1)] 22)
  have hbb:w3.heap[w.heap.size]? = wc.heap[w.heap.size]?:=(hgr3.block w.heap.size (by simp;omega) (fun e=>HHY.out.op.own e.symm)).trans (hB3.block w.heap.size gcl)
  have HNW:∀ v,Hid ((w3.setCell ⟨w.heap.size,3,none⟩ v).heap[w.heap.size]? = some (nodeObj 12 noText 0 v)):=fun v=>by
   show _=_
   rw[heap_set (hbb.trans HHY.out.op.blk)];rfl
  have hp3:w3.cell? ⟨w.heap.size,3,none⟩=wc.cell? ⟨w.heap.size,3,none⟩∧w3.frozen? ⟨w.heap.size,3,none⟩=wc.frozen? ⟨w.heap.size,3,none⟩:=⟨World.cell?_of_block (w:=wc) hbb,World.frozen?_of_block (w:=wc) hbb⟩
  obtain⟨hp3c,hp3f⟩:=hp3;rw[gc3] at hp3c;rw[gcf 3] at hp3f;clear hown3 hgr3 hg3 hB3 hbb;exact zbdx
 ):G:=h
theorem zrqdx.zrcgX {G:Prop}(h:G:=by
  have hB3:Below wc.heap.size wc _:=(((Below.refl wc.heap.size wc).alloc (Nat.le_refl _) (.cells #[nPtr pc] 22)).alloc (by simp) (nodeObj 14 noText 0 (.slice (some ⟨wc.heap.size,0,none⟩) 1 1))).alloc (by simp <;> omega) (.cells #[nPtr (wc.heap.size+1)] 22)
  have hbb:w3.heap[w.heap.size]? = wc.heap[w.heap.size]?:=(hgr3.block w.heap.size (by simp;omega) (fun e=>HHY.out.op.own e.symm)).trans (hB3.block w.heap.size gcl)
  have HNW:∀ v,Hid ((w3.setCell ⟨w.heap.size,3,none⟩ v).heap[w.heap.size]? = some (nodeObj 12 noText 0 v)):=fun v=>by
   show _=_
   rw[heap_set (hbb.trans HHY.out.op.blk)];rfl
  have hp3:w3.cell? ⟨w.heap.size,3,none⟩=wc.cell? ⟨w.heap.size,3,none⟩∧w3.frozen? ⟨w.heap.size,3,none⟩=wc.frozen? ⟨w.heap.size,3,none⟩:=⟨World.cell?_of_block (w:=wc) hbb,World.frozen?_of_block (w:=wc) hbb⟩
  obtain⟨hp3c,hp3f⟩:=hp3;rw[gc3] at hp3c;rw[gcf 3] at hp3f;clear hown3 hgr3 hg3 hB3 hbb;exact zbdl
 ):G:=h
theorem zrqdx.zrcxX {G:Prop}(h:G:=by
  refine wr2 4 7 (fun K hK=>?_) fun K hK=>?_
  ·go_simp;refine hK _ _ ?_;clear hK K;refine wr1 7 fun K hK=>?_;go_simp;refine cm HC.out ?_;rintro e wc ⟨⟨vc,rfl,pc,rfl⟩,hpc,he,ha⟩;have HAc:=hide (HA.out.drew.next ha)
   have HOc:=hide (HOP.out.stay (((Ap.refl c.P wf.heap.size wf).drew).next ha) HLT.out);exact zcbf
  ·go_simp;refine cm HC.out ?_;rintro e wc ⟨⟨vc,rfl,pc,rfl⟩,hpc,he,ha⟩;have HAc:=hide (HA.out.drew.next ha);have HOc:=hide (HOP.out.stay (((Ap.refl c.P wf.heap.size wf).drew).next ha) HLT.out);exact zcbg
 ):G:=h
theorem zrqdx.zrbzX {G:Prop}(h:G:=by
  have HPC:=hide (HHY.out.ps.ap (unhide (HBW (.slice (some ⟨g,0,none⟩) 2 cap))) HLO.out);have HAC:=hide (HHY.out.ap.trans (Ap.of (unhide (HBW (.slice (some ⟨g,0,none⟩) 2 cap)))))
  obtain⟨qs,hOq⟩:=Open.of_ev HEV.out (unhide (HNW (.slice (some ⟨g,0,none⟩) 2 cap)));obtain⟨q1,q2,rfl⟩:∃ q1 q2,qs=[q1,q2]:=by
   have hql:qs.length=2:=NAts.length _ _ hOq.kids
   match qs,hql with
   | [a,b],_=>exact⟨a,b,rfl⟩
  have HOQ:Hid (Open w.heap.size (w3.setCell ⟨w.heap.size,3,none⟩ (.slice (some ⟨g,0,none⟩) 2 cap)) (.mk 12 noText 0 [b,.mk 13 s 0 [b2]]) w.heap.size (.slice (some ⟨g,0,none⟩) 2 cap) [q1,q2]):=hOq
  clear hOq HBW HNW hp3c hp3f HOP HP HA HSZ HOn HEV
  by_cases hf0:fx c.l k4=tFinally
  ·have HQ3:Hid (r=(blockP c.l F d (k4+1)).bind fun b3 i6=>.ok (.mk 12 noText 0 [b,.mk 13 s 0 [b2],.mk 14 noText 0 [b3]]) i6):=by
    have h1:=unhide HQ2;unfold finallyP at h1;rw[if_pos hf0] at h1;rw[h1]
    cases blockP c.l F d (k4+1) <;> rfl
   have HC9:=hide (rskip_yes c _ k4 tFinally (by decide) hf0 HPC.out);clear hf0 HQ2 HHY hc3 hcf hcl;go_wp2_with fail;refine cm HC9.out ?_;rintro e wf ⟨rfl,hp6,ha6⟩;have HA:=hide (HAC.out.next ha6)
   have HP:=hide hp6;have HOP:=hide (HOQ.out.stay ha6 HLT.out);clear hp6 ha6 HC9 HAC HPC HOQ;obtain⟨hc3,hcf,hcl⟩:=HOP.out.cell
   cases hr:blockP c.l F d (k4+1) with
   | out=>rw[hr] at HQ3;exact absurd HQ3.out HO.out
   | bad er pl=>
    have HC:=hide (rbraces_any HF.out HNN.out HKK.out false wf.drew d (k4+1) _ hd hr.symm (by nofun) HP.out.drew);rw[hr] at HQ3;have hq:r=.bad er pl:=unhide HQ3;subst hq;clear hr HQ3;go_wp2_with fail
    refine via2 (H:=CallBad c w (.mk 12 noText 0 [b,.mk 13 s 0 [b2]]) (.slice (some ⟨g,0,none⟩) 2 cap) [q1,q2] er pl) (G:=?G1) (fun CONT=>?_) ?_;rotate_left
    ·exact zrcx
    ·exact zrcg
   | ok b3 k6=>
    have HC:=hide (rbraces_any HF.out HNN.out HKK.out false wf.drew d (k4+1) _ hd hr.symm (by nofun) HP.out.drew);rw[hr] at HQ3
    have hq:r=.ok (.mk 12 noText 0 [b,.mk 13 s 0 [b2],.mk 14 noText 0 [b3]]) k6:=unhide HQ3;subst hq;clear hr HQ3;go_wp2_with fail;have HSZ:=hide HA.out.size
    refine via2 (H:=CallOk c w wf.heap.size (.mk 12 noText 0 [b,.mk 13 s 0 [b2]]) (.slice (some ⟨g,0,none⟩) 2 cap) [q1,q2] b3 k6) (G:=?G2) (fun CONT=>?_) ?_;rotate_left
    ·refine wp_region_any (by kernel_rfl) ?_;change wpAny _ _ _ _ _ _ _ (World.drew _);refine wt 0 (nPtr w.heap.size) ?_;refine wt 1 (nPtr w.heap.size) ?_;refine wt 2 (nPtr w.heap.size) ?_
     refine wt 3 (.pointer (some ⟨w.heap.size,3,none⟩)) ?_;refine wt 5 (pPtr c) ?_;refine wt 6 (.int .i64 (d:Int)) ?_;refine wr2 4 7 (fun K hK=>?_) fun K hK=>?_
     ·go_simp;refine hK _ _ ?_;clear hK K;refine wr1 7 fun K hK=>?_;go_simp;refine cm HC.out ?_;rintro e wc ⟨⟨vc,rfl,pc,rfl,hnc⟩,hpc,ha⟩;have HAc:=hide (HA.out.drew.next ha)
      have HOc:=hide (HOP.out.stay (((Ap.refl c.P wf.heap.size wf).drew).next ha) HLT.out)
      have HHY:Hid (CallOk _ _ _ _ _ _ _ _ wc pc):=CallOk.mk (Z:=wf.heap.size) HAc.out hpc HOc.out (NAts.cons hnc NAts.nil) ha.size (HOP.out.kb (((Ap.refl c.P wf.heap.size wf).drew).next ha) HLT.out);exact zcbm
     ·go_simp;refine cm HC.out ?_;rintro e wc ⟨⟨vc,rfl,pc,rfl,hnc⟩,hpc,ha⟩;have HAc:=hide (HA.out.drew.next ha);have HOc:=hide (HOP.out.stay (((Ap.refl c.P wf.heap.size wf).drew).next ha) HLT.out)
      have HHY:Hid (CallOk _ _ _ _ _ _ _ _ wc pc):=CallOk.mk (Z:=wf.heap.size) HAc.out hpc HOc.out (NAts.cons hnc NAts.nil) ha.size (HOP.out.kb (((Ap.refl c.P wf.heap.size wf).drew).next ha) HLT.out);exact zcbn
    ·exact zrcl
  ·have hq:r=.ok (.mk 12 noText 0 [b,.mk 13 s 0 [b2]]) k4:=by
    have h1:=unhide HQ2;unfold finallyP at h1;rw[if_neg hf0] at h1;exact h1
   subst hq;have HC9:=hide (rskip_no c _ k4 tFinally (by decide) hf0 HPC.out);clear hf0 HQ2;go_wp2_with fail;refine cm HC9.out ?_;rintro e wy ⟨rfl,hb⟩;have HA2:=hide (HAC.out.next (Ap.of hb))
   have HP2:=hide (HPC.out.later hb);have HO2:=hide (HOQ.out.stay (Ap.of hb) HLT.out);clear hb HC9;obtain⟨z3,zf,zl⟩:=HO2.out.cell;go_wp2_with fail;go_ret;exact⟨⟨_,rfl,HO2.out.nv⟩,HP2.out,HA2.out⟩
 ):G:=h
theorem zrqdx.zrcnX {G:Prop}(h:G:=by
  have HEV:=hide (Open.push2 (x:=.mk 13 s 0 [b2]) HOn.out (HOP.out.apart2 HSZ.out (Nat.le_refl _) (NAts.cons (nv_at (nv_row HHY.out.nd HHY.out.sz (by simp[maxLen]) #[nPtr pc] rfl 1 rfl 13 s 0 _ rfl).nv) NAts.nil) ((HHY.out.kb.alloc _).alloc _)) rfl hown3 hgr3 (hg3.imp id fun e=>by rw[e];simp))
  exact zrbz
 ):G:=h
theorem zrqdx.zrcqX {G:Prop}(h:G:=by
  refine wt 5 (.string s) ?_;refine wt 6 (pPtr c) ?_;refine wt 7 (.int .i64 (d:Int)) ?_;refine wr2 4 8 (fun K hK=>?_) fun K hK=>?_
  ·go_simp;refine hK _ _ ?_;clear hK K;refine wr1 8 fun K hK=>?_;go_simp;refine cm HC.out ?_;rintro e wc ⟨⟨vc,rfl,pc,rfl,hnc⟩,hpc,ha⟩;have HAc:=hide (HA.out.drew.next ha)
   have HOc:=hide (HOP.out.stay (((Ap.refl c.P wm.heap.size wm).drew).next ha) HLT.out)
   have HHY:Hid (CallOk _ _ _ _ _ _ _ _ wc pc):=CallOk.mk (Z:=wm.heap.size) HAc.out hpc HOc.out (NAts.cons hnc NAts.nil) ha.size (HOP.out.kb (((Ap.refl c.P wm.heap.size wm).drew).next ha) HLT.out)
   obtain⟨gc3,gcf,gcl⟩:=HOc.out.cell;have gcl1:w.heap.size<wc.heap.size+1:=by omega
   have gcl2:w.heap.size<wc.heap.size+2:=by omega
   have gcl3:w.heap.size<wc.heap.size+1+1:=by omega
   clear ha hpc hnc;exact zbdd
  ·go_simp;refine cm HC.out ?_;rintro e wc ⟨⟨vc,rfl,pc,rfl,hnc⟩,hpc,ha⟩;have HAc:=hide (HA.out.drew.next ha);have HOc:=hide (HOP.out.stay (((Ap.refl c.P wm.heap.size wm).drew).next ha) HLT.out)
   have HHY:Hid (CallOk _ _ _ _ _ _ _ _ wc pc):=CallOk.mk (Z:=wm.heap.size) HAc.out hpc HOc.out (NAts.cons hnc NAts.nil) ha.size (HOP.out.kb (((Ap.refl c.P wm.heap.size wm).drew).next ha) HLT.out)
   obtain⟨gc3,gcf,gcl⟩:=HOc.out.cell;have gcl1:w.heap.size<wc.heap.size+1:=by omega
   have gcl2:w.heap.size<wc.heap.size+2:=by omega
   have gcl3:w.heap.size<wc.heap.size+1+1:=by omega
   clear ha hpc hnc;exact zbba
 ):G:=h
theorem zrqdx.zrdsX {G:Prop}(h:G:=by
  clear c0 c1 c2 c3 cf cf3 hnl;clear hc0;have HC:=hide (rmust_any c w6 (j+1) tOpen (by decide) HP.out);go_wp2_with fail;refine cm HC.out ?_;intro e w8 hp;rw[hr1] at hp;obtain⟨⟨v,rfl,rfl⟩,hp2,ha⟩:=hp
  clear HC;replace HOP:=hide (HOP.out.stay ha HLT.out);replace HA:=hide (HA.out.next ha);replace HP:=hide hp2;clear hp2 ha;have HC:=hide (rident_any c w8 k1 HP.out);go_wp2_with fail;refine cm HC.out ?_
  intro e w9 hp;rw[hr2] at hp;obtain⟨⟨v,rfl,rfl⟩,hp2,ha⟩:=hp;clear HC;replace HOP:=hide (HOP.out.stay ha HLT.out);replace HA:=hide (HA.out.next ha);replace HP:=hide hp2;clear hp2 ha
  have HC:=hide (rmust_any c w9 k2 tShut (by decide) HP.out);go_wp2_with fail;refine cm HC.out ?_;intro e wm hp;rw[hr3] at hp;obtain⟨⟨v,rfl,rfl⟩,hp2,ha⟩:=hp;clear HC
  replace HOP:=hide (HOP.out.stay ha HLT.out);replace HA:=hide (HA.out.next ha);replace HP:=hide hp2;clear hp2 ha;obtain⟨hc3,hcf,hcl⟩:=HOP.out.cell
  have HC:=hide (rbraces_any HF.out HNN.out HKK.out false wm.drew d k3 _ hd hr4.symm (by nofun) HP.out.drew)
  have HQ2:Hid (r=(finallyP c.l F d k4).bind fun f i5=>.ok (.mk 12 noText 0 (b :: .mk 13 s 0 [b2]::f)) i5):=by
   have h1:=unhide HQ1;rw[hr1,bind_ok,hr2,bind_ok,hr3,bind_ok,hr4,bind_ok] at h1;exact h1
  clear HQ1 hr1 hr2 hr3 hr4;go_wp2_with fail;have HSZ:=hide HA.out.size
  refine via2 (H:=CallOk c w wm.heap.size (.mk 12 noText 0 [b]) (.slice (some ⟨wv.heap.size,0,none⟩) 1 1) [q] b2 k4) (G:=?G3) (fun CONT=>?_) ?_;rotate_left
  ·exact zrcq
  ·exact zrcn
 ):G:=h
theorem zrqdx.zrnX {G:Prop}(h:G:=by
  have HC3:=hide (rskip_yes c _ j tCatch (by decide) hx HP.out);exact zrds
 ):G:=h
theorem zrqdx.zrekX {G:Prop}(h:G:=by
  exact zrn
 ):G:=h
theorem zrqdx.zrbdX {G:Prop}(h:G:=by
  exact zrek
 ):G:=h
theorem zrqdx.zrbX {G:Prop}(h:G:=by
  exact zrbd
 ):G:=h
theorem zrqdx.zrvX {G:Prop}(h:G:=by
  exact zead
 ):G:=h
theorem zrqdy.zrbvX {G:Prop}(h:G:=by
  have HP5:=hide (HP4.out.ap (((Below.refl w.heap.size w4).alloc hsz (.cells #[nPtr p4] 22)).grown hgrow (by simp;omega) (fun k hk=>(unhide HOB k hk).2)) HLO.out)
  have HALL2:Hid (∀ u ∈ acc++[t],u.kd=15→∃ x y,u.kids=x::y):=by
   exact zbhm
  clear hown' hgrow hg HKK HOWN;go_wp2_with fail
  go_roundg k
  case measure=>omega
  case rel=>exact Or.inl ⟨acc++[t],j2,HQQ.out,HK5.out,HP5.out,HA5.out,by simp;omega,HALL2.out⟩
 ):G:=h
theorem zrqdy.zrdrX {G:Prop}(h:G:=by
  exact zrbv
 ):G:=h
theorem zrqdy.zregX {G:Prop}(h:G:=by
  have HC3:=hide (rmust_any c w3 j tRBrace (by decide) (HP1.out.later hb3));clear hb3 HC2 HP1 HA1 HK1;go_wp2_with fail;refine cm HC3.out ?_;intro e w4 hp
  have hmm:mustP c.l tRBrace j=.ok () (j+1):=by unfold mustP;rw[if_pos HX.out]
  rw[hmm] at hp;obtain⟨⟨v,rfl,rfl⟩,hp4,ha4⟩:=hp;have HP4:=hide hp4;have HA4:=hide (HA3.out.next ha4);have HK4:=hide (KV.later HK3.out ha4 HLT.out);clear hp4 ha4 hmm HC3 HP3 HA3 HK3
  cases body with
  | false=>
   have hq:r=.ok (.mk 6 noText 0 acc) (j+1):=HQ.out.symm;subst hq;go_wp2_with fail;go_ret;refine⟨⟨_,rfl,(EV.new HK4.out HA4.out.size 6 noText 0).nv⟩,HP4.out.alloc _,HA4.out.alloc HA4.out.size _⟩
  | true=>
   have hq:r=.ok (.mk 6 (strictS acc) 0 acc) (j+1):=by rw[←codeT_block];exact HQ.out.symm
   subst hq;have HC5:=hide (rok_new (HP4.out.alloc (nodeObj 6 noText 0 (.slice va acc.length vc))))
   have HC6:=hide (strict_any (KV.later HK4.out (Ap.of (R:=c.P) ((Below.refl _ _).alloc (Nat.le_refl _) (nodeObj 6 noText 0 (.slice va acc.length vc)))) HLT.out) HALL.out (by omega))
   have hc1:(w4.alloc (nodeObj 6 noText 0 (.slice va acc.length vc))).cell? ⟨w4.heap.size,1,none⟩=some (.string noText):=by rw[cell_of (heap_new _ _)];rfl
   have hf1:(w4.alloc (nodeObj 6 noText 0 (.slice va acc.length vc))).frozen? ⟨w4.heap.size,1,none⟩=false:=frozen_of (heap_new _ _) 1;go_wp2_with fail;refine cm HC5.out ?_;rintro e w5 ⟨rfl,rfl⟩;clear HC5
   go_wp2_with fail;refine cm HC6.out ?_;rintro e w6 ⟨rfl,rfl⟩;clear HC6;go_wp2_with fail;go_ret;exact⟨⟨_,rfl,(EV.new HK4.out HA4.out.size 6 (strictS acc) 0).nv⟩,HP4.out.alloc _,HA4.out.alloc HA4.out.size _⟩
 ):G:=h
theorem zrqdz.zregX {G:Prop}(h:G:=by
  have HKW3:=hide (HPC.out.stays _ _ HKW.out HP1.out.rlt (Ap.of hb3));clear hb3 HC2 HP1 HA1 HK1 HKW
  by_cases h0:acc.length=0
  ·have hgt:decide ((0:Int)<(acc.length:Int))=false:=by rw[h0];rfl
   have hgt2:decide (0<acc.length)=false:=by rw[h0];rfl
   have h8:((acc.length:Int)==8)=false:=by rw[h0];rfl
   rw[if_pos h0] at HQ;have HQ':Hid ((if acc.length=8 then badF c.l 4 j else (part j).bind fun t i2=>rlistLoop c.l s part k (acc++[t]) i2)=r):=unhide HQ;rw[if_neg (by omega)] at HQ';clear HQ
   have HQ:=HQ';have HLE8:Hid (acc.length<8):=by show _<_;omega
   clear HQ' h0;have HCo:=hide (rok_new HP3.out);go_wp2_with fail;refine cm HCo.out ?_;rintro e wo ⟨rfl,rfl⟩;clear HCo
   cases hr:part j with
   | out=>
    rw[hr] at HQ;exact absurd HQ.out.symm HO.out
   | bad er pl=>
    have HRR:=hide hr;rw[hr] at HQ;have hq:r=.bad er pl:=HQ.out.symm;have HQQ:=hide hq;have HC5:=hide (HPC.out.does wo j _ HKW3.out HRR.out.symm (by nofun) HP3.out);clear hr hq HQ;go_wp2_with fail
    refine cm HC5.out ?_;rintro e w4 ⟨⟨v,rfl,p4,rfl⟩,hp4,he,ha4⟩;have HP4:=hide hp4;have HA4:=hide (HA3.out.next ha4);have HK4:=hide (KV.later HK3.out ha4 HLT.out);clear hp4 ha4 HC5 HP3 HA3 HK3;exact zbbe
   | ok t j2=>
    have HRR:=hide hr;rw[hr] at HQ;have hq:rlistLoop c.l s part k (acc++[t]) j2=r:=unhide HQ;have HQQ:=hide hq;have HC5:=hide (HPC.out.does wo j _ HKW3.out HRR.out.symm (by nofun) HP3.out)
    clear hr hq HQ;go_wp2_with fail;refine cm HC5.out ?_;rintro e w4 ⟨⟨v,rfl,p4,rfl,hn4⟩,hp4,ha4⟩;have HP4:=hide hp4;have HA4:=hide (HA3.out.next ha4);have HK4:=hide (KV.later HK3.out ha4 HLT.out)
    have HN4:=hide (apart_at HK3.out HA3.out.size ha4 HLT.out hn4);have HKW4:=hide (HPC.out.stays _ _ HKW3.out HP3.out.rlt ha4);clear hn4;clear hp4 ha4 HC5 HP3 HA3 HK3;exact zbbf
  ·have hgt:decide ((acc.length:Int) > 0)=true:=by simp;omega
   rw[if_neg h0] at HQ;have HC4:=hide (rmust_any c w3 j tComma (by decide) HP3.out);go_wp2_with fail;refine cm HC4.out ?_;intro e w6 hp
   cases hm:mustP c.l tComma j with
   | out=>rw[hm] at HQ;exact absurd HQ.out.symm HO.out
   | bad er pl=>
    rw[hm] at hp HQ;have hq:r=.bad er pl:=HQ.out.symm;obtain⟨⟨v,rfl,rfl⟩,⟨j6,hp6⟩,he,ha6⟩:=hp;have HQQ:=hide hq;have HP6:=hide hp6;have HA6:=hide (HA3.out.next ha6)
    have HK6:=hide (KV.later HK3.out ha6 HLT.out);clear hp6 ha6 hm HC4 hq HQ
    by_cases h8:acc.length=8
    ·have h8':((acc.length:Int)==8)=true:=by rw[h8];rfl
     have HC7:=hide (rfail_old c w6 j6 er pl 4 he HP6.out);go_wp2_with fail;refine cm HC7.out ?_;rintro e w7 ⟨⟨v,rfl,q,rfl⟩,⟨j7,hp7⟩,_,ha7⟩;have HC8:=hide (rok_old he hp7);have HP7:=hide hp7
     have HA7:=hide (HA6.out.next ha7);have HK7:=hide (KV.later HK6.out ha7 HLT.out);clear hp7 ha7 HC7;go_wp2_with fail;refine cm HC8.out ?_;rintro e w8 ⟨rfl,rfl⟩;clear HC8;go_wp2_with fail
     go_roundg k
     case measure=>omega
     case rel=>exact Or.inr ⟨er,pl,HQQ.out,he,⟨j7,HP7.out⟩,HA7.out,RowZ.of (by have hk:=unhide HK7;rw[h8] at hk;exact hk) hle⟩
    ·have h8':((acc.length:Int)==8)=false:=beq_eq_false_iff_ne.2 (by omega);have HC8:=hide (rok_old he HP6.out);go_wp2_with fail;refine cm HC8.out ?_;rintro e w8 ⟨rfl,rfl⟩;clear HC8;go_wp2_with fail
     go_roundg k
     case measure=>omega
     case rel=>exact Or.inr ⟨er,pl,HQQ.out,he,⟨j6,HP6.out⟩,HA6.out,RowZ.of HK6.out hle⟩
   | ok x6 j6=>
    rw[hm] at hp HQ;obtain⟨⟨v,rfl,rfl⟩,hp6,ha6⟩:=hp;have HQ':Hid ((if acc.length=8 then badF c.l 4 j6 else (part j6).bind fun t i2=>rlistLoop c.l s part k (acc++[t]) i2)=r):=unhide HQ;clear HQ
    have HQ:=HQ';clear HQ';have HP6:=hide hp6;have HA6:=hide (HA3.out.next ha6);have HK6:=hide (KV.later HK3.out ha6 HLT.out);have HKW6:=hide (HPC.out.stays _ _ HKW3.out HP3.out.rlt ha6)
    clear hp6 ha6 hm HC4 HP3 HA3 HK3 HKW3
    by_cases h8:acc.length=8
    ·have h8':((acc.length:Int)==8)=true:=by rw[h8];rfl
     rw[if_pos h8] at HQ;have HC7:=hide (rfail_new c w6 j6 4 (by decide) HP6.out);go_wp2_with fail;refine cm HC7.out ?_;rintro e w7 ⟨⟨v,rfl,q,rfl⟩,⟨j7,hp7⟩,he,ha7⟩;have HC8:=hide (rok_old he hp7)
     have HP7:=hide hp7;have HA7:=hide (HA6.out.next ha7);have HK7:=hide (KV.later HK6.out ha7 HLT.out);clear hp7 ha7 HC7;go_wp2_with fail;refine cm HC8.out ?_;rintro e w8 ⟨rfl,rfl⟩;clear HC8
     go_wp2_with fail
     go_roundg k
     case measure=>omega
     case rel=>exact Or.inr ⟨4,(tkA c.l j6).pl,HQ.out.symm,by decide,⟨j7,HP7.out⟩,HA7.out,RowZ.of (by have hk:=unhide HK7;rw[h8] at hk;exact hk) hle⟩
    ·have h8':((acc.length:Int)==8)=false:=beq_eq_false_iff_ne.2 (by omega);rw[if_neg h8] at HQ;have HLE8:Hid (acc.length<8):=by show _<_;omega
     have HCo:=hide (rok_new HP6.out);go_wp2_with fail;refine cm HCo.out ?_;rintro e wo ⟨rfl,rfl⟩;clear HCo
     cases hr:part j6 with
     | out=>
      rw[hr] at HQ;exact absurd HQ.out.symm HO.out
     | bad er pl=>
      have HRR:=hide hr;rw[hr] at HQ;have hq:r=.bad er pl:=HQ.out.symm;have HQQ:=hide hq;have HC5:=hide (HPC.out.does wo j6 _ HKW6.out HRR.out.symm (by nofun) HP6.out);clear hr hq HQ;go_wp2_with fail
      refine cm HC5.out ?_;rintro e w4 ⟨⟨v,rfl,p4,rfl⟩,hp4,he,ha4⟩;have HP4:=hide hp4;have HA4:=hide (HA6.out.next ha4);have HK4:=hide (KV.later HK6.out ha4 HLT.out);clear hp4 ha4 HC5 HP6 HA6 HK6
      exact zbbe
     | ok t j2=>
      have HRR:=hide hr;rw[hr] at HQ;have hq:rlistLoop c.l s part k (acc++[t]) j2=r:=unhide HQ;have HQQ:=hide hq;have HC5:=hide (HPC.out.does wo j6 _ HKW6.out HRR.out.symm (by nofun) HP6.out)
      clear hr hq HQ;go_wp2_with fail;refine cm HC5.out ?_;rintro e w4 ⟨⟨v,rfl,p4,rfl,hn4⟩,hp4,ha4⟩;have HP4:=hide hp4;have HA4:=hide (HA6.out.next ha4);have HK4:=hide (KV.later HK6.out ha4 HLT.out)
      have HN4:=hide (apart_at HK6.out HA6.out.size ha4 HLT.out hn4);have HKW4:=hide (HPC.out.stays _ _ HKW6.out HP6.out.rlt ha4);clear hn4;clear hp4 ha4 HC5 HP6 HA6 HK6;exact zbbf
 ):G:=h
theorem zrqea.zrejX {G:Prop}(h:G:=by
  refine⟨fun _=>hS',ih (listed.setIfInBounds j true) a' w' (by rw[getD_set_ne false hjb];exact hnb) (fun m om hm hmi hun hno=>hfree m om hm hmi ?_ hno) (ready_mono hr (Ne.symm hji)) h3.1 hS' ?_⟩
  ·exact zbfv
  ·rw[Array.setIfInBounds_comm _ _ hji];exact h3.2.2
 ):G:=h
theorem zrqea.zrefX {G:Prop}(h:G:=by
  induction n with
  | zero=>
   intro listed a w hnb _ hr hy hS H;exact zbfn
  | succ n ih=>
   intro listed a w hnb hfree hr hy hS H;refine⟨fun h=>(by rw[h] at hr;cases hr),fun j hj=>?_⟩
   by_cases hji:j=i
   ·subst hji;exact hy.wpOp hi hS ⟨fun _=>hS,H⟩
   ·obtain⟨hjun,oj,hoj,hall⟩:=mem_ready.1 hj;have hnot:=waits (j:=j) (oj:=oj) hr hall;have hjb:j≠b:=fun e=>by
     subst e;rw[hob] at hoj;cases hoj;obtain⟨e,he,hb,hei⟩:=hw;exact hnot e he hb hei
    exact zrej
 ):G:=h
theorem zrqeb.zrejX {G:Prop}(h:G:=by
  refine⟨fun _=>hS',ih (listed.setIfInBounds j true) a' w' (by rw[getD_set_ne false hjb];exact hnb) (closed_set hcl hoj hall) (fun m om hm hmi hun hno=>hfree m om hm hmi ?_ hno) (ready_mono hr (Ne.symm hji)) h3.1 hS' ?_⟩
  ·exact zbfv
  ·rw[Array.setIfInBounds_comm _ _ hji];exact h3.2.2
 ):G:=h
theorem zrqeb.zrefX {G:Prop}(h:G:=by
  induction n with
  | zero=>
   intro listed a w hnb _ _ hr hy hS H;exact zbfn
  | succ n ih=>
   intro listed a w hnb hcl hfree hr hy hS H;refine⟨fun h=>(by rw[h] at hr;cases hr),fun j hj=>?_⟩
   by_cases hji:j=i
   ·subst hji;exact hy.wpOp hi hS ⟨fun _=>hS,H⟩
   ·obtain⟨hjun,oj,hoj,hall⟩:=mem_ready.1 hj;have hnot:=waits (j:=j) (oj:=oj) hr hall;have hjb:j≠b:=fun e=>by
     subst e;have h9:=closed_dep hcl k j oj hoj hall hw;have h0:=(mem_ready.1 hr).1
     cases hx:listed[i]? with
     | none=>simp[hx] at h9
     | some x=>simp[hx] at h0 h9;rw[h0] at h9;cases h9
    exact zrej
 ):G:=h
theorem zrqec.zrmX {G:Prop}(h:G:=by
  go_wp2_with fail;rw[←HW2.out];have HX0:Hid (w2.cell? ⟨w.heap.size,0,none⟩=some (.pointer oa)):=by show _=_;rw[cell_of HP2.out];rfl
  have HX1:Hid (w2.cell? ⟨w.heap.size,1,none⟩=some (.bool sb)):=by show _=_;rw[cell_of HP2.out];rfl
  have HK3:Hid (w2.cell? ⟨p,3,none⟩=some (.slice ka kn kc)):=keepC HB2.out HC3.out;have hS0:Below w2.heap.size w2 w2.drew:=(Below.refl _ _).drew
  refine wp_region_U 6 (fun X=>Below w2.heap.size w2 X) (by kernel_rfl) ?_;refine uh 0 (sPtr tb) hS0 ?_;refine uh 1 (nPtr p) hS0 ?_;refine uh 2 (nPtr p) hS0 ?_;refine uh 3 (.pointer (some ⟨p,3,none⟩)) hS0 ?_
  refine ug 4 (.slice ka kn kc) rfl (Or.inl ⟨by kernel_rfl,fun X hX=>by have h0:=keepC hX HK3.out;go_simp⟩) hS0 ?_
  refine ug 5 (plV2 (.pointer oa) sb) rfl (Or.inl ⟨by kernel_rfl,fun X hX=>by have h0:=keepC hX HX0.out;have h1:=keepC hX HX1.out;go_simp⟩) hS0 ?_
  exact zccm
 ):G:=h
theorem zrqec.zrxX {G:Prop}(h:G:=by
  go_wp2_with fail;rw[←HW2.out];have HX0:Hid (w2.cell? ⟨w.heap.size,0,none⟩=some (.pointer oa)):=by show _=_;rw[cell_of HP2.out];rfl
  have HX1:Hid (w2.cell? ⟨w.heap.size,1,none⟩=some (.bool true)):=by show _=_;rw[cell_of HP2.out];rfl
  have HK3:Hid (w2.cell? ⟨p,3,none⟩=some (.slice ka kn kc)):=keepC HB2.out HC3.out;have hS0:Below w2.heap.size w2 w2.drew:=(Below.refl _ _).drew
  refine wp_region_U 6 (fun X=>Below w2.heap.size w2 X) (by kernel_rfl) ?_;refine uh 0 (sPtr tb) hS0 ?_;refine uh 1 (nPtr p) hS0 ?_;refine uh 2 (nPtr p) hS0 ?_;refine uh 3 (.pointer (some ⟨p,3,none⟩)) hS0 ?_
  refine ug 4 (.slice ka kn kc) rfl (Or.inl ⟨by kernel_rfl,fun X hX=>by have h0:=keepC hX HK3.out;go_simp⟩) hS0 ?_
  refine ug 5 (plV2 (.pointer oa) true) rfl (Or.inl ⟨by kernel_rfl,fun X hX=>by have h0:=keepC hX HX0.out;have h1:=keepC hX HX1.out;go_simp⟩) hS0 ?_
  exact zccm
 ):G:=h
theorem zrqed.zrmX {G:Prop}(h:G:=by
  exact zbgk
 ):G:=h
theorem zrqed.zrxX {G:Prop}(h:G:=by
  exact zbgk
 ):G:=h
theorem zrqee.zrbxX {G:Prop}(h:G:=by
  refine uq1 11 fun K hK=>?_;exact zcag
 ):G:=h
theorem zrqee.zrbpX {G:Prop}(h:G:=by
  refine uh 7 (nPtr p) hS0 ?_;refine uq1 8 fun K hK=>?_;go_simp;refine cm (unhide HNM _ (HB2.out.trans (hS0.mono HB2.out.size))) ?_;rintro e w3 ⟨⟨u3,rfl,hr3'⟩,hb3⟩
  have hS3:Below w2.heap.size w2 w3:=hS0.trans (hb3.mono hS0.size);have hr3:SRow w2.heap.size w3 u3 N:=srow_mono hr3' hS0.size;obtain⟨a3,c3',rfl⟩:=srow_form hr3;refine hK.out _ _ (fun _=>hS3) ?_
  clear hK K hS0 hb3 hr3';refine uh 9 (.agg #[.int .i64 (no:Int),.slice a3 N.length c3',.bool false,.pointer none]) hS3 ?_;refine uq1 10 fun K hK=>?_;go_simp
  refine cm (in_any oa sb no a3 N.length c3' false none w3) ?_;exact zrbx
 ):G:=h
theorem zrqee.zrdtX {G:Prop}(h:G:=by
  exact zrbp
 ):G:=h
theorem zrqee.zrlX {G:Prop}(h:G:=by
  have HT2:Hid (w2.cell? ⟨tb,0,none⟩=some (.map (some mb))):=keepC HB2.out HT0.out;obtain⟨wd,hwd⟩:∃ wd,wd=w2.drew:=⟨_,rfl⟩;have hS0:Below w2.heap.size w2 wd:=by rw[hwd];exact(Below.refl _ _).drew
  refine wp_region_U 11 (fun X=>Below w2.heap.size w2 X) (by kernel_rfl) ?_;exact zrdt
 ):G:=h
theorem zrqee.zrbwX {G:Prop}(h:G:=by
  refine uq1 11 fun K hK=>?_;exact zcaf
 ):G:=h
theorem zrqee.zrbmX {G:Prop}(h:G:=by
  refine uh 7 (nPtr p) hS0 ?_;refine uq1 8 fun K hK=>?_;go_simp;refine cm (unhide HNM _ (HB2.out.trans (hS0.mono HB2.out.size))) ?_;rintro e w3 ⟨⟨u3,rfl,hr3'⟩,hb3⟩
  have hS3:Below w2.heap.size w2 w3:=hS0.trans (hb3.mono hS0.size);have hr3:SRow w2.heap.size w3 u3 N:=srow_mono hr3' hS0.size;obtain⟨a3,c3',rfl⟩:=srow_form hr3;refine hK.out _ _ (fun _=>hS3) ?_
  clear hK K hS0 hb3 hr3';refine uh 9 (.agg #[.int .i64 (no:Int),.slice a3 N.length c3',.bool false,.pointer none]) hS3 ?_;refine uq1 10 fun K hK=>?_;go_simp
  refine cm (in_any oa true no a3 N.length c3' false none w3) ?_;exact zrbw
 ):G:=h
theorem zrqee.zrtX {G:Prop}(h:G:=by
  have HT2:Hid (w2.cell? ⟨tb,0,none⟩=some (.map (some mb))):=keepC HB2.out HT0.out;obtain⟨wd,hwd⟩:∃ wd,wd=w2.drew:=⟨_,rfl⟩;have hS0:Below w2.heap.size w2 wd:=by rw[hwd];exact(Below.refl _ _).drew
  refine wp_region_U 11 (fun X=>Below w2.heap.size w2 X) (by kernel_rfl) ?_;exact zeae
 ):G:=h
theorem zrqef.zrbxX {G:Prop}(h:G:=by
  refine uq1 12 fun K hK=>?_;exact zcag
 ):G:=h
theorem zrqef.zrbpX {G:Prop}(h:G:=by
  refine uh 7 (nPtr p) hS0 ?_;refine uq1 8 fun K hK=>?_;go_simp;refine cm (unhide HLS _ (HB2.out.trans (hS0.mono HB2.out.size))) ?_;rintro e wl ⟨⟨ul,rfl,hcl⟩,hbl⟩
  have hSl:Below w2.heap.size w2 wl:=hS0.trans (hbl.mono hS0.size);refine hK.out _ _ (fun _=>hSl) ?_;clear hK K hS0 hbl;refine uq1 9 fun K hK=>?_;go_simp;refine cm hcl ?_;rintro e w3 ⟨⟨u3,rfl,hr3'⟩,hb3⟩
  have hS3:Below w2.heap.size w2 w3:=hSl.trans (hb3.mono hSl.size);have hr3:SRow w2.heap.size w3 u3 N:=srow_mono hr3' hSl.size;obtain⟨a3,c3',rfl⟩:=srow_form hr3;refine hK.out _ _ (fun _=>hS3) ?_
  clear hK K hSl hb3 hr3' hcl;refine uh 10 (.agg #[.int .i64 (no:Int),.slice a3 N.length c3',.bool false,.pointer none]) hS3 ?_;refine uq1 11 fun K hK=>?_;go_simp
  refine cm (in_any oa sb no a3 N.length c3' false none w3) ?_;exact zrbx
 ):G:=h
theorem zrqef.zrdtX {G:Prop}(h:G:=by
  exact zrbp
 ):G:=h
theorem zrqef.zrlX {G:Prop}(h:G:=by
  have HT2:Hid (w2.cell? ⟨tb,0,none⟩=some (.map (some mb))):=keepC HB2.out HT0.out;obtain⟨wd,hwd⟩:∃ wd,wd=w2.drew:=⟨_,rfl⟩;have hS0:Below w2.heap.size w2 wd:=by rw[hwd];exact(Below.refl _ _).drew
  refine wp_region_U 12 (fun X=>Below w2.heap.size w2 X) (by kernel_rfl) ?_;exact zrdt
 ):G:=h
theorem zrqef.zrbwX {G:Prop}(h:G:=by
  refine uq1 12 fun K hK=>?_;exact zcaf
 ):G:=h
theorem zrqef.zrbmX {G:Prop}(h:G:=by
  refine uh 7 (nPtr p) hS0 ?_;refine uq1 8 fun K hK=>?_;go_simp;refine cm (unhide HLS _ (HB2.out.trans (hS0.mono HB2.out.size))) ?_;rintro e wl ⟨⟨ul,rfl,hcl⟩,hbl⟩
  have hSl:Below w2.heap.size w2 wl:=hS0.trans (hbl.mono hS0.size);refine hK.out _ _ (fun _=>hSl) ?_;clear hK K hS0 hbl;refine uq1 9 fun K hK=>?_;go_simp;refine cm hcl ?_;rintro e w3 ⟨⟨u3,rfl,hr3'⟩,hb3⟩
  have hS3:Below w2.heap.size w2 w3:=hSl.trans (hb3.mono hSl.size);have hr3:SRow w2.heap.size w3 u3 N:=srow_mono hr3' hSl.size;obtain⟨a3,c3',rfl⟩:=srow_form hr3;refine hK.out _ _ (fun _=>hS3) ?_
  clear hK K hSl hb3 hr3' hcl;refine uh 10 (.agg #[.int .i64 (no:Int),.slice a3 N.length c3',.bool false,.pointer none]) hS3 ?_;refine uq1 11 fun K hK=>?_;go_simp
  refine cm (in_any oa true no a3 N.length c3' false none w3) ?_;exact zrbw
 ):G:=h
theorem zrqef.zrtX {G:Prop}(h:G:=by
  have HT2:Hid (w2.cell? ⟨tb,0,none⟩=some (.map (some mb))):=keepC HB2.out HT0.out;obtain⟨wd,hwd⟩:∃ wd,wd=w2.drew:=⟨_,rfl⟩;have hS0:Below w2.heap.size w2 wd:=by rw[hwd];exact(Below.refl _ _).drew
  refine wp_region_U 12 (fun X=>Below w2.heap.size w2 X) (by kernel_rfl) ?_;exact zeae
 ):G:=h
theorem zrqeg.zrbxX {G:Prop}(h:G:=by
  refine uq1 14 fun K hK=>?_;go_simp;refine hK.out _ _ (fun e=>by cases e) ?_;clear hK K;refine udone (by kernel_rfl) ?_ _;go_simp
  obtain⟨wz,hwz⟩:∃ wz,wz=(w4.setCell ⟨w.heap.size,0,none⟩ (sPtr b2)).setCell ⟨w.heap.size,1,none⟩ (.bool sb):=⟨_,rfl⟩;rw[←hwz]
  have hset:∀ k,k≠w.heap.size→wz.heap[k]? = w4.heap[k]?:=fun k hk=>by rw[hwz,ne_set hk,ne_set hk]
  have HPZ:Hid (wz.heap[w.heap.size]? = some (.cells #[sPtr b2,.bool sb] 112 (0,0))):=by show _=_;rw[hwz,heap_set (heap_set hp4 _)];rfl
  have HBZ:Hid (Below w.heap.size w wz):=by
   exact zbbx
  have HLB:Hid (wz.heap[b2]? = some (scObj no (.slice a3 [tx].length 1) false (.pointer oa))):=(hset _ (by omega)).trans hk4
  have HLR:Hid (SRow w.heap.size wz (.slice a3 [tx].length 1) [tx]):=srow_mono (owns_stay (I:=fun b=>w2.heap.size≤b) (fun b hb _=>hset b (by have h1:w2.heap.size≤b:=hb;omega)) (fun b hb=>(own_lt hr4 b hb).2) hr4) (by omega)
  exact zbat
 ):G:=h
theorem zrqeg.zrbpX {G:Prop}(h:G:=by
  refine uh 7 (nPtr p) hS0 ?_;refine uh 8 (nPtr p) hS0 ?_;refine uh 9 (.pointer (some ⟨p,1,none⟩)) hS0 ?_
  refine ug 10 (.string tx) rfl (Or.inl ⟨by kernel_rfl,fun X hX=>by have h0:=keepC hX HC2.out;go_simp⟩) hS0 ?_
  refine uq1 11 fun K hK=>?_;go_simp;have hS3':Below w2.heap.size w2 (wd.alloc (.cells #[.string tx] 9)):=hS0.alloc hS0.size _
  have hr3':SRow w2.heap.size (wd.alloc (.cells #[.string tx] 9)) (.slice (some ⟨wd.heap.size,0,none⟩) 1 1) [tx]:=⟨rfl,Or.inr ⟨wd.heap.size,1,#[.string tx],rfl,hS0.size,heap_new _ _,Nat.le_refl _,by decide,rfl,rfl⟩⟩
  refine hK.out _ _ (fun _=>hS3') ?_;clear hK K;obtain⟨w3,hw3⟩:∃ w3,w3=wd.alloc (.cells #[.string tx] 9):=⟨_,rfl⟩;obtain⟨a3,ha3⟩:∃ a3:Option Addr,a3=some ⟨wd.heap.size,0,none⟩:=⟨_,rfl⟩
  have hS3:Below w2.heap.size w2 w3:=by rw[hw3];exact hS3'
  have hr3:SRow w2.heap.size w3 (.slice a3 [tx].length 1) [tx]:=by rw[hw3,ha3];exact hr3'
  rw[←hw3,←ha3];clear hw3 ha3 hS3' hr3' hS0;refine uh 12 (.agg #[.int .i64 (no:Int),.slice a3 [tx].length 1,.bool false,.pointer none]) hS3 ?_;refine uq1 13 fun K hK=>?_;go_simp
  refine cm (in_any oa sb no a3 [tx].length 1 false none w3) ?_;exact zrbx
 ):G:=h
theorem zrqeg.zrdtX {G:Prop}(h:G:=by
  exact zrbp
 ):G:=h
theorem zrqeg.zrlX {G:Prop}(h:G:=by
  have HT2:Hid (w2.cell? ⟨tb,0,none⟩=some (.map (some mb))):=keepC HB2.out HT0.out;have HC2:Hid (w2.cell? ⟨p,1,none⟩=some (.string tx)):=keepC HB2.out HC1.out
  obtain⟨wd,hwd⟩:∃ wd,wd=w2.drew:=⟨_,rfl⟩;have hS0:Below w2.heap.size w2 wd:=by rw[hwd];exact(Below.refl _ _).drew
  refine wp_region_U 14 (fun X=>Below w2.heap.size w2 X) (by kernel_rfl) ?_;exact zrdt
 ):G:=h
theorem zrqeg.zrbwX {G:Prop}(h:G:=by
  refine uq1 14 fun K hK=>?_;go_simp;refine hK.out _ _ (fun e=>by cases e) ?_;clear hK K;refine udone (by kernel_rfl) ?_ _;go_simp
  obtain⟨wz,hwz⟩:∃ wz,wz=(w4.setCell ⟨w.heap.size,0,none⟩ (sPtr b2)).setCell ⟨w.heap.size,1,none⟩ (.bool true):=⟨_,rfl⟩;rw[←hwz]
  have hset:∀ k,k≠w.heap.size→wz.heap[k]? = w4.heap[k]?:=fun k hk=>by rw[hwz,ne_set hk,ne_set hk]
  have HPZ:Hid (wz.heap[w.heap.size]? = some (.cells #[sPtr b2,.bool true] 112 (0,0))):=by show _=_;rw[hwz,heap_set (heap_set hp4 _)];rfl
  have HBZ:Hid (Below w.heap.size w wz):=by
   exact zbbx
  have HLB:Hid (wz.heap[b2]? = some (scObj no (.slice a3 [tx].length 1) false (.pointer oa))):=(hset _ (by omega)).trans hk4
  have HLR:Hid (SRow w.heap.size wz (.slice a3 [tx].length 1) [tx]):=srow_mono (owns_stay (I:=fun b=>w2.heap.size≤b) (fun b hb _=>hset b (by have h1:w2.heap.size≤b:=hb;omega)) (fun b hb=>(own_lt hr4 b hb).2) hr4) (by omega)
  exact zbas
 ):G:=h
theorem zrqeg.zrbmX {G:Prop}(h:G:=by
  refine uh 7 (nPtr p) hS0 ?_;refine uh 8 (nPtr p) hS0 ?_;refine uh 9 (.pointer (some ⟨p,1,none⟩)) hS0 ?_
  refine ug 10 (.string tx) rfl (Or.inl ⟨by kernel_rfl,fun X hX=>by have h0:=keepC hX HC2.out;go_simp⟩) hS0 ?_
  refine uq1 11 fun K hK=>?_;go_simp;have hS3':Below w2.heap.size w2 (wd.alloc (.cells #[.string tx] 9)):=hS0.alloc hS0.size _
  have hr3':SRow w2.heap.size (wd.alloc (.cells #[.string tx] 9)) (.slice (some ⟨wd.heap.size,0,none⟩) 1 1) [tx]:=⟨rfl,Or.inr ⟨wd.heap.size,1,#[.string tx],rfl,hS0.size,heap_new _ _,Nat.le_refl _,by decide,rfl,rfl⟩⟩
  refine hK.out _ _ (fun _=>hS3') ?_;clear hK K;obtain⟨w3,hw3⟩:∃ w3,w3=wd.alloc (.cells #[.string tx] 9):=⟨_,rfl⟩;obtain⟨a3,ha3⟩:∃ a3:Option Addr,a3=some ⟨wd.heap.size,0,none⟩:=⟨_,rfl⟩
  have hS3:Below w2.heap.size w2 w3:=by rw[hw3];exact hS3'
  have hr3:SRow w2.heap.size w3 (.slice a3 [tx].length 1) [tx]:=by rw[hw3,ha3];exact hr3'
  rw[←hw3,←ha3];clear hw3 ha3 hS3' hr3' hS0;refine uh 12 (.agg #[.int .i64 (no:Int),.slice a3 [tx].length 1,.bool false,.pointer none]) hS3 ?_;refine uq1 13 fun K hK=>?_;go_simp
  refine cm (in_any oa true no a3 [tx].length 1 false none w3) ?_;exact zrbw
 ):G:=h
theorem zrqeg.zrtX {G:Prop}(h:G:=by
  have HT2:Hid (w2.cell? ⟨tb,0,none⟩=some (.map (some mb))):=keepC HB2.out HT0.out;have HC2:Hid (w2.cell? ⟨p,1,none⟩=some (.string tx)):=keepC HB2.out HC1.out
  obtain⟨wd,hwd⟩:∃ wd,wd=w2.drew:=⟨_,rfl⟩;have hS0:Below w2.heap.size w2 wd:=by rw[hwd];exact(Below.refl _ _).drew
  refine wp_region_U 14 (fun X=>Below w2.heap.size w2 X) (by kernel_rfl) ?_;exact zeae
 ):G:=h
end Go.Proofs.YtoimgcjbcbhclaaGreatDoor
