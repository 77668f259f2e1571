/-
  Parts of proofs that stand more than once.
-/
import Derived.Test.YtoimgcjbcbhclaaGreatDoorWt12
set_option maxRecDepth 100000
set_option maxHeartbeats 16000000
namespace Go.Proofs.YtoimgcjbcbhclaaGreatDoor
open Go.RowKit
theorem zbac {G:Prop}(h:G:=by
  go_wp2_with fail;obtain⟨w2,hw2⟩:∃ w2,w2=w1.setCell ⟨w.heap.size,1,none⟩ (.bool true):=⟨_,rfl⟩;rw[←hw2]
  have hb2:Below w.heap.size w w2:=by rw[hw2];exact HB1.out.setCell (p:=⟨w.heap.size,1,none⟩) (Nat.le_refl _) _
  have hs2:w2.heap.size=w.heap.size+2:=by rw[hw2];simpa using unhide HS1
  have hp2:w2.heap[w.heap.size]? = some (.cells #[.pointer oa,.bool true] 112 (0,0)):=by rw[hw2,heap_set HP1.out];rfl
  have hr2:w2.heap[w.heap.size+1]? = some (.cells #[.pointer none,.bool false] 112 (0,0)):=by rw[hw2,ne_set (by omega)];exact unhide HR1
  have HB2:=hide hb2;have HS2:Hid (w.heap.size+2≤w2.heap.size):=by show _≤_;omega
  have HP2:=hide hp2;have HR2:=hide hr2;clear hw2 hb2 hs2 hp2 hr2 k0 k1 k3 s0 s1 sf hpl1 hql1 hwl1 HB1 HS1 HP1 HR1 HW1 HWA
  have HX0:Hid (w2.cell? ⟨w.heap.size,0,none⟩=some (.pointer oa)):=by show _=_;rw[cell_of HP2.out];rfl
  have HX1:Hid (w2.cell? ⟨w.heap.size,1,none⟩=some (.bool true)):=by show _=_;rw[cell_of HP2.out];rfl
  have HT2:Hid (w2.cell? ⟨tb,0,none⟩=some (.map (some mb))):=keepC HB2.out HT0.out;have hs2:=unhide HS2;refine cm (unhide HTX _ HB2.out) ?_;rintro e w3 ⟨⟨u3,rfl,hr3⟩,hb3⟩
  obtain⟨a3,c3,rfl⟩:=srow_form hr3;have HR3:=hide hr3;have HB3:=hide hb3;have hz3:=hb3.size;clear hr3 hb3
  go_wp2_with (at_builtin;refine wpList_append_lies _ rfl _ _ 38 rfl w2.heap.size 9 i0 (.string ByteArray.empty) 1 16 Tryz.underlying38 hi0 hz0 hz1 hz2 rfl (by decide) _ _ _ rfl (HR3.out.alloc _) ⟨w3.heap.size,0,none⟩ 1 1 [.string tArguments] rfl rfl (hoCellsS w3 tArguments _ rfl) (hoOneS tArguments) (by decide) (by unfold maxLen;omega) (by omega) (by simp;omega) (w3.heap.size+1) (by simp) ?_)
  intro g4 cap4 w4 hown4 hgr4 _ _;have HR4:Hid (SRow w2.heap.size w4 (.slice (some ⟨g4,0,none⟩) (P.length+1) cap4) M):=by
   exact zcbl
  have HB4:Hid (Below w2.heap.size w2 w4):=HB3.out.trans (((Below.refl w2.heap.size w3).alloc hz3 _).grown hgr4 (by simp;omega) (fun b hb=>(own_lt HR3.out b hb).2))
  clear hown4 hgr4 HR3 HB3 hz3;go_wp2_with fail;have hS0:Below w2.heap.size w2 w4.drew:=HB4.out.drew;have hr4:SRow w2.heap.size w4.drew (.slice (some ⟨g4,0,none⟩) (P.length+1) cap4) M:=unhide HR4
  obtain⟨w5,hw5⟩:∃ w5,w5=w4.drew:=⟨_,rfl⟩;refine wp_region_U 20 (fun X=>Below w2.heap.size w2 X) (by kernel_rfl) ?_;rw[←hw5] at hS0 hr4 ⊢;clear hw5 HB4 HR4
  refine ug 0 (plV2 (.pointer oa) true) rfl (Or.inl ⟨by kernel_rfl,fun X hX=>by have h0:=keepC hX HX0.out;have h1:=keepC hX HX1.out;go_simp⟩) hS0 ?_
  refine uh 1 (sPtr tb) hS0 ?_;refine uh 2 (sPtr tb) hS0 ?_;refine uh 3 (.pointer (some ⟨tb,0,none⟩)) hS0 ?_
  refine ug 4 (.map (some mb)) rfl (Or.inl ⟨by kernel_rfl,fun X hX=>by have h0:=keepC hX HT2.out;go_simp⟩) hS0 ?_
  refine uh 5 (nPtr p) hS0 ?_;refine ug 6 (.int .i64 (no:Int)) rfl (Or.inl ⟨by kernel_rfl,fun X hX=>by have h0:=unhide HNUM X (HB2.out.trans (hX.mono HB2.out.size));go_simp⟩) hS0 ?_
  refine uh 7 (.slice (some ⟨g4,0,none⟩) (P.length+1) cap4) hS0 ?_;refine uh 8 (nPtr q1) hS0 ?_;refine uh 11 (.pointer (some ⟨w.heap.size,1,none⟩)) hS0 ?_
  refine ug 12 (.bool true) rfl (Or.inl ⟨by kernel_rfl,fun X hX=>by have h1:=keepC hX HX1.out;go_simp⟩) hS0 ?_
  refine uh 13 (.bool false) hS0 ?_;refine uq1 9 fun K hK=>?_;go_simp;refine cm (unhide HNM _ (HB2.out.trans (hS0.mono HB2.out.size))) ?_;rintro e w6 ⟨⟨u6,rfl,hr6⟩,hb6⟩;obtain⟨a6,c6,rfl⟩:=srow_form hr6
  have hS6:Below w2.heap.size w2 w6:=hS0.trans (hb6.mono hS0.size);have hr4':=SRow.later hr4 hb6;refine hK.out _ _ (fun _=>hS6) ?_;clear hK K;refine uq1 10 fun K hK=>?_
  refine step_app_row rfl _ _ 38 rfl w2.heap.size _ 9 i0 (.string ByteArray.empty) 16 Tryz.underlying38 hi0 hz0 hz1 hz2 rfl _ _ _ rfl hr4' _ _ _ rfl hr6 (srow_ones N) (by have:=unhide HML;unfold maxLen;omega) (by have:=unhide HML;omega) hS6.size ?_
  intro v7 w7 hown7 hgr7;have hr7:SRow w2.heap.size w7 v7 F:=by
   exact zcbi
  have hS7:Below w2.heap.size w2 w7:=hS6.grown hgr7 hS6.size (fun k hk=>(own_lt hr4' k hk).2);obtain⟨a7,c7,rfl⟩:=srow_form hr7;refine hK.out _ _ (fun _=>hS7) ?_;clear hK K hown7 hgr7 hr6 hb6 hr4 hr4'
  refine uh 14 (.bool false) hS7 ?_;refine uq1 15 fun K hK=>?_;go_simp;refine hK.out _ _ (fun _=>hS7) ?_;clear hK K;refine uq1 16 fun K hK=>?_;go_simp;refine hK.out _ _ (fun _=>hS7) ?_;clear hK K
  obtain⟨w8,hw8⟩:∃ w8,w8=w7:=⟨_,rfl⟩;have hS8:Below w2.heap.size w2 w8:=by rw[hw8];exact hS7
  have hr8:SRow w2.heap.size w8 (.slice a7 F.length c7) F:=by rw[hw8];exact hr7
  rw[←hw8];clear hw8 hS7 hr7;refine uh 17 (.bool false) hS8 ?_;refine uh 18 (.agg #[.int .i64 (no:Int),.slice a7 F.length c7,.bool false,.pointer none]) hS8 ?_;refine uq1 19 fun K hK=>?_;go_simp
  refine cm (in_any _ true no a7 F.length c7 false none w8) ?_;rintro e w9 ⟨⟨rfl,hk9⟩,hb9⟩;have hS9:Below w2.heap.size w2 w9:=hS8.trans (hb9.mono hS8.size);have hr9:=SRow.later hr8 hb9
  have hr2:w9.heap[w.heap.size+1]? = some (.cells #[.pointer none,.bool false] 112 (0,0)):=by rw[hS9.block _ (by omega)];exact unhide HR2
  have q0':w9.cell? ⟨w.heap.size+1,0,none⟩=some (.pointer none):=by rw[cell_of hr2];rfl
  have q1':w9.cell? ⟨w.heap.size+1,1,none⟩=some (.bool false):=by rw[cell_of hr2];rfl
  have qf:=frozen_of hr2;have hrl:=lt_of_heap hr2;have HZ:=hide hS8.size;refine hK.out _ _ (fun _=>hS9) ?_;clear hK K hS8 hr8;refine uq1 20 fun K hK=>?_;go_simp;refine hK.out _ _ (fun e=>by cases e) ?_
  clear hK K;refine udone (by kernel_rfl) ?_ _;go_simp;obtain⟨wz,hwz⟩:∃ wz,wz=(w9.setCell ⟨w.heap.size+1,0,none⟩ (sPtr (w8.heap.size+1))).setCell ⟨w.heap.size+1,1,none⟩ (.bool true):=⟨_,rfl⟩
  rw[←hwz];have hset:∀ k,k≠w.heap.size+1→wz.heap[k]? = w9.heap[k]?:=fun k hk=>by rw[hwz,ne_set hk,ne_set hk]
  have hzb:wz.heap[w.heap.size+1]? = some (.cells #[sPtr (w8.heap.size+1),.bool true] 112 (0,0)):=by rw[hwz,heap_set (heap_set hr2 _)];rfl
  have z0:wz.cell? ⟨w.heap.size+1,0,none⟩=some (sPtr (w8.heap.size+1)):=by rw[cell_of hzb];rfl
  have z1:wz.cell? ⟨w.heap.size+1,1,none⟩=some (.bool true):=by rw[cell_of hzb];rfl
  have hz8:=unhide HZ;have HK9:=hide ((hset (w8.heap.size+1) (by omega)).trans hk9)
  have HR9:Hid (SRow w.heap.size wz (.slice a7 F.length c7) F):=srow_mono (owns_stay (I:=fun b=>w2.heap.size≤b) (fun b hb _=>hset b (by have h1:w2.heap.size≤b:=hb;omega)) (fun b hb=>(own_lt hr9 b hb).2) hr9) (by omega)
  have HSZ:Hid (∀ k,k<w2.heap.size→k≠w.heap.size+1→wz.heap[k]? = w2.heap[k]?):=fun k h1 h2=>(hset k h2).trans (hS9.block k h1);have HBZ:Hid (Below w.heap.size w wz):=by
   exact zcbd
  clear hwz hset hzb hk9 hS9 hr9 hr2 q0' q1' qf hrl hb9;go_wp2_with fail
  refine bodyPost_ret (v:=plV2 (sPtr (w8.heap.size+1)) true) (by simp[results,Tryz.results128,go_sem,z0,z1]) rfl ⟨⟨w8.heap.size+1,_,_,rfl,by omega,HK9.out,HR9.out,?_⟩,HBZ.out⟩
  exact Or.inl ⟨by decide,rfl⟩
 ):G:=h
theorem zbad {G:Prop}(h:G:=by
  have b5:((tkA c.l j).kd != 5)=false:=by rw[h5];rfl
  rw[if_pos ⟨h5,hf⟩] at HQ;have hl:=HNX.out h5;clear hf h5;have hnj:((j:Int)+1)=(((j+1:Nat)):Int):=by omega
  obtain⟨m1,m2,m3,m4,m5,m6,m7,e0,e1,e2,e3,e4,e5,e6,e7,e8⟩:=ops_made2 ((wr.setCell ⟨c.P,1,none⟩ (.int .i64 ((j:Int)+1))).alloc (tokO (tkA c.l j))) (wr.heap.size+1) (by simp)
  have HP3:Hid (Ps c ((((wr.setCell ⟨c.P,1,none⟩ (.int .i64 ((j:Int)+1))).alloc (tokO (tkA c.l j))).alloc (.map m7 7)).drew.drew) (j+1) 0 (-1)):=by rw[hnj];exact(((HPS.out.step hl).alloc _).alloc _).drew.drew
  have HA3:Hid (Ap c.P w.heap.size w ((((wr.setCell ⟨c.P,1,none⟩ (.int .i64 ((j:Int)+1))).alloc (tokO (tkA c.l j))).alloc (.map m7 7)).drew.drew)):=(((HAP.out.setCell (p:=⟨c.P,1,none⟩) (Or.inr rfl) _).alloc (by have:=HAP.out.size;simp;omega) _).alloc (by have:=HAP.out.size;simp;omega) _).drew.drew
  have HN3:Hid (NV w.heap.size ((((wr.setCell ⟨c.P,1,none⟩ (.int .i64 ((j:Int)+1))).alloc (tokO (tkA c.l j))).alloc (.map m7 7)).drew.drew) t (nPtr q)):=NV.later ⟨q,rfl,HN.out⟩ (((((Ap.refl c.P wr.heap.size wr).setCell (p:=⟨c.P,1,none⟩) (Or.inr rfl) _).alloc (by simp) _).alloc (by simp) _).drew.drew) HLT.out
  have HK3:Hid (((((wr.setCell ⟨c.P,1,none⟩ (.int .i64 ((j:Int)+1))).alloc (tokO (tkA c.l j))).alloc (.map m7 7)).drew.drew).heap[g]? = some (.cells lvCells 9 (0,0))):=(HA3.out.block g (lt_of_heap HK.out) HGN.out).trans HK.out
  cases hr2:rpairs c.l F d rest (j+1) with
  | out=>rw[hr2] at HQ;exact absurd HQ.out.symm HO.out
  | bad er pl=>
   exact zcai
  | ok u j2=>
   have HC3:=hide (HPC.out _ _ _ hr2.symm (by nofun) HP3.out HK3.out);rw[hr2] at HQ;have HQQ:Hid (rpairLoop c.l (rpairs c.l F d rest) s k (.mk (opK (tkA c.l j).tx) noText 0 [t,u]) j2=r):=unhide HQ;exact zcah
 ):G:=h
theorem zbae {G:Prop}(h:G:=by
  have b5:((tkA c.l j).kd != 5)=false:=by rw[h5];rfl
  rw[if_pos ⟨h5,hf⟩] at HQ;have hl:=HNX.out h5;clear hf h5;have hnj:((j:Int)+1)=(((j+1:Nat)):Int):=by omega
  obtain⟨m1,m2,m3,m4,m5,m6,m7,e0,e1,e2,e3,e4,e5,e6,e7,e8⟩:=ops_made2 ((wr.setCell ⟨c.P,1,none⟩ (.int .i64 ((j:Int)+1))).alloc (tokO (tkA c.l j))) (wr.heap.size+1) (by simp)
  have HP3:Hid (Ps c ((((wr.setCell ⟨c.P,1,none⟩ (.int .i64 ((j:Int)+1))).alloc (tokO (tkA c.l j))).alloc (.map m7 7)).drew.drew) (j+1) 0 (-1)):=by rw[hnj];exact(((HPS.out.step hl).alloc _).alloc _).drew.drew
  have HA3:Hid (Ap c.P w.heap.size w ((((wr.setCell ⟨c.P,1,none⟩ (.int .i64 ((j:Int)+1))).alloc (tokO (tkA c.l j))).alloc (.map m7 7)).drew.drew)):=(((HAP.out.setCell (p:=⟨c.P,1,none⟩) (Or.inr rfl) _).alloc (by have:=HAP.out.size;simp;omega) _).alloc (by have:=HAP.out.size;simp;omega) _).drew.drew
  have HN3:Hid (NV w.heap.size ((((wr.setCell ⟨c.P,1,none⟩ (.int .i64 ((j:Int)+1))).alloc (tokO (tkA c.l j))).alloc (.map m7 7)).drew.drew) t (nPtr q)):=NV.later ⟨q,rfl,HN.out⟩ (((((Ap.refl c.P wr.heap.size wr).setCell (p:=⟨c.P,1,none⟩) (Or.inr rfl) _).alloc (by simp) _).alloc (by simp) _).drew.drew) HLT.out
  have HK3:Hid (((((wr.setCell ⟨c.P,1,none⟩ (.int .i64 ((j:Int)+1))).alloc (tokO (tkA c.l j))).alloc (.map m7 7)).drew.drew).heap[g]? = some (.cells lvCells 9 (0,0))):=(HA3.out.block g (lt_of_heap HK.out) HGN.out).trans HK.out
  cases hr2:rpairs c.l F d [] (j+1) with
  | out=>rw[hr2] at HQ;exact absurd HQ.out.symm HO.out
  | bad er pl=>
   exact zcai
  | ok u j2=>
   have HC3:=hide (HPC.out _ _ _ hr2.symm (by nofun) HP3.out HK3.out);rw[hr2] at HQ;have HQQ:Hid (rpairLoop c.l (rpairs c.l F d []) s k (.mk (opK (tkA c.l j).tx) noText 0 [t,u]) j2=r):=unhide HQ;exact zcah
 ):G:=h
theorem zbaf {G:Prop}(h:G:=by
  refine hK _ _ ?_;clear hK K;refine wr2 4 8 (fun K hK=>?_) fun K hK=>?_
  ·go_simp;refine hK _ _ ?_;clear hK K;refine wr1 8 fun K hK=>?_;go_simp;refine hK _ _ ?_;clear hK K;refine wt 9 (.agg #[.int .i64 14,.string noText,.int .i64 0,.slice (some ⟨wc.heap.size,0,none⟩) 1 1]) ?_
   refine wr1 10 fun K hK=>?_;exact zdak
  ·go_simp;refine hK _ _ ?_;clear hK K;refine wt 9 (.agg #[.int .i64 14,.string noText,.int .i64 0,.slice (some ⟨wc.heap.size,0,none⟩) 1 1]) ?_;refine wr2 4 10 (fun K hK=>?_) fun K hK=>?_
   ·go_simp;refine hK _ _ ?_;clear hK K;refine wr1 10 fun K hK=>?_;exact zdak
   ·go_simp;refine hK _ _ ?_;clear hK K;refine wr2 4 11 (fun K hK=>?_) fun K hK=>?_
    ·exact zdak
    ·go_simp;refine hK _ _ ?_;clear hK K;refine wr1 4 fun K hK=>?_;exact zcal
 ):G:=h
theorem zbag {G:Prop}(h:G:=by
  go_wp2_with fail;have hds:∀ i,(hi:i<(s.extract j e).size)→digB ((s.extract j e)[i].toNat:Int)=true:=fun i hi=>by
   exact zcbs
  have hsz:=extract_size s j e (by omega) hes;refine(atoi_any (s.extract j e) _ (by omega) (by omega) hds).mono ?_;rw[HNN.out];rintro e3 w3 ⟨rfl,hbel3⟩;have HI3:=hide (HI.out.later hbel3);clear rc0 rc1 rf0 rf1
  obtain⟨rc0,rc1,rf0,rf1⟩:=HI3.out.cells;clear hbel3 hds hsz
  go_wp2_with (at_builtin;refine wpList_append_own _ rfl _ _ 161 rfl (w.heap.size+1) 167 i0 noTok 4 40 Tryz.underlying161 hi hz0 hz1 hz2 rfl (by decide) _ _ _ rfl (HI3.out.own.alloc _) ⟨w3.heap.size,0,none⟩ 1 1 [.int .i64 3,.string ⟨#[]⟩,.int .i64 n,.int .i64 (j:Int)] rfl rfl ?c1 ?c2 ?c3 ?c4 ?c5 ?_)
  case c1=>
   exact zcbp
  case c2=>
   intro u hu;simp only[List.mem_cons,List.not_mem_nil,or_false] at hu
   rcases hu with rfl|rfl|rfl|rfl <;> rfl
  case c3=>unfold maxLen;omega
  case c4=>omega
  case c5=>have:=HI3.out.size;simp;omega
  intro v' w5 hown' hgrow _;have HI5:=hide (HI3.out.app (t:=Tk.mk 3 ⟨#[]⟩ n j) _ hown' hgrow);clear hown' hgrow;go_wp2_with fail
  exact⟨WI_mk e (acc++[Tk.mk 3 ⟨#[]⟩ n j]) v' hes (by simp;omega) HST.out HI5.out (by kernel_rfl),by simp[mu6,intOf];omega⟩
 ):G:=h
theorem zbah {G:Prop}(h:G:=by
  intro m
  induction m with
  | zero=>intro t ht;have:=cnt_pos t;omega
  | succ m ih=>
   intro t ht hm ts a w hp0 hi hnt;obtain⟨hIp,hpl,_,_,v,f3,hrow,hri⟩:=hnt.cells;have hlen:(t.ks.map Ad.p).length=t.ks.length:=List.length_map _;obtain⟨ua,uc,hu⟩:=row_shut hrow;subst hu
   rw[hlen] at f3;have HC:=hide (hst a t ts w hp0 hi hnt);have HP0:=hide (hP a t ts hp0);have HW:=hide (wk_eq f a t);have HKS:=hide hnt.parts;have HROW:=hide hrow;have HRI:=hide hri
   have HIH:=hide (ih);have HHT:=hide ht;have HHM:=hide hm;have HF3:=hide f3;have HPL:=hide hpl;have HIP:=hide hIp;have HLEN:=hide hlen;have HTR:=hide htr;have HSY:=hide hsy
   have hkb:t.ks.length≤90000:=by have h1:=cnts_len t.ks;have h2:=cnt_eq t;omega
   clear hst hP hi hnt hrow hri ih ht hm f3 hpl hIp hlen htr hsy hp0;obtain⟨p,hp⟩:∃ p,p=t.p:=⟨_,rfl⟩;rw[←hp] at HC HF3 HPL HIP ⊢;clear hp
   cases hx:(f a t).2 with
   | false=>
    rw[hx] at HC HP0 HW;clear hx;go_enter Tryz.func31,Tryz.ntmps31;go_wp2_with fail;refine cm HC.out ?_;rintro e w1 ⟨rfl,hg1,ha1⟩;have HG1:=hide hg1;have HA1:=hide ha1;clear HC hg1 ha1;go_wp2_with fail
    exact bodyPost_ret (v:=.tuple #[]) (by simp[results,Tryz.results31,go_sem]) rfl ⟨rfl,by rw[HW.out];exact HG1.out,by rw[HW.out];exact HP0.out,HA1.out⟩
   | true=>
    rw[hx] at HC HP0 HW;clear hx;obtain⟨a1,ha1⟩:∃ a1,a1=(f a t).1:=⟨_,rfl⟩;rw[←ha1] at HC HP0 HW;clear ha1;go_enter Tryz.func31,Tryz.ntmps31;go_wp2_with fail;refine cm HC.out ?_
    rintro e w1 ⟨rfl,hg1,ha1⟩;obtain⟨hs1,hz1⟩:=unhide HSY _ _ ha1;have g3:w1.cell? ⟨p,3,none⟩=some (.slice ua t.ks.length uc):=by rw[World.cell?_of_block (w:=w) (hs1 p HIP.out HPL.out)];exact unhide HF3
    have hpl1:p<w1.heap.size:=Nat.lt_of_lt_of_le HPL.out hz1;have HG1:=hide hg1;have HA1:=hide ha1;clear HC hg1 ha1 hs1 hz1;go_wp2_with fail
    go_loopw [23] (fun i wr=>∃ k:Nat,k≤t.ks.length∧i=.int .i64 k∧Inv (wks f a1 (t.ks.take k)) wr∧P (wks f a1 (t.ks.take k)) (t.ks.drop k++ts)∧Rl w wr) (fun i _=>t.ks.length - (intOf i).toNat)
    case atStart=>exact⟨0,Nat.zero_le _,rfl,by rw[List.take_zero,wks];exact HG1.out,by rw[List.take_zero,wks];exact HP0.out,HA1.out⟩
    case round=>
     obtain⟨k,hk,rfl,hg,hpk,hap⟩:=hrel;have HGK:=hide hg;have HPK:=hide hpk;have HAK:=hide hap;clear hg hap hpk
     by_cases hlt:k<t.ks.length
     ·obtain⟨g,cap,hv,hcell⟩:=row_open HROW.out (by rw[HLEN.out];omega)
      simp only[Value.slice.injEq] at hv;obtain⟨rfl,_,rfl⟩:=hv;have hkp:k<(t.ks.map Ad.p).length:=by rw[HLEN.out];exact hlt
      have hgb:=unhide HRI g rfl;have hgl:=(own_lt HROW.out g rfl).1;obtain⟨hs2,hz2⟩:=unhide HSY _ _ HAK.out;obtain⟨q,hq⟩:∃ q,q=(t.ks[k]).p:=⟨_,rfl⟩
      have hck:wr.cell? ⟨g,k,none⟩=some (nPtr q):=by
       rw[World.cell?_of_block (w:=w) (a:=⟨g,k,none⟩) (hs2 g hgb hgl),hcell k hkp,List.getElem_map,hq]
      have hnk:AAt I wr t.ks[k]:=AAt.later hs2 _ (unhide HKS _ (List.getElem_mem hlt));have hgl2:g<wr.heap.size:=Nat.lt_of_lt_of_le hgl hz2;have hcn:(t.ks[k]).cnt≤m:=by
       have h1:=cnts_mem t.ks _ (List.getElem_mem hlt);have h2:=cnt_eq t;have h3:=unhide HHT;omega
      have hpk:=unhide HPK;rw[List.drop_eq_getElem_cons hlt,List.cons_append] at hpk;have HC:=hide (HIH.out t.ks[k] hcn (by have:=unhide HHM;omega) (t.ks.drop (k+1)++ts) _ wr hpk HGK.out hnk)
      have HWK:=hide (wks_take f t.ks a1 k hlt);rw[←hq] at HC;have hki:(k:Int)<(t.ks.length:Int):=by omega
      clear hcell hnk hcn hpk hs2 hz2 hq;go_wp2_with fail;refine cm HC.out ?_;rintro e w2 ⟨rfl,hc2,hp2,ha2⟩;have HC2:=hide hc2;have HP2:=hide hp2;have HA2:=hide (unhide HTR _ _ _ HAK.out ha2)
      clear hc2 ha2 hp2 HC hck;go_wp2_with fail
      go_roundw
      case rel=>exact⟨k+1,by omega,by go_num,by rw[HWK.out];exact HC2.out,by rw[HWK.out];exact HP2.out,HA2.out⟩
      case measure=>simp[intOf];omega
     ·have hk2:k=t.ks.length:=by omega
      subst hk2;go_wp2_with fail
      go_end0
      have h1:=unhide HGK;have h2:=unhide HPK;rw[List.take_length] at h1 h2;rw[List.drop_length,List.nil_append] at h2;rw[HW.out];exact⟨rfl,h1,h2,HAK.out⟩
 ):G:=h
theorem zbai {G:Prop}(h:G:=by
  have t1:(((s[q].toNat:Nat):Int)==39)=false:=by rw[show (39:Int)=(((39:UInt8).toNat:Nat):Int) from rfl,b1];simp[c1]
  by_cases c2:s[q]=10
  ·have t2:(((s[q].toNat:Nat):Int)==10)=true:=by rw[c2];rfl
   rw[strR_lf s q said hqs (by rw[hbt];exact c2)] at hqe
   cases hqe
  ·have t2:(((s[q].toNat:Nat):Int)==10)=false:=by rw[show (10:Int)=(((10:UInt8).toNat:Nat):Int) from rfl,b2];simp[c2]
   by_cases c3:s[q]=92
   ·have t3:(((s[q].toNat:Nat):Int) != 92)=false:=by rw[c3];rfl
    by_cases hq4:q+1<s.size
    ·have ql2:(((q:Int)+1)==(s.size:Int))=false:=beq_eq_false_iff_ne.2 (by omega);have hbt2:=bt_eq s (q+1) hq4;have d1:=byte_eq s[q+1] 110;have d2:=byte_eq s[q+1] 39
     have d3:=byte_eq s[q+1] 92
     by_cases k1:s[q+1]=110
     ·exact zcau
     ·have u1:(((s[q+1].toNat:Nat):Int)==110)=false:=by rw[show (110:Int)=(((110:UInt8).toNat:Nat):Int) from rfl,d1];simp[k1]
      by_cases k2:s[q+1]=39
      ·have u2:(((s[q+1].toNat:Nat):Int)==39)=true:=by rw[k2];rfl
       rw[strR_esc s q said s[q+1] hqs (by rw[hbt];exact c3) hq4 (by rw[hbt2,k2];rfl)] at hqe
       have HQ:=hide hqe;have hos:=ofB_size said;have hos2:(ofBytes said).size≤3000:=by omega
       clear hqe hos b1 b2 b3 c1 c2 c3 hbt hbt2 d1 d2 d3 k1 k2;exact zcaz
      ·have u2:(((s[q+1].toNat:Nat):Int)==39)=false:=by rw[show (39:Int)=(((39:UInt8).toNat:Nat):Int) from rfl,d2];simp[k2]
       by_cases k3:s[q+1]=92
       ·have u3:(((s[q+1].toNat:Nat):Int)==92)=true:=by rw[k3];rfl
        rw[strR_esc s q said s[q+1] hqs (by rw[hbt];exact c3) hq4 (by rw[hbt2,k3];rfl)] at hqe
        have HQ:=hide hqe;have hos:=ofB_size said;have hos2:(ofBytes said).size≤3000:=by omega
        clear hqe hos b1 b2 b3 c1 c2 c3 hbt hbt2 d1 d2 d3 k1 k2 k3;exact zcaz
       ·have u3:(((s[q+1].toNat:Nat):Int)==92)=false:=by rw[show (92:Int)=(((92:UInt8).toNat:Nat):Int) from rfl,d3];simp[k3]
        have hno:esc (bt s (q+1))=none:=by rw[hbt2];simp[esc,k1,k2,k3]
        rw[strR_noesc s q said hqs (by rw[hbt];exact c3) (fun _=>hno)] at hqe
        cases hqe
    ·have ql2:(((q:Int)+1)==(s.size:Int))=true:=beq_iff_eq.2 (by omega);rw[strR_noesc s q said hqs (by rw[hbt];exact c3) (fun h=>absurd h hq4)] at hqe
     cases hqe
   ·exact zcao
 ):G:=h
theorem zbaj {G:Prop}(h:G:=by
  refine hK _ _ ?_;clear hK K;refine wr2 4 9 (fun K hK=>?_) fun K hK=>?_
  ·go_simp;refine hK _ _ ?_;clear hK K;refine wr1 9 fun K hK=>?_;exact zcay
  ·go_simp;refine hK _ _ ?_;clear hK K;refine wr1 4 fun K hK=>?_;exact zcay
 ):G:=h
theorem zbak {G:Prop}(h:G:=by
  exact zcay
 ):G:=h
theorem zbal {G:Prop}(h:G:=by
  rw[hr] at HS;simp only[bind_out] at HS;exact absurd HS.out.symm HO.out
 ):G:=h
theorem zbam {G:Prop}(h:G:=by
  go_simp;refine hK _ _ ?_;clear hK K;have hown:=HOc.out.row;have HOWN:=hide hown;have hsz:=HAc.out.size;clear hown;refine wr1 9 fun K hK=>?_
  refine step_append_lies _ rfl _ _ 46 rfl w.heap.size 22 i0 (.pointer none) 1 8 Tryz.underlying46 hi0 hz0 hz1 hz2 rfl (by decide) _ _ _ rfl (HOWN.out.alloc _) ⟨wc.heap.size,0,none⟩ 1 1 [nPtr pc] rfl rfl (one_cells wc pc _ rfl) (one_one pc) (by decide) (by simp[maxLen]) (by simp) (by simp;omega) (wc.heap.size+1) (by simp) ?_
  intro g cap w3 hown3 hgr3 hg3 _;refine hK _ _ ?_;clear hK K;have HEV:=hide (Open.push2 HOc.out HNc.out rfl hown3 hgr3 hg3)
  have HBW:∀ v,Hid (Below w.heap.size wc (w3.setCell ⟨w.heap.size,3,none⟩ v)):=fun v=>HOc.out.grows ((Below.refl _ wc).alloc hsz _) (by simp;omega) hgr3
  have hp3:w3.cell? ⟨w.heap.size,3,none⟩=wc.cell? ⟨w.heap.size,3,none⟩∧w3.frozen? ⟨w.heap.size,3,none⟩=wc.frozen? ⟨w.heap.size,3,none⟩:=by
   exact zcbk
  obtain⟨hp3c,hp3f⟩:=hp3;rw[gc3] at hp3c;rw[gcf 3] at hp3f;clear hown3 hgr3 hg3;refine wt 10 (nPtr w.heap.size) ?_;refine wt 11 (.pointer (some ⟨w.heap.size,3,none⟩)) ?_;refine wr1 12 fun K hK=>?_;go_simp
  refine hK _ _ ?_;clear hK K hp3c hp3f gc3 gcf gcl HOWN hcf hc3 hcl;refine wpAny_done (by kernel_rfl) ?_ _;go_simp;go_wp2_with fail;go_ret
  exact⟨⟨_,rfl,HEV.out.nv⟩,HPc.out.ap (unhide (HBW _)) HLO.out,HAc.out.trans (Ap.of (unhide (HBW _)))⟩
 ):G:=h
theorem zban {G:Prop}(h:G:=by
  rintro e2 w2 ⟨rfl,rfl⟩;go_wp2_with fail
  go_round
  case rel=>exact⟨q+1,by omega,by omega,by go_num,HST1.out⟩
  case measure=>simp[intOf];omega
 ):G:=h
theorem zbao {G:Prop}(h:G:=by
  refine hK _ _ ?_;clear hK K
  by_cases hus:us=[]
  ·obtain rfl:=HLV.out.2.1 hus;subst hus;obtain⟨hucap,ga,rfl⟩:=HOc.out.cap (by rw[HKL.out];decide)
   have HP1:=hide (push0 HOc.out HRc.out HAc.out HLO.out);refine wr1 11 fun K hK=>?_;go_simp;refine hK _ _ ?_;clear hK K hucap;refine wt 12 (nPtr pq) ?_;refine wt 13 (.pointer (some ⟨pq,3,none⟩)) ?_
   refine wr1 14 fun K hK=>?_;go_simp;refine hK _ _ ?_;clear hK K;refine wpAny_done (by kernel_rfl) ?_ _;go_simp;obtain⟨m1,m2,m3⟩:=unhide HP1;obtain⟨pm,hpm,hnm⟩:=m1.nv
   have hpe:pm=pq:=by simpa[nPtr] using hpm.symm
   subst hpe;have ht0:=unhide HT0;have HM1:=hide hnm;have HM2:=hide m2;have HM3:=hide m3;clear m1 m2 m3 hpm hnm;go_wp2_with fail
   go_roundw
   case rel=>exact⟨k,.mk 35 noText 0 [t],j2,pm,rfl,HS.out,HM2.out,HM3.out,by have h9:=unhide HM1;rw[show Tr.mk t0.kd t0.tx t0.n (t0.kids++[])=Tr.mk 35 noText 0 [t] by rw[ht0];rfl] at h9;exact h9⟩
   case measure=>rw[nxt_eq HM2.out,nxt_eq HRM.out];omega
  ·obtain⟨g2,cap2,qs,rfl,hql,hqn,hqc⟩:=HLV.out.many hus;have hu1:=HLV.out.2.2;have hpos:0<us.length:=List.length_pos_iff.2 hus
   have HX:=hide (Open.apart HOP.out HAn.out.size HOA.out HLT.out (show NAts (From wn.heap.size) wc us qs from hqn));have hlen:=NAts.length _ _ HOc.out.kids;have hkl:=unhide HKL;have hsz:=HAc.out.size
   have hown:=HOc.out.row;rw[hlen] at hown;have HOWN:=hide hown;have HQL:=hide hql;have HLEN:=hide hlen;clear hown hus hqn hlen;refine wr1 11 fun K hK=>?_
   refine step_append_lies _ rfl _ _ 46 rfl w.heap.size 22 i0 (.pointer none) 1 8 Tryz.underlying46 hi0 hz0 hz1 hz2 rfl (by decide) _ _ _ rfl HOWN.out ⟨g2,0,none⟩ us.length cap2 (qs.map nPtr) rfl (by simp[hql]) hqc (map_one qs) hpos (by unfold maxLen;omega) (by omega) hsz wc.heap.size rfl ?_
   intro g cap w3 hown3 hgr3 hg3 _;refine hK _ _ ?_;clear hK K;have HP1:=hide (pushN (m:=t0.kids.length+us.length) HOc.out HX.out HRc.out HAc.out HLO.out hown3 (by rw[HLEN.out,HQL.out]) hgr3 hg3)
   have hp3:w3.cell? ⟨pq,3,none⟩=wc.cell? ⟨pq,3,none⟩∧w3.frozen? ⟨pq,3,none⟩=wc.frozen? ⟨pq,3,none⟩:=by
    have hbb:w3.heap[pq]? = wc.heap[pq]?:=hgr3.block pq gcl (fun e=>HOc.out.own e.symm);exact zdai
   obtain⟨hp3c,hp3f⟩:=hp3;rw[gc3] at hp3c;rw[gcf 3] at hp3f;clear hown3 hgr3 hg3 gc3 gcf hqc hkl;refine wt 12 (nPtr pq) ?_;refine wt 13 (.pointer (some ⟨pq,3,none⟩)) ?_;refine wr1 14 fun K hK=>?_;go_simp
   refine hK _ _ ?_;clear hK K;refine wpAny_done (by kernel_rfl) ?_ _;go_simp;obtain⟨m1,m2,m3⟩:=unhide HP1;obtain⟨pm,hpm,hnm⟩:=m1.nv;have hpe:pm=pq:=by simpa[nPtr] using hpm.symm
   subst hpe;have ht0:=unhide HT0;have HM1:=hide hnm;have HM2:=hide m2;have HM3:=hide m3;clear m1 m2 m3 hpm hnm;go_wp2_with fail
   go_roundw
   case rel=>exact⟨k,.mk 35 noText 0 (t::us),j2,pm,rfl,HS.out,HM2.out,HM3.out,by have h9:=unhide HM1;rw[show Tr.mk t0.kd t0.tx t0.n (t0.kids++us)=Tr.mk 35 noText 0 (t::us) by rw[ht0];rfl] at h9;exact h9⟩
   case measure=>rw[nxt_eq HM2.out,nxt_eq HRM.out];omega
 ):G:=h
theorem zbap {G:Prop}(h:G:=by
  go_simp;refine hK _ _ ?_;clear hK K;have hown:=HOc.out.row;have HOWN:=hide hown;have hsz:=HAc.out.size;clear hown;refine wr1 9 fun K hK=>?_
  refine step_append_lies _ rfl _ _ 46 rfl w.heap.size 22 i0 (.pointer none) 1 8 Tryz.underlying46 hi0 hz0 hz1 hz2 rfl (by decide) _ _ _ rfl (HOWN.out.alloc _) ⟨wc.heap.size,0,none⟩ 1 1 [nPtr pc] rfl rfl (one_cells wc pc _ rfl) (one_one pc) (by decide) (by simp[maxLen]) (by simp) (by simp;omega) (wc.heap.size+1) (by simp) ?_
  intro g cap w3 hown3 hgr3 hg3 _;refine hK _ _ ?_;clear hK K
  have HBW:∀ v,Hid (Below w.heap.size wc (w3.setCell ⟨w.heap.size,3,none⟩ v)):=fun v=>HOc.out.grows ((Below.refl _ wc).alloc hsz _) (by simp;omega) hgr3
  have hp3:w3.cell? ⟨w.heap.size,3,none⟩=wc.cell? ⟨w.heap.size,3,none⟩∧w3.frozen? ⟨w.heap.size,3,none⟩=wc.frozen? ⟨w.heap.size,3,none⟩:=by
   exact zcbk
  obtain⟨hp3c,hp3f⟩:=hp3;rw[gc3] at hp3c;rw[gcf 3] at hp3f;clear hown3 hgr3 hg3;refine wt 10 (nPtr w.heap.size) ?_;refine wt 11 (.pointer (some ⟨w.heap.size,3,none⟩)) ?_;refine wr1 12 fun K hK=>?_;go_simp
  refine hK _ _ ?_;clear hK K hp3c hp3f gc3 gcf gcl HOWN hcf hc3 hcl;refine wpAny_done (by kernel_rfl) ?_ _;go_simp;go_wp2_with fail;go_ret
  exact⟨⟨_,rfl,_,rfl⟩,⟨jc,HPc.out.ap (unhide (HBW _)) HLO.out⟩,he,HAc.out.trans (Ap.of (unhide (HBW _)))⟩
 ):G:=h
theorem zbaq {G:Prop}(h:G:=by
  have hlt2:=hrd.lt;clear hrd ha hn4 HC;obtain⟨ps,hown,hk4,hkt⟩:=unhide HN4;have hlen:=NAts.length _ _ hk4;have hOB:=own_lt hown;rw[hlen] at hown;have HOWN:=hide hown;have HLEN:=hide hlen
  have HKK:=hide hkt;have hsz:=HA4.out.size;have hle:=unhide HLE;have HOB:=hide hOB;clear hown hk4 hkt HK4 HN4 hOB hlen
  go_wp2_with (at_builtin;refine wpList_append_lies _ rfl _ _ 46 rfl w.heap.size 22 i0 (.pointer none) 1 8 Tryz.underlying46 hi0 hz0 hz1 hz2 rfl (by decide) _ _ _ rfl (HOWN.out.alloc _) ⟨w4.heap.size,0,none⟩ 1 1 [nPtr p4] rfl rfl (one_cells w4 p4 _ rfl) (one_one p4) (by decide) (by unfold maxLen;omega) (by omega) (by simp;omega) (w4.heap.size+1) (by simp) ?_)
  intro g cap w5 hown' hgrow hg _;have HK5:Hid (KV w.heap.size w5 (acc++[t]) (.slice (some ⟨g,0,none⟩) (acc.length+1) cap)):=kv_push HKK.out (by rw[List.map_append];exact hown') (by simp[HLEN.out]) hgrow hg
  have HA5:=hide ((HA4.out.alloc hsz (.cells #[nPtr p4] 22)).grown hgrow (by simp;omega) (fun k hk=>(unhide HOB k hk).2))
  have HR5:=hide (HR4.out.ap (((Below.refl w.heap.size w4).alloc hsz (.cells #[nPtr p4] 22)).grown hgrow (by simp;omega) (fun k hk=>(unhide HOB k hk).2)) HLO.out)
  clear hown' hgrow hg HKK HOWN
  by_cases hx:fx c.l j2=shut
  ·have HC:=hide (take_yes c shut w5 j2 d HR5.out hx HNS.out);rw[if_pos hx] at HQ2;clear hx;go_wp2_with fail;refine cm HC.out ?_;rintro e w6 ⟨rfl,hr6,ha6⟩;have HA6:=hide (HA5.out.next ha6)
   have HR6:=hide hr6;have HK6:=hide (KV.later HK5.out ha6 HLT.out);clear hr6 ha6;go_wp2_with fail;go_ret;exact ppOk HQ2.out.symm ⟨HK6.out,fun hh=>absurd hh (by simp),by simp;omega⟩ HR6.out HA6.out
  ·have HC:=hide (take_not c shut w5 j2 d HR5.out hx);rw[if_neg hx] at HQ2;clear hx;go_wp2_with fail;refine cm HC.out ?_;rintro e w6 ⟨rfl,hb6⟩;have HA6:=hide (HA5.out.next (Ap.of hb6))
   have HR6:=hide (HR5.out.later hb6);have HK6:=hide (KV.later HK5.out (Ap.of hb6) HLT.out);clear hb6 HC
   cases hr:mustP c.l tComma j2 with
   | out=>
    exact zccj
   | bad er p=>
    have HC:=hide (must_any c tComma w6 j2 d HR6.out (by decide));rw[hr] at HC HQ2;simp only[bind_bad] at HQ2;clear hr;go_wp2_with fail;refine cm HC.out ?_;intro e w' hp;obtain⟨rfl,ha⟩:=hp
    exact⟨rfl,ppBad HQ2.out.symm (HA6.out.next ha)⟩
   | ok x7 j7=>
    have HC:=hide (must_any c tComma w6 j2 d HR6.out (by decide));have h7:j2<j7:=by
     unfold mustP at hr
     split at hr
     ·
      cases hr;omega
     ·
      cases hr
    rw[hr] at HC HQ2;simp only[bind_ok] at HQ2;clear hr;go_wp2_with fail;refine cm HC.out ?_;intro e w7 hp;obtain⟨⟨v7,rfl,rfl⟩,hrd,ha⟩:=hp;have HA7:=hide (HA6.out.next ha);have HR7:=hide hrd
    have HK7:=hide (KV.later HK6.out ha HLT.out);have hlt7:=hrd.lt;clear hrd ha HC;go_wp2_with fail
    go_roundw
    case rel=>exact⟨k,acc++[t],j7,HQ2.out,HR7.out,HA7.out,HK7.out,by simp;omega⟩
    case measure=>rw[nxt_eq HR7.out,nxt_eq HRM.out];omega
 ):G:=h
theorem zbar {G:Prop}(h:G:=by
  go_wp2_with fail;refine cm HC.out ?_;rintro e w2 ⟨⟨u2,rfl,hr2⟩,hb2⟩;obtain⟨a2,c2,rfl⟩:=hr2.form;have HB2:=hide (HB1.out.trans (hb2.mono HB1.out.size));have HN2:=hide (HN1.out.later hb2)
  have HV2:=hide (SRow.later HV1.out hb2);have HC2:=hide (texts_any (fnsT t) _ w2 hr2 (by omega));clear HC hr2 hb2;go_wp2_with fail;refine cm HC2.out ?_;rintro e w3 ⟨⟨u3,rfl,hr3⟩,hb3⟩;rw[←HFF.out] at hr3
  obtain⟨a3,c3,rfl⟩:=srow_form hr3;have HB3:=hide (HB2.out.trans (hb3.mono HB2.out.size));have HN3:=hide (HN2.out.later hb3);have HV3:=hide (SRow.later HV2.out hb3);have HR3:=hide hr3;clear HC2 hr3 hb3
  go_wp2_with (at_builtin;refine wpList_app_row rfl _ _ 38 rfl w.heap.size _ 9 i0 (.string ByteArray.empty) 16 Tryz.underlying38 hi0 hz0 hz1 hz2 rfl _ _ _ rfl HV3.out _ _ _ rfl HR3.out (srow_ones F) (by unfold maxLen;omega) (by omega) HB3.out.size ?_)
  intro v4 w4 hown4 hgr4;have hsr4:SRow w.heap.size w4 v4 VF:=by
   show World.ownsRow _ _ _ _ _ _ _
   rw[HVF.out,List.length_append,List.map_append];exact hown4
  have hob:=fun k hk=>(own_lt HV3.out k hk).2;have HB4:=hide (HB3.out.grown hgr4 HB3.out.size hob);have HN4:Hid (NTr w4 t p):=NTr.later HN0.out HB4.out;obtain⟨a4,c4,rfl⟩:=srow_form hsr4
  have HV4:=hide hsr4;clear hown4 hgr4 hsr4 hob;have HC:=hide (lets_any t p w4 HN4.out (by omega));go_wp2_with fail;refine cm HC.out ?_;rintro e w5 ⟨⟨u5,rfl,hr5⟩,hb5⟩;obtain⟨a5,c5,rfl⟩:=hr5.form
  have HB5:=hide (HB4.out.trans (hb5.mono HB4.out.size));have HV5:=hide (SRow.later HV4.out hb5);have HC2:=hide (texts_any (letsT t) _ w5 hr5 (by omega));clear HC hr5 hb5;go_wp2_with fail;refine cm HC2.out ?_
  rintro e w6 ⟨⟨u6,rfl,hr6⟩,hb6⟩;rw[←HGG.out] at hr6;obtain⟨a6,c6,rfl⟩:=srow_form hr6;have HB6:=hide (HB5.out.trans (hb6.mono HB5.out.size));have HV6:=hide (SRow.later HV5.out hb6);have HR6:=hide hr6
  clear HC2 hr6 hb6
  go_wp2_with (at_builtin;refine wpList_app_row rfl _ _ 38 rfl w.heap.size _ 9 i0 (.string ByteArray.empty) 16 Tryz.underlying38 hi0 hz0 hz1 hz2 rfl _ _ _ rfl HV6.out _ _ _ rfl HR6.out (srow_ones G) (by unfold maxLen;omega) (by omega) HB6.out.size ?_)
  intro v7 w7 hown7 hgr7;have hsr7:SRow w.heap.size w7 v7 VFG:=by
   show World.ownsRow _ _ _ _ _ _ _
   rw[HVFG.out,List.length_append,List.map_append];exact hown7
  have hob:=fun k hk=>(own_lt HV6.out k hk).2;have HB7:=hide (HB6.out.grown hgr7 HB6.out.size hob);obtain⟨a7,c7,rfl⟩:=srow_form hsr7;have HC:=hide (once_any VFG _ w7 hsr7 (by omega))
  clear hown7 hgr7 hsr7 hob;go_wp2_with fail;refine cm HC.out ?_;rintro e w8 ⟨⟨u8,rfl,hr8⟩,hb8⟩;obtain⟨a8,c8,rfl⟩:=srow_form hr8;have HR8:=hide (srow_mono hr8 HB7.out.size)
  have HB8:=hide (HB7.out.trans (hb8.mono HB7.out.size));clear HC hr8 hb8;go_wp2_with fail;go_ret;exact⟨⟨_,rfl,HR8.out⟩,HB8.out⟩
 ):G:=h
theorem zbas {G:Prop}(h:G:=by
  have HB2L:Hid (w.heap.size≤b2):=by show _≤_;omega
  clear hwz hset hk4 hS4 hr4 hp4 q0' q1' qf hrl hb4 HX0 HX1 HT2 HB2 HP2 hs2 hS3 hb2g hr3 HW2;go_wp2_with fail;have HX0:Hid (wz.cell? ⟨w.heap.size,0,none⟩=some (sPtr b2)):=by show _=_;rw[cell_of HPZ.out];rfl
  have HX1:Hid (wz.cell? ⟨w.heap.size,1,none⟩=some (.bool true)):=by show _=_;rw[cell_of HPZ.out];rfl
  have HK3:Hid (wz.cell? ⟨p,3,none⟩=some (.slice ka kn kc)):=keepC HBZ.out HC3.out;have hS0:Below wz.heap.size wz wz.drew:=(Below.refl _ _).drew
  refine wp_region_U 6 (fun X=>Below wz.heap.size wz X) (by kernel_rfl) ?_;refine uh 0 (sPtr tb) hS0 ?_;refine uh 1 (nPtr p) hS0 ?_;refine uh 2 (nPtr p) hS0 ?_;refine uh 3 (.pointer (some ⟨p,3,none⟩)) hS0 ?_
  refine ug 4 (.slice ka kn kc) rfl (Or.inl ⟨by kernel_rfl,fun X hX=>by have h0:=keepC hX HK3.out;go_simp⟩) hS0 ?_
  refine ug 5 (plV2 (sPtr b2) true) rfl (Or.inl ⟨by kernel_rfl,fun X hX=>by have h0:=keepC hX HX0.out;have h1:=keepC hX HX1.out;go_simp⟩) hS0 ?_
  exact zdah
 ):G:=h
theorem zbat {G:Prop}(h:G:=by
  have HB2L:Hid (w.heap.size≤b2):=by show _≤_;omega
  clear hwz hset hk4 hS4 hr4 hp4 q0' q1' qf hrl hb4 HX0 HX1 HT2 HB2 HP2 hs2 hS3 hb2g hr3 HW2;go_wp2_with fail;have HX0:Hid (wz.cell? ⟨w.heap.size,0,none⟩=some (sPtr b2)):=by show _=_;rw[cell_of HPZ.out];rfl
  have HX1:Hid (wz.cell? ⟨w.heap.size,1,none⟩=some (.bool sb)):=by show _=_;rw[cell_of HPZ.out];rfl
  have HK3:Hid (wz.cell? ⟨p,3,none⟩=some (.slice ka kn kc)):=keepC HBZ.out HC3.out;have hS0:Below wz.heap.size wz wz.drew:=(Below.refl _ _).drew
  refine wp_region_U 6 (fun X=>Below wz.heap.size wz X) (by kernel_rfl) ?_;refine uh 0 (sPtr tb) hS0 ?_;refine uh 1 (nPtr p) hS0 ?_;refine uh 2 (nPtr p) hS0 ?_;refine uh 3 (.pointer (some ⟨p,3,none⟩)) hS0 ?_
  refine ug 4 (.slice ka kn kc) rfl (Or.inl ⟨by kernel_rfl,fun X hX=>by have h0:=keepC hX HK3.out;go_simp⟩) hS0 ?_
  refine ug 5 (plV2 (sPtr b2) sb) rfl (Or.inl ⟨by kernel_rfl,fun X hX=>by have h0:=keepC hX HX0.out;have h1:=keepC hX HX1.out;go_simp⟩) hS0 ?_
  exact zdah
 ):G:=h
end Go.Proofs.YtoimgcjbcbhclaaGreatDoor
