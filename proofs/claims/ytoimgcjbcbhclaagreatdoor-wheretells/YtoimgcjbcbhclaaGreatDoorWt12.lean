/-
  Parts of proofs that stand more than once.
-/
import Derived.Test.YtoimgcjbcbhclaaGreatDoorWt11
set_option maxRecDepth 100000
set_option maxHeartbeats 16000000
namespace Go.Proofs.YtoimgcjbcbhclaaGreatDoor
open Go.RowKit
theorem zcai {G:Prop}(h:G:=by
  have HC3:=hide (HPC.out _ _ _ hr2.symm (by nofun) HP3.out HK3.out);rw[hr2] at HQ;have HQQ:Hid (r=.bad er pl):=HQ.out.symm;clear hr2 HQ hnj
  generalize tkA c.l j=tk at *
  go_wp2_with fail;refine cm HC1.out ?_;rintro e w2 ⟨rfl,rfl⟩;clear HC1;go_wp2_with fail
  go_region
  go_wp2_with fail
  go_region
  go_wp2_with fail;refine cm HC3.out ?_;rintro e w3 ⟨⟨v,rfl,p3,rfl⟩,⟨j3,hp3⟩,he,ha3⟩;have HP4:=hide hp3;have HA4:=hide (HA3.out.next ha3)
  clear hp3 ha3 HC3 HP3 HA3 HN3 HK3 e0 e1 e2 e3 e4 e5 e6 e7 e8 h0 h1 f1 k0 k1 k2 k3 kg;go_wp2_with fail
  go_roundg k
  case measure=>omega
  case rel=>exact Or.inr ⟨er,pl,HQQ.out,he,⟨j3,(HP4.out.alloc _).alloc _⟩,(HA4.out.alloc HA4.out.size _).alloc (by have:=HA4.out.size;simp;omega) _,_,rfl⟩
 ):G:=h
theorem zcaj {G:Prop}(h:G:=by
  go_simp;refine hK _ _ ?_;clear hK K;exact Go.Proofs.YtoimgcjbcbhclaaGreatDoor.wz 13 4 (CONT wc pc HHY.out)
 ):G:=h
theorem zcak {G:Prop}(h:G:=by
  have HC:=hide (rhead_any HF.out _ d (i+1) _ hd hr.symm (by nofun) HK2.out.ps);rw[hr] at HQ;have hq:r=.bad er pl:=unhide HQ;subst hq;clear hr HQ;go_wp2_with fail;refine cm HC.out ?_
  rintro e wh ⟨⟨v,rfl,q,rfl⟩,⟨j,hp1⟩,he,ha⟩;have nb0:=(ha.block _ (lt_of_heap HK2.out.nd) (by have:=unhide HLT;omega)).trans HK2.out.nd
  have hA0:=HK2.out.ap.next ha;have HC2:=hide (rstatement2_old c wh j er pl (d:Int) he hp1);have HNB:=hide nb0;have HA0:=hide hA0;clear hp1 ha HC nb0 hA0 c0 c1 c2 c3 cf cf0 cf3 hnl x1 xf;go_wp2_with fail
  refine cm HC2.out ?_;rintro e wv ⟨⟨v,rfl,q2,rfl⟩,⟨j2,hp2⟩,_,ha2⟩;exact zbay
 ):G:=h
theorem zcal {G:Prop}(h:G:=by
  go_simp;refine hK _ _ ?_;clear hK K;exact Go.Proofs.YtoimgcjbcbhclaaGreatDoor.wz 12 4 (CONT wc pc HHY.out)
 ):G:=h
theorem zcam {G:Prop}(h:G:=by
  go_simp;refine hK _ _ ?_;clear hK K;exact Go.Proofs.YtoimgcjbcbhclaaGreatDoor.wz 11 4 (CONT wc pc HY.out)
 ):G:=h
theorem zcan {G:Prop}(h:G:=by
  have hbb:w3.heap[p0]? = wc.heap[p0]?:=(hgr3.block p0 (by simp;omega) (fun e=>HOc.out.own e.symm)).trans (Below.heap_alloc wc _ p0 gcl)
  exact zbbn
 ):G:=h
theorem zcao {G:Prop}(h:G:=by
  have t3:(((s[q].toNat:Nat):Int) != 92)=true:=by rw[bne,show (92:Int)=(((92:UInt8).toNat:Nat):Int) from rfl,b3];simp[c3]
  rw[strR_plain s q said hqs (by rw[hbt];exact c1) (by rw[hbt];exact c2) (by rw[hbt];exact c3),hbt] at hqe
  have HQ:=hide hqe;have hos:=ofB_size said;have hos2:(ofBytes said).size≤3000:=by omega
  clear hqe hos b1 b2 b3 c1 c2 c3 hbt;go_wp2_with fail
  go_round
  case rel=>exact⟨q+1,said++[s[q]],by omega,by omega,by simp;omega,by go_num,by rw[cat1 s q said hqs],HQ.out⟩
  case measure=>simp[intOf];omega
 ):G:=h
theorem zcap {G:Prop}(h:G:=by
  refine uq1 5 fun K hK=>?_
  refine step_append_lies _ rfl _ _ 114 rfl w0.heap.size 116 i0 (.agg #[.int .i64 0,.slice none 0 0,.bool false]) 3 40 Tryz.underlying114 hi0 hz0 hz1 hz2 rfl (by decide) _ _ _ rfl hrow1 ⟨gn,0,none⟩ 1 1 [.int .i64 o,.slice na nl nc,.bool b] rfl rfl (World.news_of_block hN4) (three_ones o na nl nc b) (by decide) (by unfold maxLen;omega) (by omega) hS4.size _ rfl ?_
  intro g5 c5 Z5 hrow5 hgr5 hg5 _;have hS5:Below w0.heap.size w0 Z5:=hS4.trans ((Below.refl w0.heap.size _).grown hgr5 hS4.size (fun k hk=>(own_lt hrow1 k hk).2));exact zbbm
 ):G:=h
theorem zcaq {G:Prop}(h:G:=by
  go_wp2_with fail;refine(HLR.out.word (s.extract j e)).mono ?_;rw[HW.out];rintro e3 w3 ⟨rfl,rfl⟩
  go_wp2_with (at_builtin;refine wpList_append_own _ rfl _ _ 161 rfl (w.heap.size+1) 167 i0 noTok 4 40 Tryz.underlying161 hi hz0 hz1 hz2 rfl (by decide) _ _ _ rfl (HI.out.own.alloc _) ⟨w3.heap.size,0,none⟩ 1 1 [.int .i64 2,.string (s.extract j e),.int .i64 0,.int .i64 (j:Int)] rfl rfl ?c1 ?c2 ?c3 ?c4 ?c5 ?_)
  case c1=>
   exact zbaz
  case c2=>
   exact zbbr
  case c3=>unfold maxLen;omega
  case c4=>omega
  case c5=>have:=HI.out.size;simp;omega
  exact zbel
 ):G:=h
theorem zcar {G:Prop}(h:G:=by
  go_wp2_with fail;refine(HLR.out.word (s.extract j e)).mono ?_;rw[HW.out];rintro e3 w3 ⟨rfl,rfl⟩
  go_wp2_with (at_builtin;refine wpList_append_own _ rfl _ _ 161 rfl (w.heap.size+1) 167 i0 noTok 4 40 Tryz.underlying161 hi hz0 hz1 hz2 rfl (by decide) _ _ _ rfl (HI.out.own.alloc _) ⟨w3.heap.size,0,none⟩ 1 1 [.int .i64 1,.string (s.extract j e),.int .i64 0,.int .i64 (j:Int)] rfl rfl ?c1 ?c2 ?c3 ?c4 ?c5 ?_)
  case c1=>
   exact zbaz
  case c2=>
   exact zbbr
  case c3=>unfold maxLen;omega
  case c4=>omega
  case c5=>have:=HI.out.size;simp;omega
  exact zbem
 ):G:=h
theorem zcas {G:Prop}(h:G:=by
  have hgo:∀ b,(Value.slice (some ⟨gl,0,none⟩) 1 1).ownBlock=some b→b<w2.heap.size∧b≠w.heap.size+1:=by
   intro b hb;have h1:gl=b:=by simpa[Value.ownBlock] using hb
   subst h1;exact⟨HGU.out,HGN.out⟩
  exact Or.inr ⟨by decide,b2,.slice (some ⟨gl,0,none⟩) 1 1,rfl,HB2L.out,by have:=unhide HB2U;omega,(unhide HSZ b2 HB2U.out HB2N.out).trans HLB.out,owns_stay (I:=fun b=>b<w2.heap.size∧b≠w.heap.size+1) (fun b hb _=>unhide HSZ b hb.1 hb.2) hgo HLR.out⟩
 ):G:=h
theorem zcat {G:Prop}(h:G:=by
  obtain⟨gc3,gcf,gcl⟩:=(Open.later HOP.out ha0 HLT.out).cell;have gcl1:p0<wc.heap.size+1:=by omega
  have gcl2:p0<wc.heap.size+1+1:=by omega
  clear hrd ha ha0 hnc hmc;refine hK _ _ ?_;clear hK K;refine wr1 7 fun K hK=>?_;go_simp;refine hK _ _ ?_;clear hK K;refine wr1 8 fun K hK=>?_;go_simp
  refine cm (node_any 14 noText (.slice (some ⟨wc.heap.size,0,none⟩) 1 1) (wc.alloc (.cells #[nPtr pc] 22)) ⟨_,_,_,rfl⟩) ?_;rintro e wd0 ⟨rfl,rfl⟩;exact zbbc
 ):G:=h
theorem zcau {G:Prop}(h:G:=by
  have u1:(((s[q+1].toNat:Nat):Int)==110)=true:=by rw[k1];rfl
  rw[strR_esc s q said 10 hqs (by rw[hbt];exact c3) hq4 (by rw[hbt2,k1];rfl)] at hqe
  have HQ:=hide hqe;have hos:=ofB_size said;have hos2:(ofBytes said).size≤3000:=by omega
  clear hqe hos b1 b2 b3 c1 c2 c3 hbt hbt2 d1 d2 d3 k1;go_wp2_with fail
  go_round
  case rel=>exact⟨q+2,said++[10],by omega,by omega,by simp;omega,by go_num,by rw[cat2],HQ.out⟩
  case measure=>simp[intOf];omega
 ):G:=h
theorem zcav {G:Prop}(h:G:=by
  have HC:=hide (must_any c tEq wf j1 d HRwf.out (by decide));rw[HMU.out] at HC;go_wp2_with fail;refine cm HC.out ?_;intro e wm hp;obtain⟨⟨vm,rfl,rfl⟩,hrd,ha⟩:=hp;clear HC;have HRm:=hide hrd
  have HAm:=hide (HAwf.out.next ha);replace HN1:=hide (nat_later HN1.out ha HLT.out);clear hrd ha HRwf HAwf HPT f10
  cases hr:deepP c.l F.vl d (j1+1) with
  | out=>
   exact zbal
  | bad er p=>
   exact zbes
  | ok x2 j2=>
   exact zbch
 ):G:=h
theorem zcaw {G:Prop}(h:G:=by
  have hB3:Below wc.heap.size wc _:=(((Below.refl wc.heap.size wc).alloc (Nat.le_refl _) (.cells #[nPtr pc] 22)).alloc (by simp) (nodeObj 14 noText 0 (.slice (some ⟨wc.heap.size,0,none⟩) 1 1))).alloc (by simp <;> omega) (.cells #[nPtr (wc.heap.size+1)] 22)
  have hbb:w3.heap[w.heap.size]? = wc.heap[w.heap.size]?:=(hgr3.block w.heap.size (by simp;omega) (fun e=>HHY.out.op.own e.symm)).trans (hB3.block w.heap.size gcl)
  exact zbbn
 ):G:=h
theorem zcax {G:Prop}(h:G:=by
  have HE:=hide he;clear he;go_enter Tryz.func159,Tryz.ntmps159;go_wp2_with fail;refine(digit_any _).mono ?_;rintro e1 w1 ⟨x,rfl,hx,hbel⟩;obtain⟨hc,hf⟩:=bcell hbel;have HBEL:=hide hbel
  have HX:=hide hx;clear hx hbel;go_wp2_with fail;have hpast:=past_any s k x digB w1 (by unfold maxLen;omega) (by omega) HX.out
  rw[HE.out] at hpast;refine hpast.mono ?_;clear hpast;rintro e2 w2 ⟨rfl,rfl⟩;exact zbbq
 ):G:=h
theorem zcay {G:Prop}(h:G:=by
  go_simp;refine hK _ _ ?_;clear hK K;exact Go.Proofs.YtoimgcjbcbhclaaGreatDoor.wz 10 4 (CONT wc pc HY.out)
 ):G:=h
theorem zcaz {G:Prop}(h:G:=by
  go_wp2_with fail
  go_round
  case rel=>exact⟨q+2,said++[s[q+1]],by omega,by omega,by simp;omega,by go_num,by rw[cat1 s (q+1) said hq4],HQ.out⟩
  case measure=>simp[intOf];omega
 ):G:=h
theorem zcba {G:Prop}(h:G:=by
  obtain⟨gc3,gcf,gcl⟩:=(Open.later HOP.out ha0 HLT.out).cell;clear hrd ha ha0 hnc;exact zbbc
 ):G:=h
theorem zcbb {G:Prop}(h:G:=by
  obtain⟨gc3,gcf,gcl⟩:=(Open.later HOP.out ha0 HLT.out).cell;clear hrd ha ha0 hnc;exact zbaj
 ):G:=h
theorem zcbc {G:Prop}(h:G:=by
  rintro e w9 ⟨rfl,hq9⟩;refine hK.out _ _ (fun e=>by cases e) ?_;clear hK K;refine udone (by kernel_rfl) ?_ _;have HQ9:=hide hq9;clear hq9 hS0;go_simp
  go_end0
  exact⟨rfl,HQ9.out⟩
 ):G:=h
theorem zcbd {G:Prop}(h:G:=by
  show Below _ _ _
  rw[hwz];exact((HB2.out.trans (hS9.mono HB2.out.size)).setCell (p:=⟨w.heap.size+1,0,none⟩) (by simp) _).setCell (p:=⟨w.heap.size+1,1,none⟩) (by simp) _
 ):G:=h
theorem zcbe {G:Prop}(h:G:=by
  refine wr1 8 fun K2 hK2=>?_;go_simp;refine hK2 _ _ ?_;clear hK2 K2;refine wpAny_done (by kernel_rfl) ?_ _;go_simp
  go_wp2
  refine bodyPost_ret (v:=.tuple #[.slice (some ⟨g,0,none⟩) (acc.length+1) cap,.agg #[.int .i64 0,.int .i64 (-1)]]) (by simp[results,Tryz.results109,go_sem,p0,p1]) rfl ⟨_,rfl,?_,HI5.out.out _ _⟩
  exact ref_row HI5.out (by simp) _ _
 ):G:=h
theorem zcbf {G:Prop}(h:G:=by
  have HHY:Hid (CallBad _ _ _ _ _ _ _ wc pc):=CallBad.mk HAc.out hpc HOc.out he;obtain⟨gc3,gcf,gcl⟩:=HOc.out.cell;have gcl1:w.heap.size<wc.heap.size+1:=by omega
  have gcl2:w.heap.size<wc.heap.size+2:=by omega
  have gcl3:w.heap.size<wc.heap.size+1+1:=by omega
  clear ha hpc;exact zbbd
 ):G:=h
theorem zcbg {G:Prop}(h:G:=by
  have HHY:Hid (CallBad _ _ _ _ _ _ _ wc pc):=CallBad.mk HAc.out hpc HOc.out he;obtain⟨gc3,gcf,gcl⟩:=HOc.out.cell;have gcl1:w.heap.size<wc.heap.size+1:=by omega
  have gcl2:w.heap.size<wc.heap.size+2:=by omega
  have gcl3:w.heap.size<wc.heap.size+1+1:=by omega
  clear ha hpc;exact zbaf
 ):G:=h
theorem zcbh {G:Prop}(h:G:=by
  rintro e5 w5 ⟨b,rfl,hb,hlb,hbel5⟩;have hbelA:=HBEL3.out.trans (hbel5.mono HBEL3.out.size);have hlb2:=Nat.le_trans HBEL3.out.size hlb;exact zbbv
 ):G:=h
theorem zcbi {G:Prop}(h:G:=by
  show World.ownsRow _ _ _ _ _ _ _
  rw[HF.out,List.length_append,List.map_append];exact hown7
 ):G:=h
theorem zcbj {G:Prop}(h:G:=by
  have HC2:=hide (rstatement2_any HF.out wh d j _ hd hr.symm (by nofun) HP0.out);rw[hr] at HQ2;have hq:r=.bad er pl:=unhide HQ2;subst hq;clear hr HQ2;go_wp2_with fail;refine cm HC2.out ?_
  rintro e wv ⟨⟨v,rfl,q2,rfl⟩,⟨j2,hp2⟩,he,ha2⟩;exact zbay
 ):G:=h
theorem zcbk {G:Prop}(h:G:=by
  have hbb:w3.heap[w.heap.size]? = wc.heap[w.heap.size]?:=(hgr3.block w.heap.size (by simp;omega) (fun e=>HOc.out.own e.symm)).trans (Below.heap_alloc wc _ w.heap.size gcl)
  exact zdai
 ):G:=h
theorem zcbl {G:Prop}(h:G:=by
  show World.ownsRow _ _ _ _ _ _ _
  rw[HML.out,HM.out,List.map_append];exact hown4
 ):G:=h
theorem zcbm {G:Prop}(h:G:=by
  obtain⟨gc3,gcf,gcl⟩:=HOc.out.cell;have gcl1:w.heap.size<wc.heap.size+1:=by omega
  have gcl2:w.heap.size<wc.heap.size+2:=by omega
  have gcl3:w.heap.size<wc.heap.size+1+1:=by omega
  clear ha hpc hnc;exact zbbd
 ):G:=h
theorem zcbn {G:Prop}(h:G:=by
  obtain⟨gc3,gcf,gcl⟩:=HOc.out.cell;have gcl1:w.heap.size<wc.heap.size+1:=by omega
  have gcl2:w.heap.size<wc.heap.size+2:=by omega
  have gcl3:w.heap.size<wc.heap.size+1+1:=by omega
  clear ha hpc hnc;exact zbaf
 ):G:=h
theorem zcbo {G:Prop}(h:G:=by
  have h:=unhide HOWN;rw[List.take_length] at h;rw[List.take_length];exact h
 ):G:=h
theorem zcbp {G:Prop}(h:G:=by
  intro j u hj
  match j,hj with
  | 0,hj=>simp at hj;subst hj;simp[Addr.add]
  | 1,hj=>simp at hj;subst hj;simp[Addr.add]
  | 2,hj=>simp at hj;subst hj;simp[Addr.add]
  | 3,hj=>simp at hj;subst hj;simp[Addr.add]
 ):G:=h
theorem zcbq {G:Prop}(h:G:=by
  have hst:=pastN_stop digB s q hqs hd;have hqq:e=q:=by omega
  subst hqq;have HD1:=hide hd;clear hd hst hqe;go_wp2_with fail;refine(isDigit_any _ _).mono ?_;rw[HD1.out];rintro e2 w2 ⟨rfl,rfl⟩;exact zbdc
 ):G:=h
theorem zcbr {G:Prop}(h:G:=by
  have hst:=pastN_stop digB s q hqs hd;have hqq:e=q:=by omega
  subst hqq;have HD1:=hide hd;clear hd hst hqe;go_wp2_with fail;refine(isDigit_any _ _).mono ?_;rw[HD1.out];rintro e2 w2 ⟨rfl,rfl⟩;exact zbag
 ):G:=h
theorem zcbs {G:Prop}(h:G:=by
  rw[extract_at s j e i hes hi];have hi2:i<e - j:=by rw[extract_size s j e (by omega) hes] at hi;exact hi
  exact past_in digB s (s.size - j) j (by omega) (j+i) (by omega) (by rw[HEE.out];omega) (by omega)
 ):G:=h
theorem zcbt {G:Prop}(h:G:=by
  rw[extract_at s k e i hes hi];have hi2:i<e - k:=by rw[extract_size s k e (by omega) hes] at hi;exact hi
  exact past_in digB s (s.size - k) k (by omega) (k+i) (by omega) (by rw[HE.out];omega) (by omega)
 ):G:=h
theorem zcbu {G:Prop}(h:G:=by
  clear hp1 ha hn HC;go_wp2_with fail;go_ret;exact⟨⟨_,rfl,q,rfl,HN.out⟩,HP.out,HA.out⟩
 ):G:=h
theorem zcbv {G:Prop}(h:G:=by
  go_simp;refine hK _ _ ?_;clear hK K;exact Go.Proofs.YtoimgcjbcbhclaaGreatDoor.wz 8 4 (CONT wc pc HHY.out)
 ):G:=h
theorem zcbw {G:Prop}(h:G:=by
  split at h
  ·exact zbeb
  ·obtain⟨u,i1,h1,h⟩:=binds h;have h2:=deep_kw (l:=l) (hF.st _ _) u i1 h1;have h4:=ih _ _ _ _ h;rw[ills_app,ills_cons,ills_nil] at h4;exact zbcu
 ):G:=h
theorem zcbx {G:Prop}(h:G:=by
  show Below _ _ _
  rw[hw2];exact((HBl.out.trans (hS4.mono HBl.out.size)).setCell (p:=⟨w.heap.size,0,none⟩) (Nat.le_refl _) _).setCell (p:=⟨w.heap.size,1,none⟩) (Nat.le_refl _) _
 ):G:=h
theorem zcby {G:Prop}(h:G:=by
  rintro e5 w5 ⟨rfl,hb5⟩;have hbelA:=HBEL3.out.trans (hb5.mono HBEL3.out.size);exact zbbz
 ):G:=h
theorem zcbz {G:Prop}(h:G:=by
  go_wp2_with fail
  go_roundw
  case rel=>exact⟨k+1,by omega,by go_num,by first|trivial | (rw[HTK.out];rfl)|rfl,by first|rfl|trivial⟩
  case measure=>simp[intOf];omega
 ):G:=h
theorem zcca {G:Prop}(h:G:=by
  clear hp1 ha HC;go_wp2_with fail;go_ret;exact⟨⟨_,rfl,_,rfl⟩,HP.out,he,HA.out⟩
 ):G:=h
theorem zccb {G:Prop}(h:G:=by
  have HM1:=hide (Open.later HOP.out (Ap.of hby) HLT.out).ev;clear hby
  cases hr:mustP c.l tSemi j1 with
  | out=>
   exact zbal
  | bad er p=>
   exact zbev
  | ok x2 j2=>
   exact zbdj
 ):G:=h
theorem zccc {G:Prop}(h:G:=by
  go_wp2_with fail;go_ret;exact⟨⟨_,rfl,_,rfl⟩,⟨j,HP1.out⟩,he,HA1.out⟩
 ):G:=h
theorem zccd {G:Prop}(h:G:=by
  have HR2:=hide hr2;have HW2:=hide hb2;rw[←hW2];clear hW2 hr2 hb2;refine hK.out _ _ HR2.out (fun _=>?_);clear hK K;refine wh 12 (.bool false) HR2.out ?_;exact zbcf
 ):G:=h
theorem zcce {G:Prop}(h:G:=by
  have HR2:=hide hr2;have HW2:=hide hb2;rw[←hW2];clear hW2 hr2 hb2;refine hK.out _ _ HR2.out (fun _=>?_);clear hK K;refine wh 12 (.bool true) HR2.out ?_;exact zbcf
 ):G:=h
theorem zccf {G:Prop}(h:G:=by
  clear HC hr6 hb6;go_wp2_with fail
  go_roundw
  case rel=>exact⟨k+1,by omega,by go_num,by rw[HTK.out];exact HR6.out,HB6.out⟩
  case measure=>simp[intOf];omega
 ):G:=h
theorem zccg {G:Prop}(h:G:=by
  go_wp2_with fail;go_ret;exact⟨⟨_,rfl,q,rfl,H1.out⟩,H2.out,H3.out⟩
 ):G:=h
theorem zcch {G:Prop}(h:G:=by
  go_wp2_with fail;have hds:∀ i,(hi:i<(s.extract j e).size)→digB ((s.extract j e)[i].toNat:Int)=true:=fun i hi=>by
   exact zbbp
  exact zbdi
 ):G:=h
theorem zcci {G:Prop}(h:G:=by
  go_wp2_with fail;go_ret;exact⟨⟨_,rfl,q,rfl⟩,H2.out,he,H3.out⟩
 ):G:=h
theorem zccj {G:Prop}(h:G:=by
  rw[hr] at HQ2;simp only[bind_out] at HQ2;exact absurd HQ2.out.symm HO.out
 ):G:=h
theorem zcck {G:Prop}(h:G:=by
  clear hr;go_wp2_with fail;refine cm HC.out ?_;intro e w' hp;obtain⟨rfl,ha⟩:=hp;exact⟨rfl,ppBad HS.out.symm (HA0.out.next ha)⟩
 ):G:=h
theorem zccl {G:Prop}(h:G:=by
  have HC:=hide (rmust_old c _ jm _ _ he tShut HP.out);go_wp2_with fail;refine cm HC.out ?_;rintro e wm ⟨rfl,rfl⟩;clear HC;exact zbec
 ):G:=h
theorem zccm {G:Prop}(h:G:=by
  refine uq1 6 fun K hK=>?_;go_simp;refine cm (unhide HTA _ (HB2.out.trans ((Below.refl _ _).drew.mono HB2.out.size))) ?_;exact zbbj
 ):G:=h
theorem zccn {G:Prop}(h:G:=by
  go_simp;refine cm HC.out ?_;intro e w' hp;obtain⟨rfl,ha⟩:=hp;exact⟨rfl,ppBad HS.out.symm (HAy.out.drew.next ha)⟩
 ):G:=h
theorem zcco {G:Prop}(h:G:=by
  go_wp2_with fail
  go_roundw
  case rel=>exact⟨k+1,by omega,by go_num,HG6.out,HA6.out⟩
  case measure=>simp[intOf];omega
 ):G:=h
theorem zccp {G:Prop}(h:G:=by
  intro j u hj;have hl:j<n * 1:=by
   rw[←h.1];exact(List.getElem?_eq_some_iff.1 hj).1
  have h3:=h.cellAt j hl;exact zbet
 ):G:=h
theorem zbaa {G:Prop}(h:G:=by
  go_wp2_with fail;obtain⟨wl,hw2⟩:∃ wl,wl=w1.setCell ⟨w.heap.size,1,none⟩ (.bool true):=⟨_,rfl⟩;rw[←hw2]
  have hb2:Below w.heap.size w wl:=by rw[hw2];exact HB1.out.setCell (p:=⟨w.heap.size,1,none⟩) (Nat.le_refl _) _
  have hs2:wl.heap.size=w.heap.size+2:=by rw[hw2];simpa using unhide HS1
  have hp2:wl.heap[w.heap.size]? = some (.cells #[.pointer oa,.bool true] 112 (0,0)):=by rw[hw2,heap_set HP1.out];rfl
  have hr2:wl.heap[w.heap.size+1]? = some (.cells #[.pointer none,.bool false] 112 (0,0)):=by rw[hw2,ne_set (by omega)];exact unhide HR1
  have HBl:=hide hb2;have HSl:Hid (w.heap.size+2≤wl.heap.size):=by show _≤_;omega
  have HPl:=hide hp2;have HRl:=hide hr2;clear hw2 hb2 hs2 hp2 hr2 k0 k1 k3 s0 s1 sf hpl1 hql1 hwl1 HB1 HS1 HP1 HR1 HW1 HWA;have hs2:=unhide HSl
  have HX0:Hid (wl.cell? ⟨w.heap.size,0,none⟩=some (.pointer oa)):=by show _=_;rw[cell_of HPl.out];rfl
  have HX1:Hid (wl.cell? ⟨w.heap.size,1,none⟩=some (.bool true)):=by show _=_;rw[cell_of HPl.out];rfl
  have HT2:Hid (wl.cell? ⟨tb,0,none⟩=some (.map (some mb))):=keepC HBl.out HT0.out;have HC2:Hid (wl.cell? ⟨p,1,none⟩=some (.string tx)):=keepC HBl.out HC1.out
  have hS0:Below wl.heap.size wl wl.drew:=(Below.refl _ _).drew;refine wp_region_U 14 (fun X=>Below wl.heap.size wl X) (by kernel_rfl) ?_;obtain⟨wd,hwd⟩:∃ wd,wd=wl.drew:=⟨_,rfl⟩
  have hsd:wd.heap.size=wl.heap.size:=by rw[hwd];rfl
  rw[←hwd] at hS0 ⊢;have HSD:=hide hsd;clear hwd hsd;refine ug 0 (plV2 (.pointer oa) true) rfl (Or.inl ⟨by kernel_rfl,fun X hX=>by have h0:=keepC hX HX0.out;have h1:=keepC hX HX1.out;go_simp⟩) hS0 ?_
  refine uh 1 (sPtr tb) hS0 ?_;refine uh 2 (sPtr tb) hS0 ?_;refine uh 3 (.pointer (some ⟨tb,0,none⟩)) hS0 ?_
  refine ug 4 (.map (some mb)) rfl (Or.inl ⟨by kernel_rfl,fun X hX=>by have h0:=keepC hX HT2.out;go_simp⟩) hS0 ?_
  refine uh 5 (nPtr p) hS0 ?_;refine ug 6 (.int .i64 (no:Int)) rfl (Or.inl ⟨by kernel_rfl,fun X hX=>by have h0:=unhide HNUM X (HBl.out.trans (hX.mono HBl.out.size));go_simp⟩) hS0 ?_
  refine uh 7 (nPtr p) hS0 ?_;refine uh 8 (nPtr p) hS0 ?_;refine uh 9 (.pointer (some ⟨p,1,none⟩)) hS0 ?_
  refine ug 10 (.string tx) rfl (Or.inl ⟨by kernel_rfl,fun X hX=>by have h0:=keepC hX HC2.out;go_simp⟩) hS0 ?_
  refine uq1 11 fun K hK=>?_;go_simp;have hS3:Below wl.heap.size wl (wd.alloc (.cells #[.string tx] 9)):=hS0.alloc (by have:=unhide HSD;omega) _
  have HL3:Hid (SRow wl.heap.size (wd.alloc (.cells #[.string tx] 9)) (.slice (some ⟨wd.heap.size,0,none⟩) 1 1) [tx]):=⟨rfl,Or.inr ⟨wd.heap.size,1,#[.string tx],rfl,by have:=unhide HSD;omega,heap_new _ _,Nat.le_refl _,by decide,rfl,rfl⟩⟩
  refine hK.out _ _ (fun _=>hS3) ?_;clear hK K;obtain⟨w3,hw3⟩:∃ w3,w3=wd.alloc (.cells #[.string tx] 9):=⟨_,rfl⟩;have HD3:Hid (wd.heap.size<w3.heap.size):=by show _<_;rw[hw3];simp
  rw[←hw3] at hS3 HL3 ⊢;clear hw3 hS0;obtain⟨gl,hgl2⟩:∃ gl,gl=wd.heap.size:=⟨_,rfl⟩;have HGE:Hid (wl.heap.size≤gl):=by show _≤_;rw[hgl2];have:=unhide HSD;omega
  rw[←hgl2] at HL3 HD3 ⊢;clear hgl2 HSD;refine uh 12 (.agg #[.int .i64 (no:Int),.slice (some ⟨gl,0,none⟩) 1 1,.bool false,.pointer none]) hS3 ?_;refine uq1 13 fun K hK=>?_;go_simp
  refine cm (in_any oa true no (some ⟨gl,0,none⟩) 1 1 false none w3) ?_;rintro e w4 ⟨⟨rfl,hk4⟩,hb4⟩;have hS4:Below wl.heap.size wl w4:=hS3.trans (hb4.mono hS3.size);have hl4:=SRow.later HL3.out hb4
  obtain⟨b2,hb2e⟩:∃ b2,b2=w3.heap.size+1:=⟨_,rfl⟩;have hb2g:wl.heap.size≤b2:=by rw[hb2e];have:=hS3.size;omega
  have hb2l:b2<w4.heap.size:=by rw[hb2e];exact lt_of_heap hk4
  rw[←hb2e] at hk4 ⊢;have hgl4:gl<w4.heap.size:=Nat.lt_of_lt_of_le HD3.out hb4.size
  have hp4:w4.heap[w.heap.size]? = some (.cells #[.pointer oa,.bool true] 112 (0,0)):=by rw[hS4.block _ (by omega)];exact unhide HPl
  have hr4:w4.heap[w.heap.size+1]? = some (.cells #[.pointer none,.bool false] 112 (0,0)):=by rw[hS4.block _ (by omega)];exact unhide HRl
  have q0':w4.cell? ⟨w.heap.size,0,none⟩=some (.pointer oa):=by rw[cell_of hp4];rfl
  have q1':w4.cell? ⟨w.heap.size,1,none⟩=some (.bool true):=by rw[cell_of hp4];rfl
  have qf:=frozen_of hp4;have hrl:=lt_of_heap hp4;refine hK.out _ _ (fun _=>hS4) ?_;clear hK K hb2e;refine uq1 14 fun K hK=>?_;go_simp;refine hK.out _ _ (fun e=>by cases e) ?_;clear hK K
  refine udone (by kernel_rfl) ?_ _;go_simp;obtain⟨w2,hw2⟩:∃ w2,w2=(w4.setCell ⟨w.heap.size,0,none⟩ (sPtr b2)).setCell ⟨w.heap.size,1,none⟩ (.bool true):=⟨_,rfl⟩;rw[←hw2]
  have hset:∀ k,k≠w.heap.size→w2.heap[k]? = w4.heap[k]?:=fun k hk=>by rw[hw2,ne_set hk,ne_set hk]
  have hzs:w2.heap.size=w4.heap.size:=by rw[hw2];simp
  have hge:=unhide HGE;have HP2:Hid (w2.heap[w.heap.size]? = some (.cells #[sPtr b2,.bool true] 112 (0,0))):=by show _=_;rw[hw2,heap_set (heap_set hp4 _)];rfl
  have HR2:Hid (w2.heap[w.heap.size+1]? = some (.cells #[.pointer none,.bool false] 112 (0,0))):=(hset _ (by omega)).trans hr4;have HB2:Hid (Below w.heap.size w w2):=by
   exact zcbx
  have HS2:Hid (w.heap.size+2≤w2.heap.size):=by show _≤_;have:=hS4.size;omega
  have HLB:Hid (w2.heap[b2]? = some (scObj no (.slice (some ⟨gl,0,none⟩) 1 1) false (.pointer oa))):=(hset _ (by omega)).trans hk4
  have HLR:Hid (SRow w.heap.size w2 (.slice (some ⟨gl,0,none⟩) 1 1) [tx]):=srow_mono (owns_stay (I:=fun b=>wl.heap.size≤b) (fun b hb _=>hset b (by have h1:wl.heap.size≤b:=hb;omega)) (fun b hb=>(own_lt hl4 b hb).2) hl4) (by omega)
  have HB2L:Hid (w.heap.size≤b2):=by show _≤_;omega
  have HB2U:Hid (b2<w2.heap.size):=by show _<_;omega
  have HB2N:Hid (b2≠w.heap.size+1):=by show _≠_;omega
  have HGU:Hid (gl<w2.heap.size):=by show _<_;omega
  have HGN:Hid (gl≠w.heap.size+1):=by show _≠_;omega
  clear hw2 hset hzs hk4 hS4 hl4 hr4 hp4 q0' q1' qf hrl hb4 HX0 HX1 HT2 HC2 HBl HSl HPl HRl hs2 hge HL3 HD3 HGE hS3 hb2g hb2l hgl4;have k0:=keepC HB2.out HC0.out;have k3:=keepC HB2.out HE3.out
  have hql2:q0<w2.heap.size:=Nat.lt_of_lt_of_le hql HB2.out.size;go_wp2_with fail;clear k0 k3 hql2;have HX0:Hid (w2.cell? ⟨w.heap.size,0,none⟩=some (sPtr b2)):=by show _=_;rw[cell_of HP2.out];rfl
  have HX1:Hid (w2.cell? ⟨w.heap.size,1,none⟩=some (.bool true)):=by show _=_;rw[cell_of HP2.out];rfl
  have HT2:Hid (w2.cell? ⟨tb,0,none⟩=some (.map (some mb))):=keepC HB2.out HT0.out;have hs2:=unhide HS2;refine cm (unhide HTX _ HB2.out) ?_;rintro e w3 ⟨⟨u3,rfl,hr3⟩,hb3⟩
  obtain⟨a3,c3,rfl⟩:=srow_form hr3;have HR3:=hide hr3;have HB3:=hide hb3;have hz3:=hb3.size;clear hr3 hb3
  go_wp2_with (at_builtin;refine wpList_append_lies _ rfl _ _ 38 rfl w2.heap.size 9 i0 (.string ByteArray.empty) 1 16 Tryz.underlying38 hi0 hz0 hz1 hz2 rfl (by decide) _ _ _ rfl (HR3.out.alloc _) ⟨w3.heap.size,0,none⟩ 1 1 [.string tArguments] rfl rfl (hoCellsS w3 tArguments _ rfl) (hoOneS tArguments) (by decide) (by unfold maxLen;omega) (by omega) (by simp;omega) (w3.heap.size+1) (by simp) ?_)
  intro g4 cap4 w4 hown4 hgr4 _ _;have HR4:Hid (SRow w2.heap.size w4 (.slice (some ⟨g4,0,none⟩) (P.length+1) cap4) M):=by
   exact zcbl
  have HB4:Hid (Below w2.heap.size w2 w4):=HB3.out.trans (((Below.refl w2.heap.size w3).alloc hz3 _).grown hgr4 (by simp;omega) (fun b hb=>(own_lt HR3.out b hb).2))
  clear hown4 hgr4 HR3 HB3 hz3;go_wp2_with fail;have hS0:Below w2.heap.size w2 w4.drew:=HB4.out.drew;have hr4:SRow w2.heap.size w4.drew (.slice (some ⟨g4,0,none⟩) (P.length+1) cap4) M:=unhide HR4
  obtain⟨w5,hw5⟩:∃ w5,w5=w4.drew:=⟨_,rfl⟩;refine wp_region_U 20 (fun X=>Below w2.heap.size w2 X) (by kernel_rfl) ?_;rw[←hw5] at hS0 hr4 ⊢;clear hw5 HB4 HR4
  refine ug 0 (plV2 (sPtr b2) true) rfl (Or.inl ⟨by kernel_rfl,fun X hX=>by have h0:=keepC hX HX0.out;have h1:=keepC hX HX1.out;go_simp⟩) hS0 ?_
  refine uh 1 (sPtr tb) hS0 ?_;refine uh 2 (sPtr tb) hS0 ?_;refine uh 3 (.pointer (some ⟨tb,0,none⟩)) hS0 ?_
  refine ug 4 (.map (some mb)) rfl (Or.inl ⟨by kernel_rfl,fun X hX=>by have h0:=keepC hX HT2.out;go_simp⟩) hS0 ?_
  refine uh 5 (nPtr p) hS0 ?_;refine ug 6 (.int .i64 (no:Int)) rfl (Or.inl ⟨by kernel_rfl,fun X hX=>by have h0:=unhide HNUM X (HB2.out.trans (hX.mono HB2.out.size));go_simp⟩) hS0 ?_
  refine uh 7 (.slice (some ⟨g4,0,none⟩) (P.length+1) cap4) hS0 ?_;refine uh 8 (nPtr q1) hS0 ?_;refine uh 11 (.pointer (some ⟨w.heap.size,1,none⟩)) hS0 ?_
  refine ug 12 (.bool true) rfl (Or.inl ⟨by kernel_rfl,fun X hX=>by have h1:=keepC hX HX1.out;go_simp⟩) hS0 ?_
  refine uh 13 (.bool false) hS0 ?_;refine uq1 9 fun K hK=>?_;go_simp;refine cm (unhide HNM _ (HB2.out.trans (hS0.mono HB2.out.size))) ?_;rintro e w6 ⟨⟨u6,rfl,hr6⟩,hb6⟩;obtain⟨a6,c6,rfl⟩:=srow_form hr6
  have hS6:Below w2.heap.size w2 w6:=hS0.trans (hb6.mono hS0.size);have hr4':=SRow.later hr4 hb6;refine hK.out _ _ (fun _=>hS6) ?_;clear hK K;refine uq1 10 fun K hK=>?_
  refine step_app_row rfl _ _ 38 rfl w2.heap.size _ 9 i0 (.string ByteArray.empty) 16 Tryz.underlying38 hi0 hz0 hz1 hz2 rfl _ _ _ rfl hr4' _ _ _ rfl hr6 (srow_ones N) (by have:=unhide HML;unfold maxLen;omega) (by have:=unhide HML;omega) hS6.size ?_
  intro v7 w7 hown7 hgr7;have hr7:SRow w2.heap.size w7 v7 F:=by
   exact zcbi
  have hS7:Below w2.heap.size w2 w7:=hS6.grown hgr7 hS6.size (fun k hk=>(own_lt hr4' k hk).2);obtain⟨a7,c7,rfl⟩:=srow_form hr7;refine hK.out _ _ (fun _=>hS7) ?_;clear hK K hown7 hgr7 hr6 hb6 hr4 hr4'
  refine uh 14 (.bool false) hS7 ?_;refine uq1 15 fun K hK=>?_;go_simp;refine hK.out _ _ (fun _=>hS7) ?_;clear hK K;refine uq1 16 fun K hK=>?_;go_simp;refine hK.out _ _ (fun _=>hS7) ?_;clear hK K
  obtain⟨w8,hw8⟩:∃ w8,w8=w7:=⟨_,rfl⟩;have hS8:Below w2.heap.size w2 w8:=by rw[hw8];exact hS7
  have hr8:SRow w2.heap.size w8 (.slice a7 F.length c7) F:=by rw[hw8];exact hr7
  rw[←hw8];clear hw8 hS7 hr7;refine uh 17 (.bool false) hS8 ?_;refine uh 18 (.agg #[.int .i64 (no:Int),.slice a7 F.length c7,.bool false,.pointer none]) hS8 ?_;refine uq1 19 fun K hK=>?_;go_simp
  refine cm (in_any _ true no a7 F.length c7 false none w8) ?_;rintro e w9 ⟨⟨rfl,hk9⟩,hb9⟩;have hS9:Below w2.heap.size w2 w9:=hS8.trans (hb9.mono hS8.size);have hr9:=SRow.later hr8 hb9
  have hr2:w9.heap[w.heap.size+1]? = some (.cells #[.pointer none,.bool false] 112 (0,0)):=by rw[hS9.block _ (by omega)];exact unhide HR2
  have q0':w9.cell? ⟨w.heap.size+1,0,none⟩=some (.pointer none):=by rw[cell_of hr2];rfl
  have q1':w9.cell? ⟨w.heap.size+1,1,none⟩=some (.bool false):=by rw[cell_of hr2];rfl
  have qf:=frozen_of hr2;have hrl:=lt_of_heap hr2;have HZ:=hide hS8.size;refine hK.out _ _ (fun _=>hS9) ?_;clear hK K hS8 hr8;refine uq1 20 fun K hK=>?_;go_simp;refine hK.out _ _ (fun e=>by cases e) ?_
  clear hK K;refine udone (by kernel_rfl) ?_ _;go_simp;obtain⟨wz,hwz⟩:∃ wz,wz=(w9.setCell ⟨w.heap.size+1,0,none⟩ (sPtr (w8.heap.size+1))).setCell ⟨w.heap.size+1,1,none⟩ (.bool true):=⟨_,rfl⟩
  rw[←hwz];have hset:∀ k,k≠w.heap.size+1→wz.heap[k]? = w9.heap[k]?:=fun k hk=>by rw[hwz,ne_set hk,ne_set hk]
  have hzb:wz.heap[w.heap.size+1]? = some (.cells #[sPtr (w8.heap.size+1),.bool true] 112 (0,0)):=by rw[hwz,heap_set (heap_set hr2 _)];rfl
  have z0:wz.cell? ⟨w.heap.size+1,0,none⟩=some (sPtr (w8.heap.size+1)):=by rw[cell_of hzb];rfl
  have z1:wz.cell? ⟨w.heap.size+1,1,none⟩=some (.bool true):=by rw[cell_of hzb];rfl
  have hz8:=unhide HZ;have HK9:=hide ((hset (w8.heap.size+1) (by omega)).trans hk9)
  have HR9:Hid (SRow w.heap.size wz (.slice a7 F.length c7) F):=srow_mono (owns_stay (I:=fun b=>w2.heap.size≤b) (fun b hb _=>hset b (by have h1:w2.heap.size≤b:=hb;omega)) (fun b hb=>(own_lt hr9 b hb).2) hr9) (by omega)
  have HSZ:Hid (∀ k,k<w2.heap.size→k≠w.heap.size+1→wz.heap[k]? = w2.heap[k]?):=fun k h1 h2=>(hset k h2).trans (hS9.block k h1);have HBZ:Hid (Below w.heap.size w wz):=by
   exact zcbd
  clear hwz hset hzb hk9 hS9 hr9 hr2 q0' q1' qf hrl hb9;go_wp2_with fail
  refine bodyPost_ret (v:=plV2 (sPtr (w8.heap.size+1)) true) (by simp[results,Tryz.results128,go_sem,z0,z1]) rfl ⟨⟨w8.heap.size+1,_,_,rfl,by omega,HK9.out,HR9.out,?_⟩,HBZ.out⟩;exact zcas
 ):G:=h
theorem zbab {G:Prop}(h:G:=by
  refine wp_region_any (by kernel_rfl) ?_;change wpAny _ _ _ _ _ _ _ (World.drew _);refine wt 0 (nPtr p0) ?_;refine wt 1 (nPtr p0) ?_;refine wt 2 (nPtr p0) ?_;refine wt 3 (.pointer (some ⟨p0,3,none⟩)) ?_
  refine wt 5 (.string s) ?_;refine wt 6 (rPtr c) ?_;refine wr2 4 7 (fun K hK=>?_) fun K hK=>?_
  ·go_simp;refine hK _ _ ?_;clear hK K;refine wr1 7 fun K hK=>?_;go_simp;refine cm HCC.out ?_;intro e wc hp;obtain⟨⟨vc,rfl,hnc⟩,hrd,ha⟩:=hp;obtain⟨pc,rfl,hmc⟩:=hnc.nv
   have ha0:=((Ap.refl c.R wg1.heap.size wg1).drew).next ha;have HY:Hid (Ap c.R wg1.heap.size wg1 wc∧Rdr c wc i5 d∧NAt (From wg1.heap.size) wc b2 pc):=⟨ha0,hrd,hmc⟩
   obtain⟨gc3,gcf,gcl⟩:=(Open.later HOP.out ha0 HLT.out).cell;have gcl1:p0<wc.heap.size+1:=by omega
   have gcl2:p0<wc.heap.size+1+1:=by omega
   clear hrd ha ha0 hnc hmc;refine hK _ _ ?_;clear hK K;refine wr1 8 fun K hK=>?_;go_simp;refine hK _ _ ?_;clear hK K;refine wr1 9 fun K hK=>?_;go_simp
   refine cm (node_any 13 s (.slice (some ⟨wc.heap.size,0,none⟩) 1 1) (wc.alloc (.cells #[nPtr pc] 22)) ⟨_,_,_,rfl⟩) ?_;rintro e wd0 ⟨rfl,rfl⟩;refine hK _ _ ?_;clear hK K;refine wr1 10 fun K hK=>?_;go_simp
   refine hK _ _ ?_;clear hK K;refine wpAny_same (listed':=tf 11 4) (by kernel_rfl) rfl ?_;exact CONT wc pc HY.out
  ·go_simp;refine cm HCC.out ?_;intro e wc hp;obtain⟨⟨vc,rfl,hnc⟩,hrd,ha⟩:=hp;obtain⟨pc,rfl,hmc⟩:=hnc.nv;have ha0:=((Ap.refl c.R wg1.heap.size wg1).drew).next ha
   have HY:Hid (Ap c.R wg1.heap.size wg1 wc∧Rdr c wc i5 d∧NAt (From wg1.heap.size) wc b2 pc):=⟨ha0,hrd,hmc⟩;obtain⟨gc3,gcf,gcl⟩:=(Open.later HOP.out ha0 HLT.out).cell
   have gcl1:p0<wc.heap.size+1:=by omega
   have gcl2:p0<wc.heap.size+1+1:=by omega
   clear hrd ha ha0 hnc hmc;refine hK _ _ ?_;clear hK K;refine wr2 4 8 (fun K hK=>?_) fun K hK=>?_
   ·go_simp;refine hK _ _ ?_;clear hK K;refine wr1 8 fun K hK=>?_;exact zdaf
   ·go_simp;refine hK _ _ ?_;clear hK K;refine wr2 4 9 (fun K hK=>?_) fun K hK=>?_
    ·exact zdaf
    ·go_simp;refine cm (node_any 13 s (.slice (some ⟨wc.heap.size,0,none⟩) 1 1) (wc.alloc (.cells #[nPtr pc] 22)) ⟨_,_,_,rfl⟩) ?_;rintro e wd0 ⟨rfl,rfl⟩;refine hK _ _ ?_;clear hK K
     refine wr2 4 10 (fun K hK=>?_) fun K hK=>?_
     ·go_simp;refine hK _ _ ?_;clear hK K;refine wr1 10 fun K hK=>?_;exact zcam
     ·go_simp;refine hK _ _ ?_;clear hK K;refine wr1 4 fun K hK=>?_;exact zcam
 ):G:=h
end Go.Proofs.YtoimgcjbcbhclaaGreatDoor
