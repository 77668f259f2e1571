/-
  Parts of proofs that stand more than once.
-/
import Derived.Test.YtoimgcjbcbhclaaGreatDoorWt14
import Derived.Test.YtoimgcjbcbhclaaGreatDoorProg
import Derived.WalkKit
import Derived.WalkSpells
import Derived.WalkLawsBesides
import Derived.Lib.Bytealg
import Derived.Laws.Rows
import Derived.ProofKit
import Derived.OpenShut
import Derived.Stop.Joined
set_option maxRecDepth 100000
set_option maxHeartbeats 16000000
namespace Go.Proofs.YtoimgcjbcbhclaaGreatDoor
open Go.RowKit
theorem zbde {G:Prop}(h:G:=by
  clear ht;go_wp2_with fail;refine cm HC4.out ?_;rintro e w4 ⟨⟨v',rfl,q4,rfl,hn4⟩,hp4,ha4⟩;have HP5:=hide hp4;have HA5:=hide (HA4.out.next ha4)
  have HN5:=hide (nats_two HN4.out ha4 HLT.out HA4.out.size hn4);clear hp4 ha4 hn4 HC4 kk h1 f1;go_wp2_with fail;go_ret
  exact⟨⟨_,rfl,(nv_row HN5.out HA5.out.size (by simp[maxLen]) #[nPtr q,nPtr q4] rfl 2 rfl 24 noText 0 _ rfl).nv⟩,(HP5.out.alloc _).alloc _,(HA5.out.alloc HA5.out.size _).alloc (by have:=HA5.out.size;simp;omega) _⟩
 ):G:=h
theorem zbdf {G:Prop}(h:G:=by
  go_wp2_with fail;refine cm HC1.out ?_;rintro e w2 ⟨rfl,rfl⟩;clear HC1;exact zccc
 ):G:=h
theorem zbdg {G:Prop}(h:G:=by
  have:=look_vals c (fx c.l i) W hW.base.vals;rw[hq] at this;exact this
 ):G:=h
theorem zbdh {G:Prop}(h:G:=by
  go_wp2_with fail;refine cm HC.out ?_;rintro e wn ⟨rfl,rfl⟩;clear HC;go_wp2_with fail;go_ret;obtain⟨m1,m2,m3⟩:=unhide HX;exact ppOk rfl m1 m2 m3
 ):G:=h
theorem zbdi {G:Prop}(h:G:=by
  have hsz:=extract_size s j e (by omega) hes;refine(atoi_any (s.extract j e) _ (by omega) (by omega) hds).mono ?_;rw[HNN.out];rintro e3 w3 ⟨rfl,hbel3⟩;have HI3:=hide (HI.out.later hbel3);clear rc0 rc1 rf0 rf1
  obtain⟨rc0,rc1,rf0,rf1⟩:=HI3.out.cells;clear hbel3 hds hsz;go_wp2_with fail
  exact bodyPost_ret (v:=.tuple #[.slice none 0 0,.agg #[.int .i64 2,.int .i64 (j:Int)]]) (by simp[results,go_sem,rc0,rc1]) rfl ⟨rfl,HI3.out.out _ _⟩
 ):G:=h
theorem zbdj {G:Prop}(h:G:=by
  have HC:=hide (must_any c tSemi wy j1 d HRy.out (by decide));rw[hr] at HC HS;simp only[bind_ok] at HS;clear hr;go_wp2_with fail;refine cm HC.out ?_;intro e w2 hp;obtain⟨⟨v2,rfl,rfl⟩,hrd,ha⟩:=hp
  clear HC;have HA2:=hide (HAy.out.next ha);have HR2:=hide hrd;replace HM1:=hide (EV.later HM1.out ha HLT.out);clear hrd ha HAy HRy;have ht0:=unhide HT0;subst ht0;go_wp2_with fail;go_ret
  exact ppOk HS.out.symm HM1.out.nv HR2.out HA2.out
 ):G:=h
theorem zbdk {G:Prop}(h:G:=by
  have HR2:=hide hr2;have HW2:=hide hb2;rw[←hW2];clear hW2 hr2 hb2;refine hK.out _ _ HR2.out (fun _=>?_);clear hK K;refine wh 12 (.bool true) HR2.out ?_;refine wpAnyH_done (by kernel_rfl) ?_ _;go_simp
  go_wp2_with fail
  exact bodyPost_ret (v:=.tuple #[.agg #[.string x.tx,.int .i64 x.kd,.int .i64 x.parts,.int .i64 x.str],.bool true]) (by simp[results,Tryz.results293,go_sem,q0,q1,q2,q3]) rfl ⟨rfl,below4 HW2.out (Nat.le_refl _) _ _ _ _⟩
 ):G:=h
theorem zbdl {G:Prop}(h:G:=by
  refine wt 13 (nPtr w.heap.size) ?_;refine wt 14 (.pointer (some ⟨w.heap.size,3,none⟩)) ?_;refine wr1 15 fun K hK=>?_;go_simp;refine hK _ _ ?_;clear hK K gc3 gcf gcl;refine wpAny_done (by kernel_rfl) ?_ _
  go_simp;obtain⟨jc,hpc⟩:=HHY.out.ps;have HPC:=hide hpc;clear hpc;go_wp2_with fail;go_ret
  exact⟨⟨_,rfl,_,rfl⟩,⟨jc,HPC.out.ap (unhide (HBW _)) HLO.out⟩,HHY.out.he,HHY.out.ap.trans (Ap.of (unhide (HBW _)))⟩
 ):G:=h
theorem zbdm {G:Prop}(h:G:=by
  go_wp2_with fail;refine cm HC.out ?_;rintro e w1 ⟨rfl,rfl⟩;clear HC;go_wp2_with fail;go_ret;exact⟨⟨_,rfl,_,rfl⟩,⟨i,HP.out.alloc _⟩,he,(Ap.refl c.P w1.heap.size w1).alloc (Nat.le_refl _) _⟩
 ):G:=h
theorem zbdn {G:Prop}(h:G:=by
  have:Tr.counts t.kids=Tr.counts (t.kids.take (k+1))+Tr.counts (t.kids.drop (k+1)):=by rw[←counts_app,List.take_append_drop]
  omega
 ):G:=h
theorem zbdo {G:Prop}(h:G:=by
  go_wp2_with fail;refine cm (unhide HST wj HBJ.out) ?_;rintro e w2 ⟨rfl,hw2⟩;obtain rfl:wj=w2:=hw2.symm;clear hw2 HST;have HS2:Hid (st2=(false||st2)):=rfl;go_wp2_with fail;exact fnTailF
 ):G:=h
theorem zbdp {G:Prop}(h:G:=by
  go_simp;refine cm HC.out ?_;intro e w' hp;obtain⟨rfl,ha⟩:=hp;exact⟨rfl,ppBad HS.out.symm (HAn.out.drew.next ha)⟩
 ):G:=h
theorem zbdq {G:Prop}(h:G:=by
  exact((((((Ap.refl c.P w.heap.size w).setCell (p:=⟨c.P,1,none⟩) (Or.inr rfl) _).alloc (by simp) _).alloc (by simp <;> omega) _).alloc (by simp <;> omega) _).alloc (by simp <;> omega) _).drew
 ):G:=h
theorem zbdr {G:Prop}(h:G:=by
  rw[hr] at HC HS;simp only[bind_bad] at HS;clear hr;go_wp2_with fail;refine cm HC.out ?_;intro e w' hp;obtain⟨rfl,ha⟩:=hp;exact⟨rfl,ppBad HS.out.symm (HAq.out.next ha)⟩
 ):G:=h
theorem zbds {G:Prop}(h:G:=by
  refine uq1 7 fun K hK=>?_;go_simp;refine cm HC7.out ?_;rintro e w6 ⟨rfl,h6,h7⟩;refine hK.out _ _ (fun e=>by cases e) ?_;clear hK K;refine udone (by kernel_rfl) ?_ _;have HG6:=hide h6;have HA6:=hide h7
  clear h6 h7 hS1 hr;go_simp;exact zcco
 ):G:=h
theorem zbdt {G:Prop}(h:G:=by
  clear ht;go_wp2_with fail;refine cm HC4.out ?_;rintro e w4 ⟨⟨v,rfl,q4,rfl⟩,⟨j4,hp4⟩,he,ha4⟩;have HP5:=hide hp4;have HA5:=hide (HA4.out.next ha4);clear hp4 ha4 HC4 kk h1 f1;go_wp2_with fail;go_ret
  exact⟨⟨_,rfl,_,rfl⟩,⟨j4,(HP5.out.alloc _).alloc _⟩,he,(HA5.out.alloc HA5.out.size _).alloc (by have:=HA5.out.size;simp;omega) _⟩
 ):G:=h
theorem zbdu {G:Prop}(h:G:=by
  rename_i h;exact Nx.ok (Nat.le_refl _) (next_lt hE hi (by rw[h];decide))
 ):G:=h
theorem zbdv {G:Prop}(h:G:=by
  refine⟨ps,owns_stay (I:=fun b=>B≤b) (Stay.of_ap ha hR fun _ h=>h) (fun g hg=>(own_lt hr g hg).2) hr,NAts.mono (fun b hb _=>hb.1) _ _ h1,NAts.append (M:=w.heap.size) _ _ (NAts.cons ?_ NAts.nil) h1⟩
  exact NAt.mono (fun b hb _=>⟨⟨Nat.le_trans hB hb,fun e=>by have:=(hown b e).1;have:w.heap.size≤b:=hb;omega⟩,hb⟩) _ _ hn
 ):G:=h
theorem zbdw {G:Prop}(h:G:=by
  go_enter Tryz.func177,Tryz.ntmps177;go_wp2_with fail;go_ret;exact⟨rfl,by rw[HC.out];exact HE.out,Below.refl _ _⟩
 ):G:=h
theorem zbdx {G:Prop}(h:G:=by
  refine wt 13 (nPtr w.heap.size) ?_;refine wt 14 (.pointer (some ⟨w.heap.size,3,none⟩)) ?_;refine wr1 15 fun K hK=>?_;go_simp;refine hK _ _ ?_;clear hK K gc3 gcf gcl;refine wpAny_done (by kernel_rfl) ?_ _
  go_simp;go_wp2_with fail;go_ret;exact⟨⟨_,rfl,HEV.out.nv⟩,HHY.out.ps.ap (unhide (HBW _)) HLO.out,HHY.out.ap.trans (Ap.of (unhide (HBW _)))⟩
 ):G:=h
theorem zbdy {G:Prop}(h:G:=by
  have h:=risFunc_any a.tr a.p X (hlat a X ha hX);rw[hfun] at h;exact h
 ):G:=h
theorem zbdz {G:Prop}(h:G:=by
  have h1:=hall e he hb;have h0:=(mem_ready.1 hr).1;rw[heq] at h1
  cases hx:listed[i]? with
  | none=>simp[hx] at h1
  | some x=>simp[hx] at h0 h1;rw[h0] at h1;cases h1
 ):G:=h
theorem zbea {G:Prop}(h:G:=by
  have _h1:=hL;have _h2:=hal;clear _h1 _h2;have HST:=hide ((congrArg (fun p=>toksR ws signsS s p acc) (pastN_go gapB s j hlt hgap)).trans he);have HI:=hide hinv;clear he hinv hgap hL
  conv=>arg 2;whnf
  unfold fr Q6;go_wp2_with fail;exact⟨WI_mk (j+1) acc v (by omega) (by omega) HST.out HI.out (by kernel_rfl),by simp[mu6,intOf];omega⟩
 ):G:=h
theorem zbeb {G:Prop}(h:G:=by
  cases h;first|omega | (simp[ar,need] <;> omega) | (simp[ar,need] at * <;> omega)
 ):G:=h
theorem zbec {G:Prop}(h:G:=by
  have HC:=hide (rbraces_old c wm.drew jm _ _ (d:Int) false he HP.out.drew);clear he;go_wp2_with fail;exact CONTB wm s ⟨er,pl,HQB.out,HC.out,HOP.out,HA.out⟩
 ):G:=h
theorem zbed {G:Prop}(h:G:=by
  cases gk with
  | zero=>exact absurd hq.symm HO.out
  | succ k=>exact⟨k,rfl⟩
 ):G:=h
theorem zbee {G:Prop}(h:G:=by
  show RR _ _ _ _
  rw[hps1];exact(HRR.out.later (fun b _ hl=>HB1.out.block b hl)).mono fun b hb=>Or.inl hb
 ):G:=h
theorem zbef {G:Prop}(h:G:=by
  rw[hwA,Below.heap_alloc _ _ _ (by simp)];exact heap_new _ _
 ):G:=h
theorem zbeg {G:Prop}(h:G:=by
  refine uq1 6 fun K hK=>?_;go_simp;refine cm (unhide HTA _ (HT5.out.later hS5) (HF5.out.trans (Fm.of hS5))) ?_;rintro e w9 ⟨rfl,hq9⟩;refine hK.out _ _ (fun e=>by cases e) ?_;clear hK K
  refine udone (by kernel_rfl) ?_ _;have HQ9:=hide hq9;clear hq9 hS5;go_simp
  go_end0
  exact⟨rfl,HQ9.out⟩
 ):G:=h
theorem zbeh {G:Prop}(h:G:=by
  have HA2:=hide (HA.out.next ha2);have HP3:=hide hp3;have HC3:=hide (rmust_old c w2 j2 er pl he tShut hp3);clear HC2 ha2 hp3;go_wp2_with fail;refine cm HC3.out ?_;rintro e w3 ⟨rfl,rfl⟩;clear HC3
  go_wp2_with fail;go_ret;exact⟨⟨_,rfl,q,rfl⟩,⟨_,HP3.out⟩,he,HA2.out⟩
 ):G:=h
theorem zbei {G:Prop}(h:G:=by
  exact(HB1.out.trans (HK5.out.mono hs1)).setCell (p:=⟨w.heap.size,0,none⟩) (Nat.le_refl _) _
 ):G:=h
theorem zbej {G:Prop}(h:G:=by
  go_enter Tryz.func112,Tryz.ntmps112;go_wp2_with fail;go_ret;exact⟨by rw[HST.out];rfl,rfl⟩
 ):G:=h
theorem zbek {G:Prop}(h:G:=by
  go_wp2_with fail;refine cm HC.out ?_;rintro e w1 ⟨⟨u,rfl,hr⟩,hb⟩;obtain⟨ua,uc,rfl⟩:=hr.form;have HR:=hide (hr.low HB.out.size);have HB1:=hide (HB.out.trans (hb.mono HB.out.size));clear HC hr hb
  go_wp2_with fail;go_ret;exact⟨⟨_,rfl,HR.out⟩,HB1.out⟩
 ):G:=h
theorem zbel {G:Prop}(h:G:=by
  intro v' w5 hown' hgrow _;have HI5:=hide (HI.out.app (t:=Tk.mk 2 (s.extract j e) 0 j) _ hown' hgrow);clear hown' hgrow;go_wp2_with fail
  exact⟨WI_mk e (acc++[Tk.mk 2 (s.extract j e) 0 j]) v' hes (by simp;omega) HST.out HI5.out (by kernel_rfl),by simp[mu6,intOf];omega⟩
 ):G:=h
theorem zbem {G:Prop}(h:G:=by
  intro v' w5 hown' hgrow _;have HI5:=hide (HI.out.app (t:=Tk.mk 1 (s.extract j e) 0 j) _ hown' hgrow);clear hown' hgrow;go_wp2_with fail
  exact⟨WI_mk e (acc++[Tk.mk 1 (s.extract j e) 0 j]) v' hes (by simp;omega) HST.out HI5.out (by kernel_rfl),by simp[mu6,intOf];omega⟩
 ):G:=h
theorem zben {G:Prop}(h:G:=by
  go_wp2_with fail;refine(HLR.out.word (s.extract j e)).mono ?_;rw[HW.out];rintro e3 w3 ⟨rfl,rfl⟩;go_wp2_with fail
  exact bodyPost_ret (v:=.tuple #[.slice none 0 0,.agg #[.int .i64 4,.int .i64 (j:Int)]]) (by simp[results,go_sem,rc0,rc1]) rfl ⟨rfl,HI.out.out _ _⟩
 ):G:=h
theorem zbeo {G:Prop}(h:G:=by
  intro t ht
  cases t with
  | mk kd tx nn ks=>rw[count_mk] at ht;omega
 ):G:=h
theorem zbep {G:Prop}(h:G:=by
  have HC:=hide (block_any hF hN w3 d j3 _ rfl (by rw[hr];nofun) HR3.out)
  rw[hr] at HC HS;simp only[bind_bad] at HS;clear hr;go_wp2_with fail;refine cm HC.out ?_;intro e w' hp;obtain⟨rfl,ha⟩:=hp;exact⟨rfl,ppBad HS.out.symm (HA3.out.next ha)⟩
 ):G:=h
theorem zbeq {G:Prop}(h:G:=by
  intro b hb
  rcases hb with hb|hb
  ·obtain⟨v8,k1,_,k3,_⟩:=hTf.blk;have hv8:v8=.slice va L.length vc:=by rw[hvf] at k1;simpa using k1.symm
   rw[hv8] at k3;exact⟨(hTf.ne b hb).1,k3 b hb⟩
  ·rw[hb];exact⟨lt_of_heap hvf,HVT.out⟩
 ):G:=h
theorem zber {G:Prop}(h:G:=by
  obtain⟨g,cap,hg,hcell⟩:=row_open HROW.out.1 (by rw[List.length_map];omega)
  simp only[Value.slice.injEq] at hg;refine⟨g,hg.1,(own_lt HROW.out.1 g (by rw[hg.1];rfl)).1,?_⟩
  have h:=hcell k (by rw[List.length_map];exact hk)
  simpa using h
 ):G:=h
theorem zbes {G:Prop}(h:G:=by
  have HC:=hide (deepV hF wm d (j1+1) HRm.out (by rw[hr];nofun))
  rw[hr] at HC HS;simp only[bind_bad] at HS;clear hr;go_wp2_with fail;refine cm HC.out ?_;intro e w' hp;obtain⟨rfl,ha⟩:=hp;exact⟨rfl,ppBad HS.out.symm (HAm.out.next ha)⟩
 ):G:=h
theorem zbet {G:Prop}(h:G:=by
  rw[hj] at h3;have h4:(⟨g,0,none⟩:Addr).add j=⟨g,j,none⟩:=by simp[Addr.add];exact Eq.symm
  rw[h4];exact h3
 ):G:=h
theorem zbeu {G:Prop}(h:G:=by
  rintro e w1 ⟨rfl,hb⟩;have HB:=hide hb;have HF:=hide (fault_any c 3 w1 i d (HR.out.later hb));clear hb;go_wp2_with fail;refine cm HF.out ?_;rintro e w2 ⟨rfl,hb2⟩
  exact⟨rfl,ppBad rfl (Ap.of (HB.out.trans (hb2.mono HB.out.size)))⟩
 ):G:=h
theorem zbev {G:Prop}(h:G:=by
  have HC:=hide (must_any c tSemi wy j1 d HRy.out (by decide));rw[hr] at HC HS;simp only[bind_bad] at HS;clear hr;go_wp2_with fail;refine cm HC.out ?_;intro e w' hp;obtain⟨rfl,ha⟩:=hp
  exact⟨rfl,ppBad HS.out.symm (HAy.out.next ha)⟩
 ):G:=h
theorem zbew {G:Prop}(h:G:=by
  refine hK _ _ ?_;clear hK K;refine wr1 7 fun K hK=>?_;go_simp;refine hK _ _ ?_;clear hK K;refine wpAny_same (listed':=tf 8 4) (by kernel_rfl) rfl ?_;exact CONT wc pc HHY.out
 ):G:=h
theorem zbex {G:Prop}(h:G:=by
  show World.ownsRow _ _ _ _ _ _ _
  rw[List.length_append,List.map_append];exact hu
 ):G:=h
theorem zbey {G:Prop}(h:G:=by
  intro t j h;cases h;rw[ill_mk,ills_nil];first|omega | (simp[ar,need] <;> omega) | (simp[ar,need] at * <;> omega)
 ):G:=h
theorem zbez {G:Prop}(h:G:=by
  have h1:Below w.heap.size w (RW w):=((Below.refl _ _).alloc (Nat.le_refl _) _).alloc (by simp) _;have h2:Below w.heap.size w w2:=h1.trans (HB2.out.mono (by omega))
  exact h2.trans ((ha.mono (B':=w.heap.size) (by omega)).below (by omega))
 ):G:=h
theorem zbfa {G:Prop}(h:G:=by
  go_wp2_with fail;refine cm HC.out ?_;rintro e w1 ⟨⟨u,rfl,hr⟩,hb⟩;obtain⟨ua,uc,rfl⟩:=hr.form;have HR:=hide hr;have HB:=hide hb;clear HC hr hb;go_wp2_with fail;go_ret;exact⟨⟨_,rfl,HR.out⟩,HB.out⟩
 ):G:=h
theorem zbfb {G:Prop}(h:G:=by
  go_enter Tryz.func73,Tryz.ntmps73;go_wp2_with fail;go_ret;exact⟨rfl,rfl⟩
 ):G:=h
theorem zbfc {G:Prop}(h:G:=by
  have h9:=heap_new (w.alloc (.cells #[.pointer oa,.bool true] 112)) (.cells #[.pointer none,.bool false] 112);rw[show (w.alloc (.cells #[.pointer oa,.bool true] 112)).heap.size=w.heap.size+1 by simp] at h9
  rw[hwA];exact h9
 ):G:=h
theorem zbfd {G:Prop}(h:G:=by
  cases ad <;> rcases hown.2 with ⟨rfl,rfl⟩|⟨g,cap,cur,rfl,_,_,hnc,_⟩ <;>
   simp[Builtin.append_,run_underlying ht,sizeOf,typeInfo,Builtin.lenOf,Builtin.firstCells,loadCells,loadCellsFrom,storeCells, *]
 ):G:=h
theorem zbfe {G:Prop}(h:G:=by
  clear hno hk2;go_wp2_with fail;refine cm HC4.out ?_;intro e w4 hp;obtain⟨⟨v,rfl,q,rfl⟩,hp4,he,ha4⟩:=id hp;have HH:=hide (HD.out _ _ hp);clear hp hp4 ha4 HC4;go_wp2_with fail;go_ret;exact unhide HH
 ):G:=h
theorem zbff {G:Prop}(h:G:=by
  have h1:Ad.adss es=Ad.adss (es.take k)++((es[k]).ads++Ad.adss (es.drop (k+1))):=by
   rw[←Ad.adss,←List.drop_eq_getElem_cons hlt,←adss_app,List.take_append_drop]
  rw[h1];simp only[List.append_assoc]
 ):G:=h
theorem zbfg {G:Prop}(h:G:=by
  rw[e];have HV:=hide hv;clear b1 b2 b3 hb h1 h2 hv;go_enter Tryz.func237,Tryz.ntmps237
  go_wp2
  go_ret2
  refine⟨?_,rfl⟩
  show Ending.returned (.tuple #[.int .u8 (s[i].toNat:Int),.bool true])=_
  rw[HV.out];rfl
 ):G:=h
theorem zbfh {G:Prop}(h:G:=by
  have hl:j<m * 1:=by
   rw[←hown2.1];exact(List.getElem?_eq_some_iff.1 hj).1
  have h4:(⟨g,0,none⟩:Addr).add j=⟨g,j,none⟩:=by simp[Addr.add];exact Eq.symm
  rw[h4,hown2.cellAt j hl];exact hj
 ):G:=h
theorem zbfi {G:Prop}(h:G:=by
  split at h
  ·
   cases h
  ·
   cases h;exact⟨fun h=>absurd h (by decide),fun h=>absurd h (by decide)⟩
 ):G:=h
theorem zbfj {G:Prop}(h:G:=by
  obtain⟨hl,h0|⟨g,cap,cur,hv,hge,hh,hr⟩⟩:=h
  ·exact⟨hl,Or.inl h0⟩
  ·exact⟨hl,Or.inr ⟨g,cap,cur,hv,hge,by rw[hb.block g (Array.getElem?_eq_some_iff.1 hh).1];exact hh,hr⟩⟩
 ):G:=h
theorem zbfk {G:Prop}(h:G:=by
  go_wp2_with fail;exact bodyPost_ret (v:=.tuple #[.slice none 0 0,.agg #[.int .i64 3,.int .i64 (((q+1:Nat):Int))]]) (by simp[results,Tryz.results109,go_sem,rc0,rc1]) rfl ⟨rfl,HI.out.out _ _⟩
 ):G:=h
theorem zbfl {G:Prop}(h:G:=by
  clear hown3 hgr3 hg3 hob hob3 o4;go_wp2_with fail;refine bodyPost_ret (v:=.tuple #[]) (by simp[results,Tryz.results70,go_sem]) rfl ⟨rfl,?_⟩;rw[HFS.out];exact⟨HP.out.1,HFF.out.trans HP.out.2⟩
 ):G:=h
theorem zbfm {G:Prop}(h:G:=by
  clear hps1;have HBJ:=HB1;clear HB1 HRR;obtain⟨wj,hwj⟩:∃ wj,wj=w1:=⟨_,rfl⟩;subst hwj;have HS2:Hid (true=(true||decide (y.tr.tx=tStrict))):=rfl;go_wp2_with fail;exact fnTailT
 ):G:=h
theorem zbfn {G:Prop}(h:G:=by
  refine⟨fun h=>(by rw[h] at hr;cases hr),fun j hj=>?_⟩
  by_cases hji:j=i
  ·subst hji;exact hy.wpOp hi hS ⟨fun _=>hS,H⟩
  ·have hm:=ready_mono hj hji;rw[H.1] at hm;cases hm
 ):G:=h
theorem zbfo {G:Prop}(h:G:=by
  split at h
  ·
   cases h;omega
  ·obtain⟨u,i1,h1,h⟩:=binds h;have h2:=deep_cb (l:=l) (hF.st _ _) u i1 h1;have h4:=ih _ _ _ _ h;rw[counts_app,counts_cons,counts_nil] at h4;omega
 ):G:=h
theorem zbfp {G:Prop}(h:G:=by
  refine hK.out _ _ HR2.out (fun _=>?_);clear hK K;refine wh 12 (.bool true) HR2.out ?_;refine wpAnyH_done (by kernel_rfl) ?_ _;go_simp;go_wp2_with fail;go_ret;exact⟨ret_bool (by simp),HW2.out⟩
 ):G:=h
theorem zbfq {G:Prop}(h:G:=by
  go_wp2_with fail;exact bodyPost_ret (v:=.tuple #[.pointer none,.iface 144 (.pointer (some ⟨b,0,none⟩))]) (by simp[results,Tryz.results14,go_sem]) rfl ⟨b,rfl,H1.out,H2.out,H3.out⟩
 ):G:=h
theorem zbfr {G:Prop}(h:G:=by
  obtain⟨v,i1,h1,h⟩:=binds h;obtain⟨_,i2,h2,h⟩:=binds h;cases h;have e1:=deep_cb (l:=l) (hF.vl _ _) v _ h1;have e2:=must_eq h2;rw[count_mk,counts_cons,counts_nil];omega
 ):G:=h
theorem zbfs {G:Prop}(h:G:=by
  obtain⟨_,_,_,h⟩:=bind_inv h;obtain⟨_,_,_,h⟩:=bind_inv h
  cases h;exact hd_ne
 ):G:=h
theorem zbft {G:Prop}(h:G:=by
  rw[hr] at HC HS;simp only[bind_bad] at HS;clear hr;go_wp2_with fail;refine cm HC.out ?_;intro e w' hp;obtain⟨rfl,ha⟩:=hp;exact⟨rfl,ppBad HS.out.symm (HAk.out.next ha)⟩
 ):G:=h
theorem zbfu {G:Prop}(h:G:=by
  show _=_
  rw[HBEL.out.block 6 (by simp;omega),Below.heap_alloc w _ 6 hlt];exact unhide HG
 ):G:=h
theorem zbfv {G:Prop}(h:G:=by
  by_cases hjm:j=m
  ·subst hjm;exact hjun
  ·rw[getD_set_ne true hjm] at hun;exact hun
 ):G:=h
theorem zbfw {G:Prop}(h:G:=by
  go_enter Tryz.func187,Tryz.ntmps187;go_wp2_with fail;refine cm HC.out ?_;rintro e w1 ⟨rfl,hb⟩;have HB:=hide hb;clear HC hb;go_wp2_with fail;go_ret;exact⟨rfl,HB.out⟩
 ):G:=h
theorem zbfx {G:Prop}(h:G:=by
  refine hK.out _ _ HR2.out (fun _=>?_);clear hK K;refine wh 12 (.bool false) HR2.out ?_;refine wpAnyH_done (by kernel_rfl) ?_ _;go_simp;go_wp2_with fail;go_ret;exact⟨rfl,HW2.out⟩
 ):G:=h
theorem zbfy {G:Prop}(h:G:=by
  split
  ·exact Imp.bind (deepP_imp (h.vl _ _)) fun _ _=>Imp.refl _
  ·exact Imp.refl _
 ):G:=h
theorem zbfz {G:Prop}(h:G:=by
  have hst:=pastN_stop lodB s q hqs (by unfold lodB;rw[hl,hd];rfl)
  exfalso;omega
 ):G:=h
theorem zbga {G:Prop}(h:G:=by
  rw[List.length_append];exact owns_stay (I:=fun b=>b=g) (fun b hb _=>hset b (by rw[hb];exact hgt)) (fun b hb=>by simpa[Value.ownBlock] using hb.symm) hown
 ):G:=h
theorem zbgb {G:Prop}(h:G:=by
  have h0:=fx_lt hE hi ‹_› (by decide);exact Nx.bind (nameP_nx hE h0) fun s j h1 h2=>((ih d _ j (by omega) h2).le (by omega)).imp fun h=>⟨h.1,by omega⟩
 ):G:=h
theorem zbgc {G:Prop}(h:G:=by
  rw[ha.block _ (by omega) (by omega),HB2.out.block _ (by omega)];have:=heap_new (w.alloc (.cells #[.pointer none] 22)) (.cells #[.nilIface] 28);simpa using this
 ):G:=h
theorem zbgd {G:Prop}(h:G:=by
  rw[a.tr_eq.2.2] at e
  match hks:a.ks,e with
  | [x,y],_=>exact⟨x,y,rfl⟩
  | [],e=>simp at e
  | [_],e=>simp at e
  | _::_::_::_,e=>simp at e
 ):G:=h
theorem zbge {G:Prop}(h:G:=by
  obtain⟨cur,hb,h1,h2,h3,h4⟩:=h.tokens;rw[cell_of hb,←tks_get c.l i j hi hj,←h4,List.getElem?_take_of_lt (by omega),Array.getElem?_toList]
 ):G:=h
theorem zbgf {G:Prop}(h:G:=by
  rw[HRR.out] at HC;go_wp2_with fail;refine cm HC.out ?_;intro e w' hp;obtain⟨rfl,ha⟩:=hp;exact⟨rfl,ppBad HQ.out.symm (HA3.out.next ha)⟩
 ):G:=h
theorem zbgg {G:Prop}(h:G:=by
  have:=program_any (hF c hc) ⟨KK,fns_nx (by rw[hc];exact hE) KK⟩ (fns_ok c.l KK) W _ rfl (by rw[hc,hr];nofun) hrd
  rw[hc,hr] at this;exact this
 ):G:=h
theorem zbgh {G:Prop}(h:G:=by
  go_simp;refine hK _ _ ?_;clear hK K;exact wz 6 2 CONT
 ):G:=h
theorem zbgi {G:Prop}(h:G:=by
  obtain⟨hl,h0|⟨g,cap,cur,hv,hge,hr⟩⟩:=h
  ·exact⟨hl,Or.inl h0⟩
  ·exact⟨hl,Or.inr ⟨g,cap,cur,hv,by omega,hr⟩⟩
 ):G:=h
theorem zbgj {G:Prop}(h:G:=by
  rcases Nat.lt_or_ge b w.heap.size with h1|h1
  ·exact h1
  ·have h2:w.heap[b]? = none:=Array.getElem?_eq_none h1;simp[World.cell?,h2] at h
 ):G:=h
theorem zbgk {G:Prop}(h:G:=by
  go_wp2_with fail;rw[←HW2.out];exact bodyPost_ret (v:=.tuple #[]) (by simp[results,Tryz.results68,go_sem]) rfl ⟨rfl,unhide HQ _ HB2.out⟩
 ):G:=h
theorem zbgl {G:Prop}(h:G:=by
  refine⟨h.1,?_⟩
  rcases h.2 with hn|⟨g,cap,cur,hv,hb,rest⟩
  ·exact Or.inl hn
  ·exact Or.inr ⟨g,cap,cur,hv,by omega,rest⟩
 ):G:=h
theorem zbgm {G:Prop}(h:G:=by
  clear h2
  cases h1:(kd==1) <;> cases h6:(kd==6) <;>
  ·go_enter Tryz.func118,Tryz.ntmps118;go_wp2_with fail;go_ret;exact⟨rfl,rfl⟩
 ):G:=h
theorem zbgn {G:Prop}(h:G:=by
  have b1:=unhide HB;have b2:=unhide HB2;have b3:=unhide HB3;exact(b1.trans (b2.mono b1.size)).trans (b3.mono (Nat.le_trans b1.size b2.size))
 ):G:=h
theorem zbgo {G:Prop}(h:G:=by
  rw[hr] at HQ;simp only[bind_out] at HQ;exact absurd HQ.out.symm HO.out
 ):G:=h
theorem zbgp {G:Prop}(h:G:=by
  go_enter Tryz.func237,Tryz.ntmps237
  go_wp2
  go_ret2
  exact⟨rfl,rfl⟩
 ):G:=h
theorem zbgq {G:Prop}(h:G:=by
  rename_i s hs
  have h0:=sgP_lt hE hi hs;exact Nx.bind (deepP_nx ((hF.sg _ _ h0).imp fun h=>by omega)) fun t j h1 h2=>Nx.ok (by omega) h2
 ):G:=h
theorem zbgr {G:Prop}(h:G:=by
  go_wp2_with fail
  go_round
  case rel=>exact⟨q+1,by omega,by go_num,Or.inr ⟨by omega,rfl⟩⟩
  case measure=>simp[intOf];omega
 ):G:=h
theorem zbgs {G:Prop}(h:G:=by
  exact((((HPW.out.step hl).alloc _).alloc _).alloc _ |>.alloc _).drew
 ):G:=h
theorem zbgt {G:Prop}(h:G:=by
  split at h
  ·
   cases h;exact ha
  ·obtain⟨u,i1,h1,h⟩:=binds h;exact ih _ _ _ _ (mem_app ha (deep_kh (hF.st _ _) u i1 h1)) h
 ):G:=h
theorem zbgu {G:Prop}(h:G:=by
  rw[nodL_find hm] at h1;have h2:=h.nd;rw[hA,ads_eq] at h2;have h3:=idx_pre h2;rw[←ads_eq,←hA] at h3;rw[h3] at h1;exact h1
 ):G:=h
theorem zbgv {G:Prop}(h:G:=by
  have e2:g=b:=by simpa[Value.ownBlock] using e
  subst e2
  rcases hg with hg|hg
  ·exact h3 g hb hg
  ·have:=(h7 g hb).1;omega
 ):G:=h
theorem zbgw {G:Prop}(h:G:=by
  go_simp;refine cm HC.out ?_;intro e w' hp;obtain⟨rfl,ha⟩:=hp;exact⟨rfl,ppBad HS.out.symm (HAf.out.drew.next ha)⟩
 ):G:=h
theorem zbgx {G:Prop}(h:G:=by
  go_simp;refine cm HC.out ?_;intro e w' hp;obtain⟨rfl,ha⟩:=hp;exact⟨rfl,ppBad HS.out.symm (HA2.out.drew.next ha)⟩
 ):G:=h
theorem zbgy {G:Prop}(h:G:=by
  unfold exprP at h';obtain⟨v,_,_,h'⟩:=bind_inv h';obtain⟨_,_,_,h'⟩:=bind_inv h'
  cases h'
  exact⟨v,[],rfl⟩
 ):G:=h
theorem zbgz {G:Prop}(h:G:=by
  go_wp2_with fail;go_ret;exact⟨⟨_,rfl,_,rfl⟩,⟨i,HP.out.alloc _⟩,he,(Ap.refl c.P _ w3).alloc (Nat.le_refl _) _⟩
 ):G:=h
theorem zbha {G:Prop}(h:G:=by
  refine Nx.bind (nameP_nx hE h2) fun s j2 h3 h4=>?_;exact(rfuncTail_nx hE hF h4 fun h=>by have:=hq h;omega).le (by omega)
 ):G:=h
theorem zbhb {G:Prop}(h:G:=by
  rcases hr.2 with hn|⟨g,cap,cur,hv,hb,rest⟩
  ·exact Or.inl hn
  ·exact Or.inr ⟨g,cap,cur,hv,by omega,rest⟩
 ):G:=h
theorem zbhc {G:Prop}(h:G:=by
  go_simp;refine cm HCC.out ?_;intro e wc hp;obtain⟨rfl,ha⟩:=hp;exact⟨rfl,ppBad rfl (HAg1.out.drew.next ha)⟩
 ):G:=h
theorem zbhd {G:Prop}(h:G:=by
  refine Nx.bind (nameP_nx hE h2) fun s j2 h3 h4=>?_;exact(funcTail_nx hE hF h4 fun h=>by have:=hq h;omega).le (by omega)
 ):G:=h
theorem zbhe {G:Prop}(h:G:=by
  go_wp2
  go_ret;exact⟨ret_bool (by have:=unhide HE;rw[List.take_of_length_le (by omega)] at this;exact this.symm),rfl⟩
 ):G:=h
theorem zbhf {G:Prop}(h:G:=by
  go_simp;refine cm HCF.out ?_;intro e wc hp;obtain⟨rfl,ha⟩:=hp;exact⟨rfl,ppBad rfl (HAz.out.drew.next ha)⟩
 ):G:=h
theorem zbhg {G:Prop}(h:G:=by
  go_simp;refine cm HCF.out ?_;intro e wc hp;obtain⟨rfl,ha⟩:=hp;exact⟨rfl,ppBad rfl (HAf.out.drew.next ha)⟩
 ):G:=h
theorem zbhh {G:Prop}(h:G:=by
  intro k hk
  rcases List.mem_cons.1 hk with rfl|hk
  ·exact⟨_,hv⟩
  ·rw[List.mem_singleton.1 hk];exact⟨_,hs⟩
 ):G:=h
theorem zbhi {G:Prop}(h:G:=by
  intro k hk
  rcases List.mem_cons.1 hk with rfl|hk
  ·exact⟨_,hp⟩
  ·rw[List.mem_singleton.1 hk];exact⟨_,hb⟩
 ):G:=h
theorem zbhj {G:Prop}(h:G:=by
  intro k hk
  rcases List.mem_cons.1 hk with rfl|hk
  ·exact⟨_,ha⟩
  ·rw[List.mem_singleton.1 hk];exact⟨_,hb⟩
 ):G:=h
theorem zbhk {G:Prop}(h:G:=by
  obtain⟨p,hp,hn⟩:=h;have:q=p:=by injection hp with h1;injection h1 with h2;injection h2
  rw[this];exact hn
 ):G:=h
theorem zbhl {G:Prop}(h:G:=by
  have h:=tl_neL (b:=noText) (l:=[]) rfl htx
  cases hl:tx.toList with
  | nil=>rw[hl] at h;cases h
  | cons _ _=>rfl
 ):G:=h
theorem zbhm {G:Prop}(h:G:=by
  refine mem_snoc HALL.out ?_;have h1:=unhide HRR;unfold deepP at h1
  split at h1
  ·
   cases h1
  ·exact HKO.out _ _ _ _ h1
 ):G:=h
theorem zbhn {G:Prop}(h:G:=by
  rcases List.mem_cons.1 hk with rfl|hk
  ·exact⟨_,v0,ha⟩
  ·rw[List.mem_singleton.1 hk];exact⟨_,v0,hb⟩
 ):G:=h
def btwB (lo hi c:Int):Bool:=decide (lo≤c)&&decide (c≤hi)
def letB (c:Int):Bool:=btwB 97 122 c||c==95
def digB (c:Int):Bool:=btwB 48 57 c
def lodB (c:Int):Bool:=letB c||digB c
def inB (s:List UInt8)(c:Int):Bool:=decide (0≤Lib.indexByte s c.toNat.toUInt8)
theorem hide {p:Prop}(h:p):Hid p:=h
theorem unhide {p:Prop}(h:Hid p):p:=h
theorem ret_bool {a b:Bool}(h:a=b):Ending.returned (.bool a)=.returned (.bool b):=by rw[h]
theorem isLetter_any (c:Int)(w:World) :
  Calls Tryz.prog 133 #[.int .u8 c] w fun e w'=>e=.returned (.bool (letB c))∧w'=w:=by
 go_enter Tryz.func133,Tryz.ntmps133
 go_wp2
 all_goals go_ret
 all_goals refine⟨ret_bool ?_,rfl⟩
 all_goals simp[letB,btwB, *]
 all_goals omega
theorem isDigit_any (c:Int)(w:World) :
  Calls Tryz.prog 134 #[.int .u8 c] w fun e w'=>e=.returned (.bool (digB c))∧w'=w:=by
 go_enter Tryz.func134,Tryz.ntmps134
 go_wp2
 all_goals go_ret
 all_goals refine⟨ret_bool ?_,rfl⟩
 all_goals (simp[digB,btwB, *];try omega)
theorem between1_any (c lo hi:Int)(p q:Addr)(w:World)(h1:w.cell? p=some (.int .u8 lo))(h2:w.cell? q=some (.int .u8 hi)) :
  Calls Tryz.prog 278 #[.int .u8 c,.pointer (some p),.pointer (some q)] w fun e w'=>e=.returned (.bool (btwB lo hi c))∧w'=w:=by
 go_enter Tryz.func278,Tryz.ntmps278
 go_wp2
 all_goals go_ret
 all_goals refine⟨ret_bool ?_,rfl⟩
 all_goals (simp[btwB, *];try omega)
theorem ib_run (s:ByteArray)(c:Int)(w:World):(callFunc 276 #[.string s,.int .u8 c]).run Tryz.prog w=.ok (.value (.int .i64 (Lib.indexByte s.data.toList c.toNat.toUInt8))) w:=by
 rw[run_callFunc_extern Tryz.func276 (by kernel_rfl) (by kernel_rfl) (by kernel_rfl) (e:=Extern.BytealgIndexByte.indexByte) (by kernel_rfl),Lib.run_indexByteString]
 rfl
theorem among1_any (c:Int)(p:Addr)(s:ByteArray)(w:World)(h1:w.cell? p=some (.string s)) :
  Calls Tryz.prog 154 #[.int .u8 c,.pointer (some p)] w fun e w'=>e=.returned (.bool (inB s.data.toList c))∧w'=w:=by
 have hib:=ib_run s c
 go_enter Tryz.func154,Tryz.ntmps154
 go_wp2
 go_ret
 exact⟨ret_bool (by simp[inB]),rfl⟩
theorem en29:∀ args W,(callFunc 154 args).run Tryz.prog W=.ok (.enter 154 args) W:=fun _ _=>by kernel_rfl
theorem en48:∀ args W,(callFunc 277 args).run Tryz.prog W=.ok (.enter 277 args) W:=fun _ _=>by kernel_rfl
theorem en49:∀ args W,(callFunc 278 args).run Tryz.prog W=.ok (.enter 278 args) W:=fun _ _=>by kernel_rfl
/-- A value is a teller of p: in every later world it is a function that answers so and leaves the world as it was. -/
def Tells (w:World)(v:Value)(p:Int→Bool):Prop:=
 ∃ f caps,v=.func (.func f) #[] caps∧(∀ args W,(callFunc f args).run Tryz.prog W=.ok (.enter f args) W)∧∀ W,Below w.heap.size w W→∀ b:UInt8,Calls Tryz.prog f (#[.int .u8 (b.toNat:Int)]++caps) W fun e W'=>e=.returned (.bool (p (b.toNat:Int)))∧W'=W
theorem Tells.later {w w':World}{v:Value}{p:Int→Bool}(h:Tells w v p)(hb:Below w.heap.size w w'):Tells w' v p:=by
 obtain⟨f,caps,rfl,he,h⟩:=h
 exact⟨f,caps,rfl,he,fun W hW c=>h W (hb.trans (hW.mono hb.size)) c⟩
theorem cell_later2 {w W:World}{b o:Nat}{v:Value}(hb:Below w.heap.size w W)(h:w.cell? ⟨b,o,none⟩=some v)(hlt:b<w.heap.size):W.cell? ⟨b,o,none⟩=some v:=by
 rw[hb.cell (p:=⟨b,o,none⟩) hlt];exact h
theorem mf_run:∀ (fn:Fn) (first cap:Array Value) (w:World),(Instr.makeFunc fn first cap).run Tryz.prog w=.ok (.func fn first cap) w:=fun _ _ _ _=>rfl
theorem between_any (lo hi:Int)(w:World) :
  Calls Tryz.prog 233 #[.int .u8 lo,.int .u8 hi] w fun e w'=>∃ v,e=.returned v∧Tells w' v (btwB lo hi)∧Below w.heap.size w w':=by
 have hmf:=mf_run
 go_enter Tryz.func233,Tryz.ntmps233
 go_wp2
 go_ret
 refine⟨_,rfl,⟨278,_,rfl,en49,fun W hW c=>?_⟩,((Below.refl _ _).alloc (Nat.le_refl _) _).alloc (by simp) _⟩
 refine between1_any _ lo hi _ _ W ?_ ?_
 ·exact cell_later2 hW (by simp[World.cell?_alloc_past,World.cell?_alloc_at]) (by simp;omega)
 ·exact cell_later2 hW (by simp[World.cell?_alloc_at]) (by simp)
theorem among_any (s:ByteArray)(w:World) :
  Calls Tryz.prog 98 #[.string s] w fun e w'=>∃ v,e=.returned v∧Tells w' v (inB s.data.toList)∧Below w.heap.size w w':=by
 have hmf:=mf_run
 go_enter Tryz.func98,Tryz.ntmps98
 go_wp2
 go_ret
 refine⟨_,rfl,⟨154,_,rfl,en29,fun W hW c=>?_⟩,(Below.refl _ _).alloc (Nat.le_refl _) _⟩
 refine among1_any _ _ s W ?_
 exact cell_later2 hW (by simp[World.cell?_alloc_at]) (by simp)
theorem either1_any (c:Int)(p q:Addr)(f g:Nat)(cf cg:Array Value)(P Q:Int→Bool)(w:World)(ef:∀ args W,(callFunc f args).run Tryz.prog W=.ok (.enter f args) W)(eg:∀ args W,(callFunc g args).run Tryz.prog W=.ok (.enter g args) W)(h1:w.cell? p=some (.func (.func f) #[] cf))(h2:w.cell? q=some (.func (.func g) #[] cg))
  (hf:Calls Tryz.prog f (#[.int .u8 c]++cf) w fun e w'=>e=.returned (.bool (P c))∧w'=w)
  (hg:Calls Tryz.prog g (#[.int .u8 c]++cg) w fun e w'=>e=.returned (.bool (Q c))∧w'=w) :
  Calls Tryz.prog 277 #[.int .u8 c,.pointer (some p),.pointer (some q)] w fun e w'=>e=.returned (.bool (P c||Q c))∧w'=w:=by
 have Hf:Hid _:=hf
 have Hg:Hid _:=hg
 clear hf hg
 cases hP:P c
 ·go_enter Tryz.func277,Tryz.ntmps277;go_wp2_with fail;refine Calls.mono Hf.out ?_;rw[hP];rintro e w' ⟨rfl,rfl⟩;go_wp2_with fail;refine Calls.mono Hg.out ?_;rintro e w' ⟨rfl,rfl⟩;go_wp2_with fail;go_ret
  exact⟨ret_bool (by simp),rfl⟩
 ·go_enter Tryz.func277,Tryz.ntmps277;go_wp2_with fail;refine Calls.mono Hf.out ?_;rw[hP];rintro e w' ⟨rfl,rfl⟩;go_wp2_with fail;go_ret;exact⟨ret_bool (by simp),rfl⟩
theorem either_any (u v:Value)(P Q:Int→Bool)(w:World)(hu:Tells w u P)(hv:Tells w v Q) :
  Calls Tryz.prog 232 #[u,v] w fun e w'=>∃ x,e=.returned x∧Tells w' x (fun c=>P c||Q c)∧Below w.heap.size w w':=by
 have hmf:=mf_run
 obtain⟨f,cf,rfl,ef,hf⟩:=hu
 obtain⟨g,cg,rfl,eg,hg⟩:=hv
 have Hf:=hide hf
 have Hg:=hide hg
 clear hf hg
 go_enter Tryz.func232,Tryz.ntmps232
 go_wp2
 go_ret
 have hb:Below w.heap.size w ((w.alloc (.cells #[.func (.func f) #[] cf] 134)).alloc (.cells #[.func (.func g) #[] cg] 134)):=((Below.refl _ _).alloc (Nat.le_refl _) _).alloc (by simp) _
 refine⟨_,rfl,⟨277,_,rfl,en48,fun W hW c=>?_⟩,hb⟩
 have hWw:=hb.trans (hW.mono hb.size)
 refine either1_any _ _ _ f g cf cg P Q W ef eg ?_ ?_ (unhide Hf W hWw c) (unhide Hg W hWw c)
 ·exact cell_later2 hW (by simp[World.cell?_alloc_past,World.cell?_alloc_at]) (by simp;omega)
 ·exact cell_later2 hW (by simp[World.cell?_alloc_at]) (by simp)
theorem digit_any (w:World):Calls Tryz.prog 158 #[] w fun e w'=>∃ x,e=.returned x∧Tells w' x digB∧Below w.heap.size w w':=by
 go_enter Tryz.func158,Tryz.ntmps158
 go_wp2_with fail
 refine(between_any 48 57 _).mono ?_
 rintro e w' ⟨x,rfl,hx,hb⟩
 have HX:=hide hx
 have HB:=hide hb
 clear hx hb
 go_wp2_with fail
 go_ret
 exact⟨x,rfl,HX.out,HB.out⟩
theorem Tells.congr {w:World}{v:Value}{p q:Int→Bool}(h:Tells w v p)(e:∀ b:UInt8,p (b.toNat:Int)=q (b.toNat:Int)):Tells w v q:=by
 obtain⟨f,caps,rfl,he,h⟩:=h
 exact⟨f,caps,rfl,he,fun W hW b=>by rw[←e b];exact h W hW b⟩
theorem inB_under (b:UInt8):inB [95] (b.toNat:Int)=((b.toNat:Int)==95):=by
 have key:∀ m:Fin 256,inB [95] ((m.val:Nat):Int)=(((m.val:Nat):Int)==95):=by decide +kernel
 exact key ⟨b.toNat,b.toNat_lt⟩
def gapB (c:Int):Bool:=c==32||c==10
theorem inB_gap (b:UInt8):inB [32,10] (b.toNat:Int)=gapB (b.toNat:Int):=by
 have key:∀ m:Fin 256,inB [32,10] ((m.val:Nat):Int)=gapB ((m.val:Nat):Int):=by decide +kernel
 exact key ⟨b.toNat,b.toNat_lt⟩
open zrqi in
theorem letter_any (w:World):Calls Tryz.prog 156 #[] w fun e w'=>∃ x,e=.returned x∧Tells w' x letB∧Below w.heap.size w w':=by
 go_enter Tryz.func156,Tryz.ntmps156
 go_wp2_with fail
 refine(between_any 97 122 _).mono ?_
 rintro e w1 ⟨x,rfl,hx,hb⟩
 have HX:=hide hx
 have HB:=hide hb
 clear hx hb
 go_wp2_with fail
 refine(among_any _ _).mono ?_
 exact zrel
open zrqj in
theorem lod_any (w:World):Calls Tryz.prog 234 #[] w fun e w'=>∃ x,e=.returned x∧Tells w' x lodB∧Below w.heap.size w w':=by
 go_enter Tryz.func234,Tryz.ntmps234
 go_wp2_with fail
 refine(letter_any _).mono ?_
 rintro e w1 ⟨x,rfl,hx,hb⟩
 have HX:=hide hx
 have HB:=hide hb
 clear hx hb
 go_wp2_with fail
 refine(digit_any _).mono ?_
 exact zrel
/-- The first place from k on whose byte is of another kind, or the end. -/
def pastN (p:Int→Bool)(s:ByteArray)(k:Nat):Nat:=k+((s.data.toList.drop k).takeWhile (fun b=>p (b.toNat:Int))).length
section
variable (p:Int→Bool) (s:ByteArray) (k:Nat)
include p s k
theorem pastN_le (h:k≤s.size):pastN p s k≤s.size:=by
 unfold pastN
 have h1:=((List.takeWhile_prefix (l:=s.data.toList.drop k) (fun b=>p (b.toNat:Int))).length_le)
 have h2:(s.data.toList.drop k).length=s.size - k:=by simp
 omega
theorem pastN_go (h:k<s.size)(hp:p (s[k].toNat:Int)=true):pastN p s (k+1)=pastN p s k:=by
 unfold pastN
 have hk:k<s.data.toList.length:=by simpa using h
 have e:s.data.toList.drop k=s[k]::s.data.toList.drop (k+1):=List.drop_eq_getElem_cons hk
 rw[e,List.takeWhile_cons,if_pos hp,List.length_cons];omega
theorem pastN_stop (h:k<s.size)(hp:p (s[k].toNat:Int)=false):pastN p s k=k:=by
 unfold pastN
 have hk:k<s.data.toList.length:=by simpa using h
 have e:s.data.toList.drop k=s[k]::s.data.toList.drop (k+1):=List.drop_eq_getElem_cons hk
 rw[e,List.takeWhile_cons,if_neg (by rw[hp];simp)];rfl
theorem pastN_end (h:s.size≤k):pastN p s k=k:=by
 unfold pastN
 rw[List.drop_of_length_le (by simpa using h)];rfl
end
theorem ret_int {k:IntKind}{a b:Int}(h:a=b):Ending.returned (.int k a)=.returned (.int k b):=by rw[h]
theorem past_any (s:ByteArray)(k0:Nat)(v:Value)(p:Int→Bool)(w:World)(hs:s.size≤maxLen)(hk0:k0≤s.size)(hv:Tells w v p) :
  Calls Tryz.prog 99 #[.string s,.int .i64 (k0:Int),v] w fun e w'=>e=.returned (.int .i64 (pastN p s k0:Nat))∧w'=w:=by
 unfold maxLen at hs
 obtain⟨f,caps,rfl,ef,hf⟩:=hv
 have hf:=hf w (Below.refl _ _)
 have Hf:=hide hf
 clear hf
 go_enter Tryz.func99,Tryz.ntmps99
 go_wp2
 go_loopw [1] (fun i wr=>∃ k:Nat,k≤s.size∧i=.int .i64 k∧pastN p s k=pastN p s k0∧wr=w) (fun i _=>s.size - (intOf i).toNat)
 case atStart=>exact⟨k0,hk0,rfl,rfl,rfl⟩
 case round=>
  obtain⟨k,hk,rfl,he,rfl⟩:=hrel;have HE:=hide he;clear he
  by_cases hlt:k<s.size
  ·
   cases hp:p (s[k].toNat:Int)
   ·have hst:=hide (pastN_stop p s k hlt hp);have HP:=hide hp;clear hp;go_wp2_with fail;refine Calls.mono (unhide Hf _) ?_;rw[HP.out];rintro e w' ⟨rfl,rfl⟩;go_wp2_with fail;go_ret
    exact⟨ret_int (by rw[←HE.out,hst.out]),rfl⟩
   ·have hst:=hide (pastN_go p s k hlt hp);have HP:=hide hp;clear hp;go_wp2_with fail;refine Calls.mono (unhide Hf _) ?_;rw[HP.out];rintro e w' ⟨rfl,rfl⟩;go_wp2_with fail
    go_roundw
    case rel=>exact⟨k+1,by omega,by go_num,by rw[hst.out,HE.out],by trivial⟩
    case measure=>simp[intOf];omega
  ·have hst:=hide (pastN_end p s k (by omega));go_wp2_with fail;go_ret;exact⟨ret_int (by rw[←HE.out,hst.out]),rfl⟩
def isIn (ws:List ByteArray)(s:ByteArray):Bool:=ws.any (fun x=>x.toList==s.toList)
section
variable (ws:List ByteArray) (s:ByteArray) (k:Nat) (h:k<ws.length)
include ws s k h
theorem isIn_take_succ (h0:isIn (ws.take k) s=false)(h1:(ws[k].toList==s.toList)=false):isIn (ws.take (k+1)) s=false:=by
 unfold isIn at *
 rw[List.take_succ_eq_append_getElem h,List.any_append,h0]
 simpa using h1
theorem isIn_hit (h1:(ws[k].toList==s.toList)=true):isIn ws s=true:=by
 unfold isIn
 exact List.any_eq_true.2 ⟨ws[k],List.getElem_mem h,h1⟩
end
theorem has_any (a:Addr)(cap:Nat)(ws:List ByteArray)(s:ByteArray)(w:World)(hn:ws.length≤1000)
  (hc:∀ i,i<ws.length→w.cell? (a.add i)=some (.string (ws.getD i ByteArray.empty))) :
  Calls Tryz.prog 53 #[.slice (some a) ws.length cap,.string s] w fun e w'=>e=.returned (.bool (isIn ws s))∧w'=w:=by
 go_enter Tryz.func53,Tryz.ntmps53
 go_wp2
 go_loop [6,9] (fun _ i=>∃ k:Nat,k≤ws.length∧i=.int .i64 k∧isIn (ws.take k) s=false) (fun _ i=>ws.length - (intOf i).toNat)
 case atStart=>exact⟨0,Nat.zero_le _,rfl,rfl⟩
 case round=>
  obtain⟨k,hk,rfl,he⟩:=hrel;have HE:=hide he;clear he
  by_cases hlt:k<ws.length
  ·have hck:=hc k hlt;clear hc
   go_wp2
   ·go_ret;exact⟨ret_bool (isIn_hit ws s k hlt ‹_›).symm,rfl⟩
   ·exact⟨⟨k+1,by omega,by go_num,isIn_take_succ ws s k hlt HE.out ‹_›⟩,by simp[intOf];omega⟩
  ·clear hc;exact zbhe
theorem idx53 (cs:Array Value)(k:Nat)(hk:k<19)(x:ByteArray)(hx:cs[k]? = some (.string x))(w:World) :
  (Instr.index 257 (.agg cs) (.int .i64 (k:Int))).run Tryz.prog w=.ok (.string x) w:=by
 simp[Instr.index,run_underlying Tryz.underlying257,asIntOf,go_sem,hk,hx]
theorem isWord_any (ws:List ByteArray)(s:ByteArray)(w:World)(hn:ws.length=19)(t:TypeId)(fr:Nat × Nat)
  (hg:w.heap[6]? = some (.cells (ws.map Value.string).toArray t fr)) :
  Calls Tryz.prog 235 #[.string s] w fun e w'=>e=.returned (.bool (isIn ws s))∧w'=w:=by
 obtain⟨cs,hcs⟩:∃ cs,cs=(ws.map Value.string).toArray:=⟨_,rfl⟩
 rw[←hcs] at hg
 have hsz:cs.size=19:=by rw[hcs];simpa using hn
 have hix:∀ k:Nat,k<19→∀ W,(Instr.index 257 (.agg cs) (.int .i64 (k:Int))).run Tryz.prog W=.ok (.string (ws.getD k ByteArray.empty)) W:=fun k hk W=>
  idx53 cs k hk _ (by rw[hcs];simp[hn,hk]) W
 have HIX:=hide hix
 have Hcs:=hide hcs
 have Hsz:=hide hsz
 have Hg:=hide hg
 clear hix hcs hsz hg
 go_enter Tryz.func235,Tryz.ntmps235
 go_wp2_with (refine wpList_load_row rfl 257 _ rfl 6 rfl t cs fr _ Hg.out Tryz.underlying257 rfl (by rw[Hsz.out];kernel_rfl) ?_)
 go_loop [4,6] (fun _ i=>∃ k:Nat,k≤19∧i=.int .i64 k∧isIn (ws.take k) s=false) (fun _ i=>19 - (intOf i).toNat)
 case atStart=>exact⟨0,Nat.zero_le _,rfl,rfl⟩
 case round=>
  obtain⟨k,hk,rfl,he⟩:=hrel;have HE:=hide he;clear he
  by_cases hlt:k<19
  ·have hck:=unhide HIX k hlt
   go_wp2
   ·go_ret;exact⟨ret_bool (isIn_hit ws s k (by omega) (by rw[BEq.comm];assumption)).symm,rfl⟩
   ·exact⟨⟨k+1,by omega,by go_num,isIn_take_succ ws s k (by omega) HE.out (by rw[BEq.comm];assumption)⟩,by simp[intOf];omega⟩
  ·exact zbhe
theorem refIsWord_any (a:Addr)(cap:Nat)(ws:List ByteArray)(s:ByteArray)(w:World)(hn:ws.length=19)
  (hg:w.cell? ⟨4,0,none⟩=some (.slice (some a) 19 cap))
  (hc:∀ i,i<ws.length→w.cell? (a.add i)=some (.string (ws.getD i ByteArray.empty))) :
  Calls Tryz.prog 135 #[.string s] w fun e w'=>e=.returned (.bool (isIn ws s))∧w'=w:=by
 have HC:=hide hc
 have HN:=hide hn
 clear hc hn
 go_enter Tryz.func135,Tryz.ntmps135
 go_wp2_with fail
 have hh:=has_any a cap ws s w (by rw[HN.out];omega) HC.out
 rw[HN.out] at hh
 refine hh.mono ?_
 rintro e w' ⟨rfl,rfl⟩
 go_wp2_with fail
 go_ret
 exact⟨rfl,rfl⟩
end Go.Proofs.YtoimgcjbcbhclaaGreatDoor
namespace Go.Proofs.YtoimgcjbcbhclaaGreatDoor
open Go.ChangeShapes Go.WideShapes Go.ChangeAt Go.WideMaps Go.WideElems Go.RowKit
def ofBytes (l:List UInt8):ByteArray:=⟨l.toArray⟩
def wordsL:List (List UInt8):=[[118,97,114],[108,101,116],[99,111,110,115,116],[102,117,110,99,116,105,111,110],[105,102],[101,108,115,101],[119,104,105,108,101],[119,105,116,104],[114,101,116,117,114,110],[116,104,114,111,119],[116,114,121],[99,97,116,99,104],[102,105,110,97,108,108,121],[116,121,112,101,111,102],[100,101,108,101,116,101],[116,114,117,101],[102,97,108,115,101],[110,117,108,108],[117,110,100,101,102,105,110,101,100]]
def wordsS:List ByteArray:=wordsL.map ofBytes
def signsL:List (List UInt8):=[[61,61,61],[38,38],[124,124],[40],[41],[123],[125],[91],[93],[59],[58],[44],[46],[61],[43],[45],[42],[60],[33]]
def signsS:List ByteArray:=signsL.map ofBytes
theorem wordsS_len:wordsS.length=19:=rfl
theorem signsS_len:signsS.length=19:=rfl
theorem ofBytes_eq {s:ByteArray}{l:List UInt8}(h:s.data.toList=l):s=ofBytes l:=bytes_inj (by rw[h];rfl)
theorem at_eq (s:ByteArray)(i:Nat)(h:i<s.size):s.data.toList.getD i 0=s[i]:=by
 have h3:i<s.data.toList.length:=by (have h4:s.data.toList.length=s.size:=by simp);omega
 rw[List.getD_eq_getElem?_getD,List.getElem?_eq_getElem h3];rfl
end Go.Proofs.YtoimgcjbcbhclaaGreatDoor
