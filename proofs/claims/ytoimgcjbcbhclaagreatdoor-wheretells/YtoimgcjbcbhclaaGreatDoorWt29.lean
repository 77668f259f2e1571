/-
  The document's Names.
-/
import Derived.Test.YtoimgcjbcbhclaaGreatDoorWt28
set_option maxRecDepth 100000
set_option maxHeartbeats 16000000
namespace Go.Proofs.YtoimgcjbcbhclaaGreatDoor
open Go.RowKit
theorem ptr_ones (ps:List Nat):∀ u ∈ ps.map nPtr,u.oneCell'=true:=by
 intro u hu
 obtain⟨p,_,rfl⟩:=List.mem_map.1 hu
 rfl
theorem rnames_any (t:Tr)(p:Nat)(body:Bool)(w:World)(h:NTr w t p)(hc:t.count≤20000) :
  Calls Tryz.prog 54 #[nPtr p,.bool body] w fun e w'=>(∃ u,e=.returned u∧SRow w.heap.size w' u (namesT t body))∧Below w.heap.size w w':=by
 obtain⟨i0,hi0,hz0,hz1,hz2⟩:=info_parts info22
 have htc:t.count=1+Tr.counts t.kids:=by cases t with|mk kd tx nn ks=>exact count_mk _ _ _ _
 have hkl:t.kids.length≤20000:=by have:=counts_len t.kids;omega
 have hfl:=fns_len t
 have hll:=lets_len t
 have hvl:=vars_len t
 have HN0:=hide h
 obtain⟨V,hV⟩:∃ V,V=if body then varsT t else []:=⟨_,rfl⟩
 have hVl:V.length≤20000:=by
  rw[hV]
  split
  ·omega
  ·simp
 have hnm:namesT t body=(((fnsT t)++(letsT t)).map Tr.tx).foldl addB V:=by
  unfold namesT;rw[←hV,List.append_assoc,onceL,List.foldl_append,List.map_append];have h1:V.foldl addB []=V:=by
   rw[hV]
   split
   ·exact once_once _
   ·rfl
  rw[h1]
 rw[hnm]
 have HV:=hide hV
 have HC0:=hide (rvars_any t p w h hc)
 clear h hnm htc hvl hc hV
 obtain⟨NL,hNL⟩:∃ NL,NL=fnsT t++letsT t:=⟨_,rfl⟩
 rw[←hNL]
 have hnl:NL.length≤40000:=by rw[hNL,List.length_append];omega
 have HNL:=hide hNL
 clear hNL
 cases body with
 | true=>
  have hV2:V=varsT t:=unhide HV;rw[←hV2] at HC0;clear hV2 HV;go_enter Tryz.func54,Tryz.ntmps54;go_wp2_with fail;refine cm HC0.out ?_;rintro e W1 ⟨⟨u1,rfl,hr1⟩,hb1⟩;obtain⟨A1,C1,rfl⟩:=srow_form hr1
  have HV1:=hide hr1;have HB1:=hide hb1;clear HC0 hr1 hb1;have HC:=hide (rfuncs_any t p w W1 HN0.out HB1.out hkl);go_wp2_with fail;refine cm HC.out ?_;rintro e w2 ⟨⟨u2,rfl,hr2⟩,hb2⟩
  have HB2:=hide (HB1.out.trans (hb2.mono HB1.out.size));have HV2:=hide (SRow.later HV1.out hb2);have HF2:=hide hr2;have HS2:=hide hb2.size;obtain⟨a2,c2,rfl⟩:=hr2.form
  have HC2:=hide (rlets_any t p w w2 HN0.out HB2.out hkl);clear HC hr2 hb2;go_wp2_with fail;refine cm HC2.out ?_;rintro e w3 ⟨⟨u3,rfl,hr3⟩,hb3⟩;have HB3:=hide (HB2.out.trans (hb3.mono HB2.out.size))
  have HV3:=hide (SRow.later HV2.out hb3);have HS3:=hide (Nat.le_trans HS2.out hb3.size);obtain⟨a3,c3,rfl⟩:=hr3.form;obtain⟨ps,hf1,hf2⟩:=HF2.out.later hb3;obtain⟨qs,hg1,hg2⟩:=hr3
  have hpl:=NLs.length _ _ hf2;have hql:=NLs.length _ _ hg2;rw[hpl] at hf1;rw[hql] at hg1;have HF3:=hide hf1;have HG3:=hide hg1;have HNS:=hide (NLs.append hg2 _ _ hf2)
  have HPQ:Hid (ps.length=(fnsT t).length∧qs.length=(letsT t).length):=⟨hpl,hql⟩;clear HC2 hb3 hf1 hf2 hg1 hg2 hpl hql HF2
  go_wp2_with (at_builtin;refine wpList_app_row rfl _ _ 46 rfl W1.heap.size _ 22 i0 (.pointer none) 8 Tryz.underlying46 hi0 hz0 hz1 hz2 rfl _ _ _ rfl HF3.out _ _ _ rfl HG3.out (ptr_ones qs) (by unfold maxLen;omega) (by omega) HS3.out ?_)
  intro v4 w4 hown4 hgr4;have hob:=fun k hk=>(own_lt HF3.out k hk).2;have HB4:=hide (HB3.out.grown hgr4 HB3.out.size (fun k hk=>Nat.le_trans HB1.out.size (hob k hk)));have HRW:Hid (NRow0 w 0 w4 v4 NL):=by
   have h1:NRow0 w W1.heap.size w4 v4 (fnsT t++letsT t):=by
    refine⟨ps++qs,?_,HNS.out⟩;rw[List.length_append,List.map_append,HPQ.out.1,HPQ.out.2];exact hown4
   rw[HNL.out];exact h1.low (Nat.zero_le _)
  have HV4:Hid (SRow w.heap.size w4 (.slice A1 V.length C1) V):=owns_stay (I:=fun x=>x<W1.heap.size) (fun x hx hl=>hgr4.block x hl (fun e=>absurd (hob x e.symm) (by have h1:x<W1.heap.size:=hx;omega))) (fun g hg=>(own_lt HV1.out g hg).1) HV3.out
  obtain⟨a4,c4,rfl⟩:=HRW.out.form;clear hown4 hgr4 hob HV3 HV2 HNS HPQ HF3 HG3 HS2 HS3;go_wp2_with fail
  go_loopw [5,17] (fun o j wr=>∃ k:Nat,k≤NL.length∧j=.int .i64 k∧SRow w.heap.size wr o (((NL.take k).map Tr.tx).foldl addB V)∧Below w4.heap.size w4 wr) (fun _ j _=>NL.length - (intOf j).toNat)
  case atStart=>exact⟨0,Nat.zero_le _,rfl,HV4.out,Below.refl _ _⟩
  case round=>
   exact zbbb
 | false=>
  have HV1:Hid (SRow w.heap.size w (.slice none V.length 0) V):=by
   have h1:V=[]:=unhide HV;rw[h1];exact srow_nil _ _
  have hV0:V.length=0:=by
   have h1:V=[]:=unhide HV;rw[h1];rfl
  have HB1:Hid (Below w.heap.size w w):=Below.refl _ _;clear HC0 HV;go_enter Tryz.func54,Tryz.ntmps54;have HC:=hide (rfuncs_any t p w w HN0.out HB1.out hkl);go_wp2_with fail;refine cm HC.out ?_
  rintro e w2 ⟨⟨u2,rfl,hr2⟩,hb2⟩;have HB2:=hide (HB1.out.trans (hb2.mono HB1.out.size));have HV2:=hide (SRow.later HV1.out hb2);have HF2:=hide hr2;have HS2:=hide hb2.size;obtain⟨a2,c2,rfl⟩:=hr2.form
  have HC2:=hide (rlets_any t p w w2 HN0.out HB2.out hkl);clear HC hr2 hb2;go_wp2_with fail;refine cm HC2.out ?_;rintro e w3 ⟨⟨u3,rfl,hr3⟩,hb3⟩;have HB3:=hide (HB2.out.trans (hb3.mono HB2.out.size))
  have HV3:=hide (SRow.later HV2.out hb3);have HS3:=hide (Nat.le_trans HS2.out hb3.size);obtain⟨a3,c3,rfl⟩:=hr3.form;obtain⟨ps,hf1,hf2⟩:=HF2.out.later hb3;obtain⟨qs,hg1,hg2⟩:=hr3
  have hpl:=NLs.length _ _ hf2;have hql:=NLs.length _ _ hg2;rw[hpl] at hf1;rw[hql] at hg1;have HF3:=hide hf1;have HG3:=hide hg1;have HNS:=hide (NLs.append hg2 _ _ hf2)
  have HPQ:Hid (ps.length=(fnsT t).length∧qs.length=(letsT t).length):=⟨hpl,hql⟩;clear HC2 hb3 hf1 hf2 hg1 hg2 hpl hql HF2
  go_wp2_with (at_builtin;refine wpList_app_row rfl _ _ 46 rfl w.heap.size _ 22 i0 (.pointer none) 8 Tryz.underlying46 hi0 hz0 hz1 hz2 rfl _ _ _ rfl HF3.out _ _ _ rfl HG3.out (ptr_ones qs) (by unfold maxLen;omega) (by omega) HS3.out ?_)
  intro v4 w4 hown4 hgr4;have hob:=fun k hk=>(own_lt HF3.out k hk).2;have HB4:=hide (HB3.out.grown hgr4 HB3.out.size (fun k hk=>Nat.le_trans HB1.out.size (hob k hk)));have HRW:Hid (NRow0 w 0 w4 v4 NL):=by
   have h1:NRow0 w w.heap.size w4 v4 (fnsT t++letsT t):=by
    refine⟨ps++qs,?_,HNS.out⟩;rw[List.length_append,List.map_append,HPQ.out.1,HPQ.out.2];exact hown4
   rw[HNL.out];exact h1.low (Nat.zero_le _)
  have HV4:Hid (SRow w.heap.size w4 (.slice none V.length 0) V):=owns_stay (I:=fun x=>x<w.heap.size) (fun x hx hl=>hgr4.block x hl (fun e=>absurd (hob x e.symm) (by have h1:x<w.heap.size:=hx;omega))) (fun g hg=>(own_lt HV1.out g hg).1) HV3.out
  obtain⟨a4,c4,rfl⟩:=HRW.out.form;clear hown4 hgr4 hob HV3 HV2 HNS HPQ HF3 HG3 HS2 HS3;go_wp2_with fail
  go_loopw [5,17] (fun o j wr=>∃ k:Nat,k≤NL.length∧j=.int .i64 k∧SRow w.heap.size wr o (((NL.take k).map Tr.tx).foldl addB V)∧Below w4.heap.size w4 wr) (fun _ j _=>NL.length - (intOf j).toNat)
  case atStart=>exact⟨0,Nat.zero_le _,rfl,by have h:=unhide HV4;rw[hV0] at h;exact h,Below.refl _ _⟩
  case round=>
   exact zbbb
open zrqem in
theorem rl6 {m:Nat}(hT:WalkC m)(a:Ad)(hm:a.cnt≤m+1)(I:Nat→Prop)(nb mb ob fb:Nat)(A pre post:List Nat)(L:List Us)(v:Value)(ps:List (Value × Sc))(st:Bool)(w:World)
  (hA:A=pre++(a.ads++post)) (hW:RgW I nb mb ob fb A L w) (ha:AAt I w a) (hi:a.tr.ill=0) (hws:WS a.tr) (hR:RR I w v ps) (hp0:0<ps.length) (hpl:ps.length+a.cnt≤20000) (hL:L.length+a.cnt≤20000)
  (h6:a.kd=6) :
  Calls Tryz.prog 70 #[nPtr a.p,v,.bool st,sPtr nb,sPtr ob,sPtr fb] w fun e w'=>e=.returned (.tuple #[])∧RgW I nb mb ob fb A (L++tls (rl m) a.tr.kids (pre.length+1) (⟨pre.length,(namesT a.tr false),false⟩::(ps.map Prod.snd).reverse) st) w'∧Fm I w w':=by
 obtain⟨_,hap,c0,c1,kv,c3,hrow⟩:=ha.cells
 obtain⟨ka,kc,hkv⟩:=row_shut hrow.1
 rw[List.length_map] at hkv
 subst hkv
 rw[h6] at c0
 exact zrp
open zrqen in
theorem rl9 {m:Nat}(hT:WalkC m)(a x y:Ad)(hks:a.ks=[x,y])(hm:a.cnt≤m+1)(I:Nat→Prop)(nb mb ob fb:Nat)(A pre post:List Nat)(L:List Us)(v:Value)(ps:List (Value × Sc))(st:Bool)(w:World)
  (hA:A=pre++(a.ads++post)) (hW:RgW I nb mb ob fb A L w) (ha:AAt I w a) (hi:a.tr.ill=0) (hws:WS a.tr) (hR:RR I w v ps) (hp0:0<ps.length) (hpl:ps.length+a.cnt≤20000) (hL:L.length+a.cnt≤20000)
  (h9:a.kd=9) :
  Calls Tryz.prog 70 #[nPtr a.p,v,.bool st,sPtr nb,sPtr ob,sPtr fb] w fun e w'=>e=.returned (.tuple #[])∧RgW I nb mb ob fb A (L++(rl m x.tr (pre.length+1) ((ps.map Prod.snd).reverse) st++rl m y.tr (pre.length+1+x.tr.count) (⟨0,[],true⟩::(ps.map Prod.snd).reverse) st)) w'∧Fm I w w':=by
 obtain⟨_,hap,c0,_⟩:=ha.cells
 rw[h9] at c0
 obtain⟨g2,cap2,c3,hgl2,e0,e1,hig⟩:=ha.two hks
 have hx:=ha.parts x (by rw[hks];simp)
 have hy:=ha.parts y (by rw[hks];simp)
 have c3':w.cell? ⟨a.p,3,none⟩=some (.slice (some ⟨g2,0,none⟩) 2 cap2):=c3
 clear c3
 have hcnt:=cnt_eq a
 rw[hks,Ad.cnts,Ad.cnts,Ad.cnts] at hcnt
 obtain⟨g,cap,hvf,_,_⟩:=hR.1.form hp0
 subst hvf
 have hA0:A=(pre++[a.p])++(x.ads++(y.ads++post)):=by rw[hA,ads_eq a,hks,Ad.adss,Ad.adss,Ad.adss];simp
 have hA1:A=(pre++[a.p]++x.ads)++(y.ads++post):=by rw[hA0];simp
 have hpx:(pre++[a.p]).length=pre.length+1:=by simp
 have hpy:(pre++[a.p]++x.ads).length=pre.length+1+x.tr.count:=by rw[List.length_append,hpx,Ad.ads_len,Ad.cnt_tr]
 have hix:=ill_parts hi x (by rw[hks];simp)
 have hiy:=ill_parts hi y (by rw[hks];simp)
 have hwx:WS x.tr:=hws.part (by rw[hks];simp)
 have hwy:WS y.tr:=hws.part (by rw[hks];simp)
 have hlx:=rl_len m x.tr (pre.length+1) ((ps.map Prod.snd).reverse) st
 rw[x.cnt_tr] at hlx
 have HX:Hid (∀ (wd:World),Below w.heap.size w wd→Calls Tryz.prog 70 #[nPtr x.p,.slice (some ⟨g,0,none⟩) ps.length cap,.bool st,sPtr nb,sPtr ob,sPtr fb] wd fun e w'=>e=.returned (.tuple #[])∧RgW (fun b=>I b∨(w.heap.size≤b∧b<wd.heap.size)) nb mb ob fb A (L++rl m x.tr (pre.length+1) ((ps.map Prod.snd).reverse) st) w'∧Fm (fun b=>I b∨(w.heap.size≤b∧b<wd.heap.size)) wd w'):=fun wd hb=>by
  have h:=hT x (by omega) (fun b=>I b∨(w.heap.size≤b∧b<wd.heap.size)) nb mb ob fb A _ _ L (.slice (some ⟨g,0,none⟩) ps.length cap) ps st wd hA0 (hW.more hb) (AAt.mono (fun b hb _=>Or.inl hb) _ (AAt.later (fun b _ hl=>hb.block b hl) _ hx)) hix hwx ((hR.later (fun b _ hl=>hb.block b hl)).mono fun b hb=>Or.inl hb) hp0 (by omega) (by omega)
  rw[hpx] at h;exact h
 have HY:Hid (∀ (wd w2 w5:World) (v':Value),Below w.heap.size w wd→RgW (fun b=>I b∨(w.heap.size≤b∧b<wd.heap.size)) nb mb ob fb A (L++rl m x.tr (pre.length+1) ((ps.map Prod.snd).reverse) st) w2→Fm (fun b=>I b∨(w.heap.size≤b∧b<wd.heap.size)) wd w2→Below w2.heap.size w2 w5 →
   w5.ownsRow w2.heap.size 116 3 v' (ps.length+1) (rgCells ps++[.int .i64 0,.slice none 0 0,.bool true]) →
   Calls Tryz.prog 70 #[nPtr y.p,v',.bool st,sPtr nb,sPtr ob,sPtr fb] w5 fun e w'=>e=.returned (.tuple #[])∧RgW I nb mb ob fb A (L++(rl m x.tr (pre.length+1) ((ps.map Prod.snd).reverse) st++rl m y.tr (pre.length+1+x.tr.count) (⟨0,[],true⟩::(ps.map Prod.snd).reverse) st)) w'∧Fm I w w'):=fun wd w2 w5 v' hb hW2 hF2 hb5 hr5=>by
  obtain⟨J,hJ⟩:∃ J:Nat→Prop,J=fun b=>I b∨(w.heap.size≤b∧b<wd.heap.size):=⟨_,rfl⟩;rw[←hJ] at hW2 hF2;have hIJ:∀ b,I b→J b:=fun b hb=>by rw[hJ];exact Or.inl hb
  have hF1:Fm I w w2:=(Fm.of hb).trans (hF2.less hIJ);have hF5:Fm I w w5:=hF1.trans (Fm.of hb5);have hbw:=hb.size
  have h:=hT y (by omega) (fun b=>J b∨(w2.heap.size≤b∧b<w5.heap.size)) nb mb ob fb A _ _ _ v' (ps++[(.slice none 0 0,⟨0,[],true⟩)]) st w5 hA1 (hW2.more hb5) (AAt.mono (fun b hb _=>Or.inl (hIJ b hb)) _ (AAt.later hF5.stay _ hy)) hiy hwy
   (hR.push hF5.stay (fun b hb=>Or.inl (hIJ b hb)) (owns_low3 hr5 (Nat.zero_le _)) (fun g hg=>by have h1:=own_lt hr5 g hg;exact Or.inr ⟨h1.2,h1.1⟩) (srow_nil _ _) (fun g hg=>by cases hg) (by simp)) (by simp) (by simp;omega) (by rw[List.length_append];omega)
  rw[hpy] at h;refine h.mono ?_;rintro e w6 ⟨rfl,h1,h2⟩;refine⟨rfl,?_,hF5.trans (h2.less fun b hb=>Or.inl (hIJ b hb))⟩;have h3:=h1.less hW (fun b hb=>Or.inl (hIJ b hb));rw[List.append_assoc] at h3
  simpa using h3
 have HNI:Hid (I fb∧I a.p∧I g2):=⟨hW.inb.2.2,ha.cells.1,hig⟩
 have HRR:=hide hR
 have hfl:=lt_of_heap hW.wlk
 have cf:w.cell? ⟨fb,0,none⟩=some (wkV nb ob fb):=by rw[cell_of hW.wlk];rfl
 have hen:=en70
 have hpl2:ps.length≤20000:=by omega
 clear hR hW ha hi hws hT hA hA0 hA1 hpl hL hm hx hy hix hiy hwx hwy hlx hcnt hpx hpy
 generalize rl m x.tr (pre.length+1) ((ps.map Prod.snd).reverse) st=L1 at *
 generalize rl m y.tr (pre.length+1+x.tr.count) (⟨0,[],true⟩::(ps.map Prod.snd).reverse) st=L2 at *
 generalize a.p=p at *
 generalize x.p=px at *
 generalize y.p=py at *
 have HE0:=hide e0
 have HE1:=hide e1
 have HC3:=hide c3'
 have HCF:=hide cf
 clear e0 e1 c3' cf hks h9
 go_enter Tryz.func70,Tryz.ntmps70
 go_wp2_with fail
 exact zrdp
def kid0 (t:Tr):Tr:=match t.kids with|k::_=>k | []=>.mk 0 ByteArray.empty 0 []
theorem kid0_eq (t:Tr)(h:0<t.kids.length):kid0 t=t.kids[0]:=by
 unfold kid0
 split
 ·rename_i k ks e;simp[e]
 ·rename_i e;rw[e] at h;cases h
theorem rparams_any (t:Tr)(p:Nat)(w:World)(h:NTr w t p)(hk:1≤t.kids.length)(hc:t.count≤20000) :
  Calls Tryz.prog 56 #[nPtr p] w fun e w'=>(∃ u,e=.returned u∧SRow w.heap.size w' u (onceL ((kid0 t).kids.map Tr.tx)))∧Below w.heap.size w w':=by
 have htc:t.count=1+Tr.counts t.kids:=by cases t with|mk kd tx nn ks=>exact count_mk _ _ _ _
 have hkl:t.kids.length≤20000:=by have:=counts_len t.kids;omega
 have hp0:(kid0 t).kids.length≤20000:=by
  rw[kid0_eq t (by omega)];have h1:=counts_le t.kids 0 (by omega);have h2:(t.kids[0]).count=1+Tr.counts (t.kids[0]).kids:=by cases t.kids[0] with|mk kd tx nn ks=>exact count_mk _ _ _ _
  have:=counts_len (t.kids[0]).kids;omega
 obtain⟨hpl,_,_,u,c3,hr⟩:=h.cells
 obtain⟨g,cap,q,rfl,hg,hcq,hn⟩:=hr.cell 0 (by omega)
 rw[←kid0_eq t (by omega)] at hn
 obtain⟨hql,_,_,u2,d3,hr2⟩:=hn.cells
 obtain⟨a2,c2,rfl⟩:=hr2.form
 have HR:=hide hr2
 clear h hr hn hr2 htc hc
 generalize (kid0 t).kids=ps at HR d3 hp0
 generalize t.kids.length=L at c3 hk hkl
 have hL0:¬ L=0:=by omega
 go_enter Tryz.func56,Tryz.ntmps56
 go_wp2_with fail
 go_loopw [3,16] (fun o j wr=>∃ k:Nat,k≤ps.length∧j=.int .i64 k∧SRow w.heap.size wr o (onceL ((ps.take k).map Tr.tx))∧Below w.heap.size w wr) (fun _ j _=>ps.length - (intOf j).toNat)
 case atStart=>exact⟨0,Nat.zero_le _,rfl,srow_nil _ _,Below.refl _ _⟩
 case round=>
  obtain⟨k,hk2,rfl,hown,hbel⟩:=hrel;have HOWN:=hide hown;have HB:=hide hbel;obtain⟨oa,oc,rfl⟩:=srow_form hown;clear hown hbel c3 d3 hcq
  by_cases hlt:k<ps.length
  ·obtain⟨g2,cap2,q2,hv,hg2,hcc,hn⟩:=(HR.out.later HB.out).cell k hlt;simp only[Value.slice.injEq] at hv;obtain⟨rfl,_,rfl⟩:=hv;obtain⟨hql2,_,q1,_⟩:=hn.cells
   have hki:(k:Int)<(ps.length:Int):=by omega
   have hfl2:(onceL ((ps.take k).map Tr.tx)).length≤20000:=by
    have h1:=once_len ((ps.take k).map Tr.tx);rw[List.length_map,List.length_take] at h1;omega
   have HTK:Hid (onceL ((ps.take (k+1)).map Tr.tx)=addB (onceL ((ps.take k).map Tr.tx)) (ps[k]).tx):=by
    show _=_
    rw[List.take_succ_eq_append_getElem hlt,List.map_append,onceL,List.foldl_append];rfl
   have HC:=hide (radd_any (onceL ((ps.take k).map Tr.tx)) (ps[k]).tx _ wr HOWN.out (by omega) HB.out.size)
   generalize (ps[k]).tx=y at q1 HC HTK
   generalize onceL ((ps.take k).map Tr.tx)=M at HC HTK HOWN hfl2
   clear hn;go_wp2_with fail;refine cm HC.out ?_;rintro e w6 ⟨⟨u6,rfl,hr6⟩,hb6⟩;obtain⟨a6,c6,rfl⟩:=srow_form hr6;have HR6:=hide hr6;have HB6:=hide (HB.out.trans (hb6.mono HB.out.size));exact zccf
  ·have hii:k=ps.length:=by omega
   subst hii;go_wp2_with fail;go_ret;refine⟨⟨_,rfl,?_⟩,HB.out⟩;exact zcbo
theorem WS.func {a:Ad}(h:WS a.tr)(hk:isFunT a.tr=true):∃ x y,a.ks=[x,y]:=by
 obtain⟨Nm,c,h⟩:=h
 obtain⟨x,y,e,_⟩:=shp_fun h hk
 exact zbgd
section
variable {P:Program} {md:Region.Mode} {ops:Array Oper} {Q:Exit→Act→World→Prop} {S:World→Prop} {b:Nat}
theorem uz2 {n:Nat}{listed listed':Array Bool}{a a':Act}{w:World}(h:wpAnyU P md ops Q S b n listed' a' w)(h1:listed=listed':=by kernel_rfl)(h2:a=a':=by kernel_rfl):wpAnyU P md ops Q S b n listed a w:=by
 subst h1 h2
 exact h
end
theorem fn_end {m:Nat}(hT:WalkC m)(a x y:Ad)(hks:a.ks=[x,y])(hm:a.cnt≤m+1)(I:Nat→Prop)(nb mb ob fb:Nat)(A pre post:List Nat)(L:List Us)(ps:List (Value × Sc))(st:Bool)(w:World)
  (hA:A=pre++(a.ads++post)) (hW:RgW I nb mb ob fb A L w) (ha:AAt I w a) (hi:a.tr.ill=0) (hws:WS a.tr) (hpl:ps.length+a.cnt≤20000) (hL:L.length+a.cnt≤20000)
  (ka:Option Addr) (kc:Nat) (hrow:w.ownsRow 0 22 1 (.slice ka y.ks.length kc) (y.ks.map Ad.p).length ((y.ks.map Ad.p).map nPtr)) (hrj:∀ g,(Value.slice ka y.ks.length kc).ownBlock=some g→I g)
  (ps1:List (Value × Sc)) (v1:Value) (w1:World) (hR:RR (fun b=>I b∨(w.heap.size<b∧b<w1.heap.size)) w1 v1 ps1) (hl1:ps1.length≤ps.length+1)
  (hch:(ps1.map Prod.snd).reverse=if a.tr.kd==37 && !decide (a.tr.tx=noText) then ⟨pre.length,[a.tr.tx],false⟩::(ps.map Prod.snd).reverse else (ps.map Prod.snd).reverse)
  (N:List ByteArray) (hN:N=(onceL (x.tr.kids.map Tr.tx)++[tArguments])++namesT y.tr true) (hNl:N.length≤90000) (cb st2:Bool) (hcb:cb=evWs y.tr.kids) (hst2:st2=(st||decide (y.tr.tx=tStrict)))
  (wz:World) (v' nv:Value) (J:Nat→Prop) (hJ:J=(fun b=>I b∨(w.heap.size≤b∧b<wz.heap.size))) (hbz:Below w.heap.size w wz) (hsz:w1.heap.size≤wz.heap.size) (hwz:∀ b,b≠w.heap.size→b<w1.heap.size→wz.heap[b]? = w1.heap[b]?) (hbox:wz.heap[w.heap.size]? = some (.cells #[v'] 114 (0,0)))
  (hrz:wz.ownsRow w.heap.size 116 3 v' (ps1.length+1) (rgCells ps1++[.int .i64 (pre.length:Int),nv,.bool (cb && !st2)])) (hnz:SRow w.heap.size wz nv N) :
  KL m J nb mb ob fb w.heap.size A (pre++[a.p]++x.ads++[y.p]) post L v' (ps1++[(nv,⟨pre.length,N,cb && !st2⟩)]) y.ks ka kc wz ∧
   ∀ W,RgW J nb mb ob fb A (L++tls (rl m) (y.ks.map Ad.tr) (pre++[a.p]++x.ads++[y.p]).length (((ps1++[(nv,(⟨pre.length,N,cb && !st2⟩:Sc))]).map Prod.snd).reverse) st2) W→Fm J wz W →
    RgW I nb mb ob fb A (L++tls (rl m) y.tr.kids (pre.length+1+x.tr.count+1) (rfSc a.tr x.tr y.tr pre.length ((ps.map Prod.snd).reverse) st) (st||decide (y.tr.tx=tStrict))) W∧Fm I w W:=by
 have hIJ:∀ b,I b→J b:=fun b hb=>by rw[hJ];exact Or.inl hb
 have hst:Stay I w wz:=fun b _ hl=>hbz.block b hl
 have hst1:Stay (fun b=>I b∨(w.heap.size<b∧b<w1.heap.size)) w1 wz:=fun b hb hl=>by
  refine hwz b ?_ hl
  rcases hb with hb|hb
  ·have:=(hW.ne b hb).1;omega
  ·omega
 have hJ1:∀ b,(I b∨(w.heap.size<b∧b<w1.heap.size))→J b:=fun b hb=>by
  rw[hJ]
  rcases hb with hb|hb
  ·exact Or.inl hb
  ·exact Or.inr ⟨by omega,by omega⟩
 have hcnt:=cnt_eq a
 rw[hks,Ad.cnts,Ad.cnts,Ad.cnts] at hcnt
 have hcy:=cnt_eq y
 have hcx:=cnt_pos x
 have hbl:=lt_of_heap hbox
 have hym:y ∈ a.ks:=by rw[hks];simp
 have hpn:(pre++[a.p]++x.ads++[y.p]).length=pre.length+1+x.tr.count+1:=by simp[Ad.ads_len,Ad.cnt_tr];omega
 refine⟨⟨hT,?_,by rw[hJ];exact hW.more hbz,⟨hbox,by rw[hJ];exact Or.inr ⟨Nat.le_refl _,hbl⟩⟩,
  hR.push hst1 hJ1 (owns_low3 hrz (Nat.zero_le _)) (fun g hg=>by have h1:=own_lt hrz g hg;rw[hJ];exact Or.inr ⟨h1.2,h1.1⟩) (srow_mono hnz (Nat.zero_le _)) (fun g hg=>by have h1:=own_lt hnz g hg;rw[hJ];exact Or.inr ⟨h1.2,h1.1⟩) hNl,
  fun k hk=>⟨by have h1:=cnts_mem3 hk;omega,AAt.mono (fun b hb _=>hIJ b hb) _ (AAt.later hst _ ((ha.parts y hym).parts k hk)),ill_parts (ill_parts hi y hym) k hk,(hws.part hym).part hk⟩,
  owns_stay hst hrj hrow,fun g hg=>hIJ g (hrj g hg),by simp,by simp;omega,by omega⟩,fun W h1 h2=>?_⟩
 ·rw[hA,ads_eq a,hks,Ad.adss,Ad.adss,Ad.adss,ads_eq y];simp
 ·refine⟨?_,(Fm.of hbz).trans (h2.less hIJ)⟩;have h3:=h1.less hW hIJ;rw[hpn] at h3
  have e1:((ps1++[(nv,(⟨pre.length,N,cb && !st2⟩:Sc))]).map Prod.snd).reverse=rfSc a.tr x.tr y.tr pre.length ((ps.map Prod.snd).reverse) st:=by
   rw[List.map_append,List.reverse_append,hch,hN,hcb,hst2];rfl
  rw[e1,hst2] at h3;rw[y.tr_eq.2.2];exact h3
section
variable (w:World) (p tb:Nat) (oa:Option Addr) (st sb:Bool)
include w p tb oa st sb
open zrqec in
theorem tlD (kd:Int)(ka:Option Addr)(kn kc:Nat)(Q:World→Prop)(c0:w.cell? ⟨p,0,none⟩=some (.int .i64 kd))(c3:w.cell? ⟨p,3,none⟩=some (.slice ka kn kc))(n23:(kd==23)=false)(n1:(kd==1)=false)(n6:(kd==6)=false)(n13:(kd==13)=false)(n9:(kd==9)=false)(n5:(kd==5)=false)(n37:(kd==37)=false)(n40:(kd==40)=false)(hst:∀ X,Below w.heap.size w X→Calls Tryz.prog 118 #[nPtr p] X fun e w'=>e=.returned (.bool sb)∧w'=X)(hta:∀ X,Below w.heap.size w X→Calls Tryz.prog 127 #[sPtr tb,.slice ka kn kc,plV2 (.pointer oa) (st||sb)] X fun e w'=>e=.returned (.tuple #[])∧Q w') :
  Calls Tryz.prog 68 #[sPtr tb,nPtr p,plV2 (.pointer oa) st] w fun e w'=>e=.returned (.tuple #[])∧Q w':=by
 have hpl:=cell_lt c0
 have HC3:=hide c3
 have HST:=hide hst
 have HTA:=hide hta
 clear hst hta
 cases st with
 | true=>
  rw[Bool.true_or] at HTA;exact zrx
 | false=>
  rw[Bool.false_or] at HTA;exact zrm
open zrqed in
theorem tl40 (Q:World→Prop)(c0:w.cell? ⟨p,0,none⟩=some (.int .i64 40))(hst:∀ X,Below w.heap.size w X→Calls Tryz.prog 118 #[nPtr p] X fun e w'=>e=.returned (.bool sb)∧w'=X)(hq:∀ X,Below w.heap.size w X→Q X) :
  Calls Tryz.prog 68 #[sPtr tb,nPtr p,plV2 (.pointer oa) st] w fun e w'=>e=.returned (.tuple #[])∧Q w':=by
 have hpl:=cell_lt c0
 have HST:=hide hst
 have HQ:=hide hq
 clear hst hq
 cases st with
 | true=>
  exact zrx
 | false=>
  exact zrm
end
open zrqee in
theorem tl6 (w:World)(p tb mb no:Nat)(oa:Option Addr)(st sb:Bool)(ka:Option Addr)(kn kc:Nat)(N:List ByteArray)(Q:World→Prop)(c0:w.cell? ⟨p,0,none⟩=some (.int .i64 6))(c3:w.cell? ⟨p,3,none⟩=some (.slice ka kn kc))
  (t0:w.cell? ⟨tb,0,none⟩=some (.map (some mb))) (hnum:∀ X,Below w.heap.size w X→(Instr.lookup 44 (.map (some mb)) (nPtr p) false).run Tryz.prog X=.ok (.int .i64 (no:Int)) X)
  (hnm:∀ X,Below w.heap.size w X→Calls Tryz.prog 113 #[nPtr p,.bool false] X fun e w'=>(∃ u,e=.returned u∧SRow X.heap.size w' u N)∧Below X.heap.size X w')
  (hst:∀ X,Below w.heap.size w X→Calls Tryz.prog 118 #[nPtr p] X fun e w'=>e=.returned (.bool sb)∧w'=X)
  (hta:∀ X b nv,Below w.heap.size w X→w.heap.size≤b→X.heap[b]? = some (scObj no nv false (.pointer oa))→SRow w.heap.size X nv N→Calls Tryz.prog 127 #[sPtr tb,.slice ka kn kc,plV2 (sPtr b) (st||sb)] X fun e w'=>e=.returned (.tuple #[])∧Q w') :
  Calls Tryz.prog 68 #[sPtr tb,nPtr p,plV2 (.pointer oa) st] w fun e w'=>e=.returned (.tuple #[])∧Q w':=by
 have hpl:=cell_lt c0
 have HC3:=hide c3
 have HST:=hide hst
 have HTA:=hide hta
 have HNUM:=hide hnum
 have HT0:=hide t0
 have htl:=cell_lt t0
 have HNM:=hide hnm
 clear hst hta hnum t0 hnm
 exact zeaf
open zrqef in
theorem tl1 (w:World)(p tb mb no:Nat)(oa:Option Addr)(st sb:Bool)(ka:Option Addr)(kn kc:Nat)(N:List ByteArray)(Q:World→Prop)(c0:w.cell? ⟨p,0,none⟩=some (.int .i64 1))(c3:w.cell? ⟨p,3,none⟩=some (.slice ka kn kc))
  (t0:w.cell? ⟨tb,0,none⟩=some (.map (some mb))) (hnum:∀ X,Below w.heap.size w X→(Instr.lookup 44 (.map (some mb)) (nPtr p) false).run Tryz.prog X=.ok (.int .i64 (no:Int)) X)
  (hls:∀ X,Below w.heap.size w X→Calls Tryz.prog 126 #[nPtr p] X fun e w'=>(∃ u,e=.returned u∧Calls Tryz.prog 125 #[u] w' fun e w2=>(∃ u,e=.returned u∧SRow w'.heap.size w2 u N)∧Below w'.heap.size w' w2)∧Below X.heap.size X w')
  (hst:∀ X,Below w.heap.size w X→Calls Tryz.prog 118 #[nPtr p] X fun e w'=>e=.returned (.bool sb)∧w'=X)
  (hta:∀ X b nv,Below w.heap.size w X→w.heap.size≤b→X.heap[b]? = some (scObj no nv false (.pointer oa))→SRow w.heap.size X nv N→Calls Tryz.prog 127 #[sPtr tb,.slice ka kn kc,plV2 (sPtr b) (st||sb)] X fun e w'=>e=.returned (.tuple #[])∧Q w') :
  Calls Tryz.prog 68 #[sPtr tb,nPtr p,plV2 (.pointer oa) st] w fun e w'=>e=.returned (.tuple #[])∧Q w':=by
 have hpl:=cell_lt c0
 have HC3:=hide c3
 have HST:=hide hst
 have HTA:=hide hta
 have HNUM:=hide hnum
 have HT0:=hide t0
 have htl:=cell_lt t0
 have HLS:=hide hls
 clear hst hta hnum t0 hls
 exact zeaf
open zrqeg in
theorem tl13 (w:World)(p tb mb no:Nat)(oa:Option Addr)(st sb:Bool)(ka:Option Addr)(kn kc:Nat)(tx:ByteArray)(Q:World→Prop)(c0:w.cell? ⟨p,0,none⟩=some (.int .i64 13))(c3:w.cell? ⟨p,3,none⟩=some (.slice ka kn kc))
  (t0:w.cell? ⟨tb,0,none⟩=some (.map (some mb))) (hnum:∀ X,Below w.heap.size w X→(Instr.lookup 44 (.map (some mb)) (nPtr p) false).run Tryz.prog X=.ok (.int .i64 (no:Int)) X) (c1:w.cell? ⟨p,1,none⟩=some (.string tx))
  (hst:∀ X,Below w.heap.size w X→Calls Tryz.prog 118 #[nPtr p] X fun e w'=>e=.returned (.bool sb)∧w'=X)
  (hta:∀ X b nv,Below w.heap.size w X→w.heap.size≤b→X.heap[b]? = some (scObj no nv false (.pointer oa))→SRow w.heap.size X nv [tx]→Calls Tryz.prog 127 #[sPtr tb,.slice ka kn kc,plV2 (sPtr b) (st||sb)] X fun e w'=>e=.returned (.tuple #[])∧Q w') :
  Calls Tryz.prog 68 #[sPtr tb,nPtr p,plV2 (.pointer oa) st] w fun e w'=>e=.returned (.tuple #[])∧Q w':=by
 have hpl:=cell_lt c0
 have HC3:=hide c3
 have HST:=hide hst
 have HTA:=hide hta
 have HNUM:=hide hnum
 have HT0:=hide t0
 have htl:=cell_lt t0
 have HC1:=hide c1
 clear hst hta hnum t0 c1
 exact zeaf
open zrqeh in
theorem tl9 (w:World)(p tb q0 q1:Nat)(oa:Option Addr)(st sb:Bool)(g kn kc:Nat)(I:Nat→Prop)(Q1 Q:World→Prop)(c0:w.cell? ⟨p,0,none⟩=some (.int .i64 9))(c3:w.cell? ⟨p,3,none⟩=some (.slice (some ⟨g,0,none⟩) kn kc))(d0:w.cell? ⟨g,0,none⟩=some (nPtr q0))(d1:w.cell? ⟨g,1,none⟩=some (nPtr q1))(hkn:2≤kn)(hIp:I p)(hIg:I g)
  (hst:∀ X,Below w.heap.size w X→Calls Tryz.prog 118 #[nPtr p] X fun e w'=>e=.returned (.bool sb)∧w'=X)
  (ht1:∀ X,Below w.heap.size w X→Calls Tryz.prog 68 #[sPtr tb,nPtr q0,plV2 (.pointer oa) (st||sb)] X fun e w'=>e=.returned (.tuple #[])∧Fm (fun b=>I b∨(w.heap.size≤b∧b<X.heap.size)) X w'∧Q1 w')
  (hta:∀ X Y b,Q1 X→Below X.heap.size X Y→X.heap.size≤b→Y.heap[b]? = some (scObj 0 (.slice none 0 0) true (.pointer oa))→Calls Tryz.prog 68 #[sPtr tb,nPtr q1,plV2 (sPtr b) (st||sb)] Y fun e w'=>e=.returned (.tuple #[])∧Q w') :
  Calls Tryz.prog 68 #[sPtr tb,nPtr p,plV2 (.pointer oa) st] w fun e w'=>e=.returned (.tuple #[])∧Q w':=by
 have hpl:=cell_lt c0
 have hgl:=cell_lt d0
 have hn0:¬ kn=0:=by omega
 have hn1:¬ (kn:Int)≤1:=by omega
 have HC3:=hide c3
 have HD0:=hide d0
 have HD1:=hide d1
 have HIP:=hide hIp
 have HIG:=hide hIg
 have HST:=hide hst
 have HT1:=hide ht1
 have HTA:=hide hta
 clear hst hta ht1 c3 d0 d1 hkn hIp hIg
 cases st with
 | true=>
  rw[Bool.true_or] at HTA HT1;exact zrt
 | false=>
  rw[Bool.false_or] at HTA HT1;exact zrl
theorem tlF (w:World)(p tb q1:Nat)(oa:Option Addr)(st sb s2:Bool)(g kn kc:Nat)(kd:Int)(ba:Option Addr)(bn bc:Nat)(R:World→World→Value→Prop)(Q:World→Prop)(c0:w.cell? ⟨p,0,none⟩=some (.int .i64 kd))(c3:w.cell? ⟨p,3,none⟩=some (.slice (some ⟨g,0,none⟩) kn kc))(d1:w.cell? ⟨g,1,none⟩=some (nPtr q1))(f3:w.cell? ⟨q1,3,none⟩=some (.slice ba bn bc))(hkn:2≤kn)(hkd:kd=5∨kd=37)
  (hst:∀ X,Below w.heap.size w X→Calls Tryz.prog 118 #[nPtr p] X fun e w'=>e=.returned (.bool sb)∧w'=X)
  (hfn:∀ X,Below w.heap.size w X→Calls Tryz.prog 128 #[sPtr tb,nPtr p,plV2 (.pointer oa) (st||sb)] X fun e w'=>(∃ v',e=.returned (plV2 v' s2)∧R X w' v')∧Below X.heap.size X w')
  (hta:∀ X Y v',Below w.heap.size w X→R X Y v'→Below X.heap.size X Y→Calls Tryz.prog 127 #[sPtr tb,.slice ba bn bc,plV2 v' s2] Y fun e w'=>e=.returned (.tuple #[])∧Q w') :
  Calls Tryz.prog 68 #[sPtr tb,nPtr p,plV2 (.pointer oa) st] w fun e w'=>e=.returned (.tuple #[])∧Q w':=by
 have hpl:=cell_lt c0
 have hgl:=cell_lt d1
 have hql:=cell_lt f3
 have hn0:¬ kn=0:=by omega
 have hn1:¬ (kn:Int)≤1:=by omega
 have HC3:=hide c3
 have HD1:=hide d1
 have HF3:=hide f3
 have HST:=hide hst
 have HFN:=hide hfn
 have HTA:=hide hta
 clear hst hta hfn c3 d1 f3 hkn
 rcases hkd with rfl|rfl
 all_goals
  cases st with
  | true=>
   rw[Bool.true_or] at HFN;have hbA:Below w.heap.size w (w.alloc (.cells #[.pointer oa,.bool true] 112)):=(Below.refl _ _).alloc (Nat.le_refl _) _
   obtain⟨w2,hw2⟩:∃ w2,w2=w.alloc (.cells #[.pointer oa,.bool true] 112):=⟨_,rfl⟩;have HB2:Hid (Below w.heap.size w w2):=by show Below _ _ _;rw[hw2];exact(Below.refl _ _).alloc (Nat.le_refl _) _
   have HP2:Hid (w2.heap[w.heap.size]? = some (.cells #[.pointer oa,.bool true] 112 (0,0))):=by show _=_;rw[hw2];exact heap_new _ _
   have HW2:=hide hw2;clear hw2;go_enter Tryz.func68,Tryz.ntmps68;go_wp2_with fail;rw[←HW2.out];have HX0:Hid (w2.cell? ⟨w.heap.size,0,none⟩=some (.pointer oa)):=by show _=_;rw[cell_of HP2.out];rfl
   have HX1:Hid (w2.cell? ⟨w.heap.size,1,none⟩=some (.bool true)):=by show _=_;rw[cell_of HP2.out];rfl
   have HK3:=hide (keepC HB2.out HC3.out);have HE1:=hide (keepC HB2.out HD1.out);have HG3:=hide (keepC HB2.out HF3.out);obtain⟨wd,hwd⟩:∃ wd,wd=w2.drew:=⟨_,rfl⟩
   have hS0:Below w2.heap.size w2 wd:=by rw[hwd];exact(Below.refl _ _).drew
   refine wp_region_U 14 (fun X=>Below w2.heap.size w2 X) (by kernel_rfl) ?_;rw[←hwd];clear hwd;refine uh 0 (sPtr tb) hS0 ?_;refine uh 1 (nPtr p) hS0 ?_;refine uh 2 (nPtr p) hS0 ?_
   refine uh 3 (.pointer (some ⟨p,3,none⟩)) hS0 ?_;refine uc 4 (.slice (some ⟨g,0,none⟩) kn kc) rfl (Or.inl ⟨by kernel_rfl,fun X hX=>by have h0:=keepC hX HK3.out;go_simp⟩) hS0 ?_
   refine uh 5 (.pointer (some ⟨g,1,none⟩)) hS0 ?_;refine uc 6 (nPtr q1) rfl (Or.inl ⟨by kernel_rfl,fun X hX=>by have h0:=keepC hX HE1.out;go_simp⟩) hS0 ?_
   refine uh 7 (nPtr q1) hS0 ?_;refine uh 8 (.pointer (some ⟨q1,3,none⟩)) hS0 ?_;refine uc 9 (.slice ba bn bc) rfl (Or.inl ⟨by kernel_rfl,fun X hX=>by have h0:=keepC hX HG3.out;go_simp⟩) hS0 ?_
   refine uh 10 (sPtr tb) hS0 ?_;refine uh 11 (nPtr p) hS0 ?_;refine uc 12 (plV2 (.pointer oa) true) rfl (Or.inl ⟨by kernel_rfl,fun X hX=>by have h0:=keepC hX HX0.out;have h1:=keepC hX HX1.out;go_simp⟩) hS0 ?_
   refine uq1 13 fun K hK=>?_;go_simp;refine cm (unhide HFN _ (HB2.out.trans (hS0.mono HB2.out.size))) ?_;rintro e w6 ⟨⟨v6,rfl,hr6⟩,hb6⟩;have hS6:Below w2.heap.size w2 w6:=hS0.trans (hb6.mono hS0.size)
   refine hK.out _ _ (fun _=>hS6) ?_;clear hK K;refine uq1 14 fun K hK=>?_;go_simp;refine cm (unhide HTA wd w6 v6 (HB2.out.trans (hS0.mono HB2.out.size)) hr6 hb6) ?_;rintro e w9 ⟨rfl,hq9⟩
   refine hK.out _ _ (fun e=>by cases e) ?_;clear hK K;refine udone (by kernel_rfl) ?_ _;have HQ9:=hide hq9;clear hq9 hS0 hS6 hr6 hb6;go_simp;go_wp2_with fail
   exact bodyPost_ret (v:=.tuple #[]) (by simp[results,Tryz.results68,go_sem]) rfl ⟨rfl,HQ9.out⟩
  | false=>
   rw[Bool.false_or] at HFN;have hbA:Below w.heap.size w (w.alloc (.cells #[.pointer oa,.bool false] 112)):=(Below.refl _ _).alloc (Nat.le_refl _) _
   obtain⟨w2,hw2⟩:∃ w2,w2=w.alloc (.cells #[.pointer oa,.bool sb] 112):=⟨_,rfl⟩;have HB2:Hid (Below w.heap.size w w2):=by show Below _ _ _;rw[hw2];exact(Below.refl _ _).alloc (Nat.le_refl _) _
   have HP2:Hid (w2.heap[w.heap.size]? = some (.cells #[.pointer oa,.bool sb] 112 (0,0))):=by show _=_;rw[hw2];exact heap_new _ _
   have HW2:=hide hw2;clear hw2;go_enter Tryz.func68,Tryz.ntmps68;go_wp2_with fail;refine cm (unhide HST _ hbA) ?_;rintro e wx ⟨rfl,hwx⟩;rw[hwx];clear hwx wx;go_wp2_with fail;rw[←HW2.out]
   have HX0:Hid (w2.cell? ⟨w.heap.size,0,none⟩=some (.pointer oa)):=by show _=_;rw[cell_of HP2.out];rfl
   have HX1:Hid (w2.cell? ⟨w.heap.size,1,none⟩=some (.bool sb)):=by show _=_;rw[cell_of HP2.out];rfl
   have HK3:=hide (keepC HB2.out HC3.out);have HE1:=hide (keepC HB2.out HD1.out);have HG3:=hide (keepC HB2.out HF3.out);obtain⟨wd,hwd⟩:∃ wd,wd=w2.drew:=⟨_,rfl⟩
   have hS0:Below w2.heap.size w2 wd:=by rw[hwd];exact(Below.refl _ _).drew
   refine wp_region_U 14 (fun X=>Below w2.heap.size w2 X) (by kernel_rfl) ?_;rw[←hwd];clear hwd;refine uh 0 (sPtr tb) hS0 ?_;refine uh 1 (nPtr p) hS0 ?_;refine uh 2 (nPtr p) hS0 ?_
   refine uh 3 (.pointer (some ⟨p,3,none⟩)) hS0 ?_;refine uc 4 (.slice (some ⟨g,0,none⟩) kn kc) rfl (Or.inl ⟨by kernel_rfl,fun X hX=>by have h0:=keepC hX HK3.out;go_simp⟩) hS0 ?_
   refine uh 5 (.pointer (some ⟨g,1,none⟩)) hS0 ?_;refine uc 6 (nPtr q1) rfl (Or.inl ⟨by kernel_rfl,fun X hX=>by have h0:=keepC hX HE1.out;go_simp⟩) hS0 ?_
   refine uh 7 (nPtr q1) hS0 ?_;refine uh 8 (.pointer (some ⟨q1,3,none⟩)) hS0 ?_;refine uc 9 (.slice ba bn bc) rfl (Or.inl ⟨by kernel_rfl,fun X hX=>by have h0:=keepC hX HG3.out;go_simp⟩) hS0 ?_
   refine uh 10 (sPtr tb) hS0 ?_;refine uh 11 (nPtr p) hS0 ?_;refine uc 12 (plV2 (.pointer oa) sb) rfl (Or.inl ⟨by kernel_rfl,fun X hX=>by have h0:=keepC hX HX0.out;have h1:=keepC hX HX1.out;go_simp⟩) hS0 ?_
   refine uq1 13 fun K hK=>?_;go_simp;refine cm (unhide HFN _ (HB2.out.trans (hS0.mono HB2.out.size))) ?_;rintro e w6 ⟨⟨v6,rfl,hr6⟩,hb6⟩;have hS6:Below w2.heap.size w2 w6:=hS0.trans (hb6.mono hS0.size)
   refine hK.out _ _ (fun _=>hS6) ?_;clear hK K;refine uq1 14 fun K hK=>?_;go_simp;refine cm (unhide HTA wd w6 v6 (HB2.out.trans (hS0.mono HB2.out.size)) hr6 hb6) ?_;rintro e w9 ⟨rfl,hq9⟩
   refine hK.out _ _ (fun e=>by cases e) ?_;clear hK K;refine udone (by kernel_rfl) ?_ _;have HQ9:=hide hq9;clear hq9 hS0 hS6 hr6 hb6;go_simp;go_wp2_with fail
   exact bodyPost_ret (v:=.tuple #[]) (by simp[results,Tryz.results68,go_sem]) rfl ⟨rfl,HQ9.out⟩
end Go.Proofs.YtoimgcjbcbhclaaGreatDoor
