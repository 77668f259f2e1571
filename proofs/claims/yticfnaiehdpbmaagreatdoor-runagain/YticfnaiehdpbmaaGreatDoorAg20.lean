import Derived.Test.YticfnaiehdpbmaaGreatDoorAg18
set_option maxRecDepth 100000
set_option maxHeartbeats 8000000
set_option linter.unusedVariables false
namespace Go.Proofs.YticfnaiehdpbmaaGreatDoor
open Go.RowKit Go.Proofs.Tryz
theorem cell_lt {w:Ny}{b o:Nat}{v:NP}(h:w.cell? (Nv b o)=some v):b<w.heap.size:=by
 rcases Nat.lt_or_ge b w.heap.size with h1|h1
 ·exact h1
 ·have O:w.heap[b]? = none:=Array.getElem?_eq_none h1;simp[World.cell?,O] at h
theorem Oj {w X:Ny}{b o:Nat}{v:NP}(D:NJ w X)(h:w.cell? (Nv b o)=some v):X.cell? (Nv b o)=some v:=
 (World.cell?_of_block (w:=w) (a:=(Nv b o)) (D.block b (cell_lt h))).trans h
abbrev TK:NR:=⟨#[101,118,97,108]⟩
abbrev tArgs:NR:=⟨#[97,114,103,117,109,101,110,116,115]⟩
def Ub:Option Int->NP
 | none=>.nilIface
 | some e=>.iface 34 (Nr e)
abbrev WL (s i b:Bool):NP:=.agg #[NI s,NI i,NI b]
def isSp (x:NR):Bool:=decide (x=TK)||decide (x=tArgs)
def nmE (s:Bool)(x:NR):Option Int:=if s&&isSp x then some 5 else none
def Ou (t:Tr):Bool:=(t.kd==1||t.kd==6)&&decide (t.tx=UF)
theorem Uc (s i b:Bool)(x:NR)(w:Ny):NK 192 #[ND x,WL s i b] w fun e w'=>e=NU (Ub (nmE s x))/\NJ w w':=by
 unfold nmE isSp;have bM:=((Below.refl w.heap.size w).alloc OH (.cells #[NI s,NI i,NI b] 112))
 cases s with
 | false=>
  exact ao2
 | true=>
  by_cases h1:x=TK
  ·have av:=UW (b:=TK) rfl h1;rw[decide_eq_true h1];clear h1;exact ao2
  ·have av:=Uw (b:=TK) rfl h1;rw[decide_eq_false h1];clear h1
   by_cases O:x=tArgs
   ·have bC:=UW (b:=tArgs) rfl O;rw[decide_eq_true O];clear O;exact ao2
   ·have bC:=Uw (b:=tArgs) rfl O;rw[decide_eq_false O];clear O;exact ao2
section
variable (t:Tr) (p:Nat) (w:Ny) (h:SC w t p)
include t p w h
theorem Uh:NK 58 #[Nu p] w fun e w'=>e=NU (NI (Ou t))/\w'=w:=by
 obtain⟨eY,c0,c1,_⟩:=h.cells;clear h;unfold Ou
 generalize t.kd=kd at c0
 generalize t.tx=tx at c1
 by_cases O:tx=UF
 ·have bC:=UW (b:=UF) rfl O;rw[decide_eq_true O];exact aw3
 ·have bC:=Uw (b:=UF) rfl O;rw[decide_eq_false O];exact aw3
theorem agM:NK 102 #[Nu p] w fun e w'=>e=NU (NI (Qq t))/\w'=w:=by
 obtain⟨eY,c0,_,_⟩:=h.cells;clear h;unfold Qq
 generalize t.kd=kd at c0
 cases ax:(kd==5)
 all_goals
  go_enter func102,ntmps102;go_wp2_with fail;go_ret;exact⟨rfl,rfl⟩
end
def Ph (t:Tr)(k:Nat):Tr:=t.kids.getD k t
theorem VW (t:Tr)(k:Nat)(h:k<t.kids.length):Ph t k=t.kids[k]:=by simp[Ph,List.getD,h]
section
variable (t:Tr) (p:Nat) (w:Ny) (h:SC w t p)
include t p w h
theorem aau (E:2<=t.kids.length)(hl:t.kids.length<=90000):NK 103 #[Nu p] w fun e w'=>(∃ q,e=NU (Nu q)/\SC w (Ph t 1) q)/\w'=w:=by
 obtain⟨eY,_,_,u,c3,U⟩:=h.cells;obtain⟨g,cap,q,rfl,hg,ai,aA⟩:=U.cell 1 Nw;rw[<-VW t 1 Nw] at aA;clear h
 generalize dz:t.kids.length=L at c3 E hl
 clear dz;go_enter func103,ntmps103;go_wp2_with fail;go_ret;exact⟨⟨q,rfl,aA⟩,rfl⟩
theorem Zw (E:1<=t.kids.length)(hl:t.kids.length<=90000):NK 249 #[Nu p] w fun e w'=>(∃ u,e=NU u/\Rn 0 w u (Ph t 0).kids)/\w'=w:=by
 obtain⟨eY,_,_,u,c3,U⟩:=h.cells;obtain⟨g,cap,q,rfl,hg,ai,aA⟩:=U.cell 0 Nw;rw[<-VW t 0 Nw] at aA;obtain⟨dL,_,_,gR,jG,hr2⟩:=aA.cells;obtain⟨a2,c2,rfl⟩:=hr2.form;clear h
 generalize dz:t.kids.length=L at c3 E hl
 clear dz;go_enter func249,ntmps249;go_wp2_with fail;go_ret;exact⟨⟨_,rfl,hr2⟩,rfl⟩
end
def Vw (t:Tr):Bool:=t.kd==3||t.kd==4||t.kd==5
theorem aw4:UE 251:=fun _ _=>by kernel_rfl
theorem arH:UE 244:=fun _ _=>by kernel_rfl
theorem aw5:UE 245:=fun _ _=>by kernel_rfl
theorem as5:UE 250:=fun _ _=>by kernel_rfl
theorem aeK (t:Tr)(p:Nat)(w:Ny)(h:SC w t p):NK 251 #[Nu p] w fun e w'=>e=NU (NI (Vw t))/\NJ w w':=by
 obtain⟨eY,c0,_,_⟩:=h.cells;clear h;unfold Vw
 generalize t.kd=kd at c0
 cases ax:(kd==3) <;> cases aU:(kd==4) <;>
 ·go_enter func251,ntmps251;go_wp2_with fail;go_ret;exact⟨rfl,P8⟩
theorem aav (t:Tr)(p b:Nat)(l:List NR)(va:Option Addr)(dv:Nat)(w:Ny){B:Nat}(h:SC w t p)(D:w.cell? (Nv b 0)=some (.slice va l.length dv))(U:Qu B w (.slice va l.length dv) l)(hl:l.length<=90000) :
  NK 244 #[Nu p,NM b 0] w fun e w'=>e=NU (NI (hasB l t.tx))/\NJ w w':=by
 obtain⟨eY,_,c1,_⟩:=h.cells;have ah:=(UG l t.tx _ w.drew U Nw);clear h
 generalize t.tx=tx at c1 ah
 have ja:=cell_lt D;go_enter func244,ntmps244;go_wp2_with fail;refine wp_region_held (S:=fun X=>X=w.drew) OJ ?_;change wpAnyH _ _ _ _ _ _ _ _ (World.drew _);refine wh 0 (.slice va l.length dv) rfl ?_ (hy:=Or.inl ⟨by kernel_rfl,fun X aj=>by cases aj;go_simp⟩)
 refine wh 1 (Nu p) rfl ?_;refine wh 2 (Nu p) rfl ?_;refine wh 3 (NM p 1) rfl ?_;refine wh 4 (ND tx) rfl ?_ (hy:=Or.inl ⟨by kernel_rfl,fun X aj=>by cases aj;go_simp⟩)
 refine WG 5 fun K A=>?_;go_simp;refine cm ah ?_;rintro e w2 ⟨rfl,rfl⟩;refine A.out _ _ rfl (fun _=>?_);clear A K;refine wh 6 (NI (hasB l tx)) rfl ?_;refine wpAnyH_done OJ ?_ _;go_simp;go_wp2_with fail;go_ret;exact⟨rfl,P8.drew⟩
theorem agN (t:Tr)(p b:Nat)(am:List Tr)(va:Option Addr)(dv:Nat)(w:Ny){B:Nat}(h:SC w t p)(D:w.cell? (Nv b 0)=some (.slice va am.length dv))(U:Rn B w (.slice va am.length dv) am)(hl:am.length<=90000) :
  NK 245 #[Nu p,NM b 0] w fun e w'=>e=NU (NI (RQ am t.tx))/\NJ w w':=by
 obtain⟨eY,_,c1,_⟩:=h.cells;have ah:=(Xv am _ t.tx w.drew (U.later P8.drew) hl);clear h
 generalize t.tx=tx at c1 ah
 have ja:=cell_lt D;have ab:NJ w w.drew:=P8.drew;go_enter func245,ntmps245;go_wp2_with fail;refine wp_region_held (S:=fun X=>NJ w X) OJ ?_;change wpAnyH _ _ _ _ _ _ _ _ (World.drew _);refine wh 0 (.slice va am.length dv) ab ?_ (hy:=Or.inl ⟨by kernel_rfl,fun X aj=>by have hh:=Oj aj D;go_simp⟩)
 refine wh 1 (Nu p) ab ?_;refine wh 2 (Nu p) ab ?_;refine wh 3 (NM p 1) ab ?_;refine wh 4 (ND tx) ab ?_ (hy:=Or.inl ⟨by kernel_rfl,fun X aj=>by have hh:=Oj aj c1;go_simp⟩)
 refine WG 5 fun K A=>?_;go_simp;refine cm ah ?_;rintro e w2 ⟨rfl,aE⟩;have f5:NJ w w2:=ab.trans (aE.mono OH);refine A.out _ _ f5 (fun _=>?_);clear A K;refine wh 6 (NI (RQ am tx)) f5 ?_;refine wpAnyH_done OJ ?_ _;go_simp;go_wp2_with fail;go_ret;exact⟨rfl,f5⟩
theorem ajC (t f:Tr)(p b q:Nat)(w:Ny)(h:SC w t p)(D:w.cell? (Nv b 0)=some (Nu q))(aG:SC w f q)(E:1<=f.kids.length)(cJ:f.kids.length<=90000)(hl:(Ph f 0).kids.length<=90000) :
  NK 250 #[Nu p,NM b 0] w fun e w'=>e=NU (NI (RQ (Ph f 0).kids t.tx))/\NJ w w':=by
 obtain⟨eY,_,c1,_⟩:=h.cells;have ab:NJ w w.drew:=P8.drew;have HP:=(Zw f q w.drew (aG.later ab) E cJ);clear h
 generalize t.tx=tx at c1
 have ja:=cell_lt D;go_enter func250,ntmps250;go_wp2_with fail;refine wp_region_held (S:=fun X=>NJ w X) OJ ?_;change wpAnyH _ _ _ _ _ _ _ _ (World.drew _);refine wh 0 (Nu q) ab ?_ (hy:=Or.inl ⟨by kernel_rfl,fun X aj=>by have hh:=Oj aj D;go_simp⟩)
 refine wh 2 (Nu p) ab ?_;refine wh 3 (Nu p) ab ?_;refine wh 4 (NM p 1) ab ?_;refine wh 5 (ND tx) ab ?_ (hy:=Or.inl ⟨by kernel_rfl,fun X aj=>by have hh:=Oj aj c1;go_simp⟩)
 refine WG 1 fun K A=>?_;go_simp;refine cm HP ?_;rintro e w2 ⟨⟨u,rfl,U⟩,rfl⟩;obtain⟨va,dv,rfl⟩:=U.form;refine A.out _ _ ab (fun _=>?_);clear A K;have ah:=(Xv (Ph f 0).kids _ tx w.drew U hl);refine WG 6 fun K A=>?_;go_simp;refine cm ah ?_;rintro e ao ⟨rfl,bm⟩;have f5:NJ w ao:=ab.trans (bm.mono OH);refine A.out _ _ f5 (fun _=>?_);clear A K;refine wh 7 (NI (RQ (Ph f 0).kids tx)) f5 ?_;refine wpAnyH_done OJ ?_ _;go_simp;go_wp2_with fail;go_ret;exact⟨rfl,f5⟩
theorem TN.take {I:Nat->Prop}{w:Ny}:∀ (am:List Tr) (ps:List Nat),TN I w am ps->∀ k,TN I w (am.take k) (ps.take k)
 | [],ps,h,k=>by rw[TN] at h;subst h;simpa using TN.nil
 | t::am,ps,h,k=>by
  rw[TN] at h;obtain⟨p,eu,rfl,h1,O⟩:=h
  cases k with
  | zero=>simpa using TN.nil
  | succ k=>simpa using TN.cons h1 (TN.take am eu O k)
theorem Rn.take {B:Nat}{w:Ny}{g cap:Nat}{am:List Tr}(h:Rn B w (.slice (some (Nv g 0)) am.length cap) am)(k:Nat)(E:k<=am.length):Rn B w (.slice (some (Nv g 0)) k cap) (am.take k):=by
 obtain⟨ps,h1,O⟩:=h;have hl:=TN.length _ _ O;refine⟨ps.take k,?_,TN.take _ _ O k⟩;have ki:(ps.take k).length=k:=by rw[List.length_take];omega
 rw[ki];refine⟨by simp;omega,Or.inr ?_⟩
 rcases h1.2 with aA|⟨gX,cap',cl,ap,D,hg,ai,aV,aJ,ac⟩
 ·exact absurd aA.1 Oq
 ·simp only[Value.slice.injEq,Option.some.injEq,Addr.mk.injEq] at ap;obtain⟨⟨rfl,_,_⟩,_,rfl⟩:=ap;refine⟨g,cap,cl,rfl,D,hg,by omega,aV,aJ,?_⟩;have ax:=congrArg (List.take k) ac;rw[List.take_take,Nat.min_eq_left Nw] at ax;rw[Nat.mul_one,ax,<-List.map_take]
def abQ (l:List Tr)(i:Nat):NR:=(l.map Tr.tx).getD i NC
theorem ais (l:List Tr)(i:Nat)(h:i<l.length):abQ l i=(l[i]).tx:=by simp[abQ,List.getD,h]
def as6 (l:List Tr)(i:Nat):Bool:=RQ (l.take i) (abQ l i)
def ac2 (l:List Tr):Bool:=(List.range l.length).any (as6 l)
theorem Ym (am:List Tr)(v:NP)(w:Ny){B:Nat}(h:Rn B w v am)(hl:am.length<=90000) :
  NK 247 #[v] w fun e w'=>e=NU (NI (ac2 am))/\NJ w w':=by
 obtain⟨va,dv,rfl⟩:=h.form;have dk:=h;obtain⟨R,bY⟩:=xH (ac2 am);rw[<-bY.out];clear h;go_enter func247,ntmps247;go_wp2_with fail
 go_loopw [7] (fun i wr=>∃ k:Nat,k<=am.length/\i=Nr k/\(List.range k).any (as6 am)=false/\NJ w wr) (fun i _=>am.length - (intOf i).toNat)
 case atStart=>exact⟨0,Nat.zero_le _,rfl,rfl,P8⟩
 case round=>
  obtain⟨k,E,rfl,fo,D⟩:=hrel;have fJ:=hide fo;clear fo
  by_cases aQ:k<am.length
  ·have z:=kk (∀{G}(h:G:=by
   obtain⟨dL,_,c1,_⟩:=aA.cells;rw[<-ais am k aQ] at c1;obtain⟨tx,cD⟩:=xE (abQ am k);rw[<-cD] at c1;have ab:NJ wr wr.drew:=P8.drew;have ah:=(Xv (am.take k) _ tx wr.drew (((dk.later D).take k E).later ab) (by rw[List.length_take];omega))
   obtain⟨r,U⟩:=xE (RQ (am.take k) tx);rw[<-U] at ah;have nA:Hid (as6 am k=r):=by rw[U,cD];rfl
   clear aA cD U;have LR:(k:Int)<=(dv:Int):=by
    obtain⟨ps,aM,fo⟩:=id dk;have eY:=TN.length _ _ fo
    rcases aM.2 with aA|⟨gX,cap',cl,ap,_,_,sy,_⟩
    ·exact absurd aA.1 Oq
    ·simp only[Value.slice.injEq] at ap;omega
   have kZ:dv<=maxLen:=by
    obtain⟨ps,aM,fo⟩:=dk
    rcases aM.2 with aA|⟨gX,cap',cl,ap,_,_,sy,aV,_⟩
    ·exact absurd aA.1 Oq
    ·simp only[Value.slice.injEq] at ap;omega
   go_wp2_with fail;refine wp_region_held (S:=fun X=>NJ wr X) OJ ?_;change wpAnyH _ _ _ _ _ _ _ _ (World.drew _);refine wh 0 (.slice (some (Nv g 0)) am.length dv) ab ?_;refine wh 1 (Nr k) ab ?_;refine wh 3 (Nu q) ab ?_;refine wh 4 (Nu q) ab ?_;refine wh 5 (NM q 1) ab ?_;refine wh 6 (ND tx) ab ?_ (hy:=Or.inl ⟨by kernel_rfl,fun X aj=>by have hh:=Oj aj c1;go_simp⟩)
   refine wh 2 (.slice (some (Nv g 0)) k dv) ab ?_;refine WG 7 fun K A=>?_;go_simp;refine cm ah ?_;rintro e w2 ⟨rfl,aE⟩;have f5:NJ wr w2:=ab.trans (aE.mono OH);refine A.out _ _ f5 (fun _=>?_);clear A K;refine wpAnyH_done OJ ?_ _;go_simp;have cf:=(D.trans (f5.mono D.size))
   cases r with
   | true=>
    have zU:R=true:=by
     rw[bY.out,ac2,List.any_eq_true];exact⟨k,List.mem_range.2 aQ,nA.out⟩
    subst zU;go_wp2_with fail;go_ret;exact⟨rfl,cf⟩
   | false=>
    go_wp2_with fail
    go_roundw
    case rel=>
     refine⟨k+1,by omega,by go_num,?_,cf⟩;rw[List.range_succ,List.any_append,fJ.out];simp[nA.out]
    case measure=>simp[intOf];omega),G);exact aw6
  ·have cM:k=am.length:=Nw;subst cM;have H5:R=false:=by rw[bY.out];exact Ns fJ
   subst H5;go_wp2_with fail;go_ret;exact⟨rfl,D⟩
def brE (t:Tr)(s:Bool):Option Int:=if (t.kd==9&&s)||t.kids.any Vw then some 1 else none
theorem ZK (t:Tr)(p:Nat)(s i b:Bool)(w:Ny)(h:SC w t p)(hl:t.kids.length<=90000):NK 194 #[Nu p,WL s i b] w fun e w'=>e=NU (Ub (brE t s))/\NJ w w':=by
 obtain⟨ea,h8⟩:=xE (w.alloc (.cells #[NI s,NI i,NI b] 112));have cn:NJ w ea:=by rw[h8];exact OM
 obtain⟨eY,c0,_,u,c3,U⟩:=h.cells;obtain⟨va,dv,rfl⟩:=U.form;have ah:=(aas 251 Vw aw4 t.kids _ ea (U.later cn) hl (fun t _ p W _ aA=>aeK t p W aA));unfold brE;clear h
 generalize t.kids.any Vw=r at ah
 generalize t.kids.length=L at c3 ah
 generalize t.kd=kd at c0
 cases hq:(kd==9&&s) with
 | true=>
  have h1:(kd==9)=true:=by cases hh:(kd==9) <;> simp_all
  have O:s=true:=by cases s <;> simp_all
  subst O;clear hq;rw[h8] at cn;clear h8;go_enter func194,ntmps194;go_wp2_with fail;go_ret;exact⟨rfl,cn⟩
 | false=>
  cases h1:(kd==9) with
  | true=>
   have O:s=false:=by cases s <;> simp_all
   subst O;exact aw7
  | false=>
   exact aw7
theorem acj {B B':Nat}{w:Ny}{v:NP}{am:List Tr}(h:Rn B w v am)(aZ:B'<=B):Rn B' w v am:=by
 obtain⟨ps,h1,O⟩:=h;refine⟨ps,⟨h1.1,?_⟩,O⟩
 rcases h1.2 with aA|⟨g,cap,cl,ap,D,rest⟩
 ·exact Or.inl aA
 ·exact Or.inr ⟨g,cap,cl,ap,by omega,rest⟩
def scT (t:Tr):Bool:=ac2 (OC t)||(OC t).any (fun k=>RQ (RS t) k.tx)||(OC t).any (fun k=>hasB (O1 t) k.tx)
def scU (t:Tr):Bool:=ac2 (RS t)||(RS t).any (fun k=>hasB (O1 t) k.tx)
def scE (t:Tr)(body:Bool):Option Int:=if scT t||(!body&&scU t) then some 9 else none
structure aDJ (ei:Ny)(sd ty:Nat)(LV yi:NP)(bQ jZ a2 b5 a3:Bool):Prop where
 cF:ei.cell? (Nv ty 0)=some yi
 hr1:∀ W,NJ ei W->NK 247 #[LV] W fun e w'=>e=NU (NI bQ)/\NJ W w'
 ha1:∀ W,NJ ei W->NK 248 #[LV,.func (.func 245) #[] #[NM ty 0]] W fun e w'=>e=NU (NI jZ)/\NJ W w'
 ha2:∀ W,NJ ei W->NK 248 #[LV,.func (.func 244) #[] #[NM sd 0]] W fun e w'=>e=NU (NI a2)/\NJ W w'
 hr2:∀ W,NJ ei W->NK 247 #[yi] W fun e w'=>e=NU (NI b5)/\NJ W w'
 ha3:∀ W,NJ ei W->NK 248 #[yi,.func (.func 244) #[] #[NM sd 0]] W fun e w'=>e=NU (NI a3)/\NJ W w'
theorem aDK (t:Tr)(ei:Ny)(sd ty B:Nat)(va d0 la:Option Addr)(dv mf hu:Nat)(fV:Qu B ei (.slice va (O1 t).length dv) (O1 t))(ak:Rn B ei (.slice d0 (RS t).length mf) (RS t))(dz:Rn B ei (.slice la (OC t).length hu) (OC t))
  (vg:ei.cell? (Nv sd 0)=some (.slice va (O1 t).length dv)) (cF:ei.cell? (Nv ty 0)=some (.slice d0 (RS t).length mf)) (ap:(O1 t).length<=90000) (aG:(RS t).length<=90000) (hl:(OC t).length<=90000) :
  aDJ ei sd ty (.slice la (OC t).length hu) (.slice d0 (RS t).length mf) (ac2 (OC t)) ((OC t).any fun k=>RQ (RS t) k.tx) ((OC t).any fun k=>hasB (O1 t) k.tx) (ac2 (RS t)) ((RS t).any fun k=>hasB (O1 t) k.tx):=by
 refine⟨cF,fun W a6=>Ym _ _ W (dz.later a6) hl,fun W a6=>?_,fun W a6=>?_,fun W a6=>Ym _ _ W (ak.later a6) aG,fun W a6=>?_⟩
 ·exact UU 245 _ (fun k=>RQ (RS t) k.tx) aw5 (OC t) _ W (dz.later a6) hl (fun k _ p X aj aA=>agN k p ty (RS t) d0 mf X aA (Oj aj (Oj a6 cF)) ((ak.later a6).later aj) aG)
 ·exact UU 244 _ (fun k=>hasB (O1 t) k.tx) arH (OC t) _ W (dz.later a6) hl (fun k _ p X aj aA=>aav k p sd (O1 t) va dv X aA (Oj aj (Oj a6 vg)) (Qu.later (Qu.later fV a6) aj) ap)
 ·exact UU 244 _ (fun k=>hasB (O1 t) k.tx) arH (RS t) _ W (ak.later a6) aG (fun k _ p X aj aA=>aav k p sd (O1 t) va dv X aA (Oj aj (Oj a6 vg)) (Qu.later (Qu.later fV a6) aj) ap)
theorem WM (t:Tr)(p:Nat)(body:Bool)(w:Ny)(h:SC w t p)(ai:t.count<=20000):NK 190 #[Nu p,NI body] w fun e w'=>e=NU (Ub (scE t body))/\NJ w w':=by
 have z:=kk (∀{G}(h:G:=by
 have fG:=aae t;have il:=Ru t;have h7:=WO t;have xV:(O1 t).length<=20000:=Nw;have e1:=(Vx t p w h Nw);unfold scE scT scU;obtain⟨bQ,zD⟩:∃ r,r=ac2 (OC t):=⟨_,rfl⟩;obtain⟨jZ,zz⟩:∃ r,r=(OC t).any fun k=>RQ (RS t) k.tx:=⟨_,rfl⟩;obtain⟨a2,zA⟩:∃ r,r=(OC t).any fun k=>hasB (O1 t) k.tx:=⟨_,rfl⟩;obtain⟨b5,zE⟩:∃ r,r=ac2 (RS t):=⟨_,rfl⟩;obtain⟨a3,zB⟩:∃ r,r=(RS t).any fun k=>hasB (O1 t) k.tx:=⟨_,rfl⟩;rw[<-zD,<-zz,<-zA,<-zE,<-zB];have yH:=hide zD
 have jV:=hide zz;have yI:=hide zA;have Fs:=hide zE;have Ft:=hide zB;clear gL h7 ai zD zz zA zE zB;go_enter func190,ntmps190;go_wp2_with fail;refine cm e1 ?_;rintro e w1 ⟨⟨g4,rfl,hr1⟩,b4⟩;obtain⟨va,dv,rfl⟩:=N8 hr1;have hn:=(YZ t p w1 (h.later b4) Nw);go_wp2_with fail;refine cm hn ?_;rintro e w2 ⟨⟨gR,rfl,hr2⟩,aE⟩;obtain⟨d0,mf,rfl⟩:=hr2.form;have cf:=(b4.trans (aE.mono b4.size));have fa:=(Qu.later hr1 aE);have eB:=(aaw t p w2 (h.later cf) Nw);go_wp2_with fail;refine cm eB ?_
 rintro e ao ⟨⟨j7,rfl,iI⟩,bm⟩;obtain⟨la,hu,rfl⟩:=iI.form;have ef:=(cf.trans (bm.mono cf.size));have lG:=(Qu.later fa bm);have cV:=(hr2.later bm);go_wp2_with fail;obtain⟨ei,ip⟩:=xE ((ao.alloc (.cells #[.slice va (O1 t).length dv] 26)).alloc (.cells #[.slice d0 (RS t).length mf] 38));have hK:NJ ao ei:=by rw[ip];exact OM.alloc Oq _
 have Me:ei.heap.size=ao.heap.size+2:=by rw[ip];simp
 have vg:ei.cell? (Nv ao.heap.size 0)=some (.slice va (O1 t).length dv):=by
  have h1:ei.heap[ao.heap.size]? = some (Og #[.slice va (O1 t).length dv] 26):=by rw[ip,Below.heap_alloc _ _ _ Oq,NG]
  rw[cell_of h1];rfl
 have cF:ei.cell? (Nv (ao.heap.size+1) 0)=some (.slice d0 (RS t).length mf):=by
  have h1:ei.heap[ao.heap.size+1]? = some (Og #[.slice d0 (RS t).length mf] 38):=by
   have O:=NG (ao.alloc (.cells #[.slice va (O1 t).length dv] 26)) (.cells #[.slice d0 (RS t).length mf] 38);rw[ip];simpa using O
  rw[cell_of h1];rfl
 have ph:=(aDK t ei ao.heap.size (ao.heap.size+1) 0 va d0 la dv mf hu (Y0 (Qu.later lG hK) (Nat.zero_le _)) (acj (cV.later hK) (Nat.zero_le _)) (acj (iI.later hK) (Nat.zero_le _)) vg cF Nw Nw Nw);rw[<-yH.out,<-jV.out,<-yI.out,<-Fs.out,<-Ft.out] at ph;have ti:NJ ei ei:=P8;have jj:=(ef.trans (hK.mono ef.size));rw[<-ip];clear h vg ip
 generalize (OC t).length=MA at ph il
 generalize (RS t).length=lJ at ph fG cF
 generalize (O1 t).length=vl at xV
 cases body with
 | true=>
  cases bQ with
  | true=>
   exact aw8
  | false=>
   have z:=kk (∀{G}(h:G:=by
   cases jZ with
   | true=>
    exact aw9
   | false=>
    have z:=kk (∀{G}(h:G:=by
    cases a2 with
    | true=>
     exact as8
    | false=>
     exact as8),G);exact as9),G);exact ata
 | false=>
  cases bQ with
  | true=>
   exact aw8
  | false=>
   have z:=kk (∀{G}(h:G:=by
   cases jZ with
   | true=>
    exact aw9
   | false=>
    have z:=kk (∀{G}(h:G:=by
    cases a2 with
    | true=>
     exact as8
    | false=>
     refine cm (ph.ha2 _ eU) ?_;rintro e jg ⟨rfl,v8⟩;have kJ:NJ ei jg:=eU.trans (v8.mono eU.size);have f4:=Oj kJ cF;have Lo:=cell_lt f4;go_wp2_with fail
     cases b5 with
     | true=>
      refine cm (ph.hr2 _ kJ) ?_;rintro e iX ⟨rfl,tY⟩;have kb:NJ ei iX:=kJ.trans (tY.mono kJ.size);go_wp2_with fail;go_ret;exact⟨rfl,jj.trans (kb.mono jj.size)⟩
     | false=>
      refine cm (ph.hr2 _ kJ) ?_;rintro e iX ⟨rfl,tY⟩;have kb:NJ ei iX:=kJ.trans (tY.mono kJ.size);have zR:=Oj kb cF;have Lp:=cell_lt zR;go_wp2_with fail
      cases a3 with
      | true=>
       exact axa
      | false=>
       exact axa),G);exact as9),G);exact ata),G);exact zsv
def WQ (t:Tr)(s:Bool):Option Int:=match nmE s t.tx with
 | some e=>some e
 | none=>if hasB (namesT (Ph t 0) false) t.tx then some 9 else none
structure WA (b:Nat)(s i d:Bool)(w:Ny):Prop where
 c0:w.cell? (Nv b 0)=some (NI s)
 c1:w.cell? (Nv b 1)=some (NI i)
 c2:w.cell? (Nv b 2)=some (NI d)
theorem WA.new (w:Ny)(s i d:Bool):WA w.heap.size s i d (w.alloc (.cells #[NI s,NI i,NI d] 112)):=
 ⟨by rw[cell_of (NG _ _)];rfl,by rw[cell_of (NG _ _)];rfl,by rw[cell_of (NG _ _)];rfl⟩
theorem WA.later {b:Nat}{s i d:Bool}{w X:Ny}(h:WA b s i d w)(D:NJ w X):WA b s i d X:=⟨Oj D h.c0,Oj D h.c1,Oj D h.c2⟩
theorem aax (t:Tr)(p:Nat)(s i b:Bool)(w:Ny)(h:SC w t p)(E:1<=t.kids.length)(ai:t.count<=20000):NK 193 #[Nu p,WL s i b] w fun e w'=>e=NU (Ub (WQ t s))/\NJ w w':=by
 have z:=kk (∀{G}(h:G:=by
 obtain⟨ea,h8⟩:=xE (w.alloc (.cells #[NI s,NI i,NI b] 112));have cn:NJ w ea:=by rw[h8];exact OM
 have v6:WA w.heap.size s i b ea:=by rw[h8];exact WA.new _ _ _ _
 obtain⟨eY,_,c1,u,c3,U⟩:=(h.later cn).cells;obtain⟨g,cap,q,rfl,hg,An,aA⟩:=U.cell 0 Nw;rw[<-VW t 0 Nw] at aA;have wa:(Ph t 0).count<=20000:=by
  rw[VW t 0 Nw];have:=SY t.kids 0 Nw;omega
 have ja:=cell_lt v6.c0;unfold WQ;have k7:=hide (fun W=>Uc s i b t.tx W);have fJ:Hid (∀ W,NJ ea W->NK 78 #[Nu q,NI false] W fun e w'=>(∃ u,e=NU u/\Qu W.heap.size w' u (namesT (Ph t 0) false))/\NJ W w'):=fun W a6=>Y1 (Ph t 0) q false W (aA.later a6) wa;have nu:Hid ((namesT (Ph t 0) false).length<=90000):=by
  have h0:(Ph t 0).count=1+Tr.counts (Ph t 0).kids:=by cases (Ph t 0) with|mk kd tx gy ks=>exact count_mk _ _ _ _
  have h1:=Rx (Ph t 0).kids;have O:=Yn ([]++(RS (Ph t 0)).map Tr.tx++(OC (Ph t 0)).map Tr.tx);have ax:=aae (Ph t 0);have aU:=Ru (Ph t 0)
  show (namesT (Ph t 0) false).length<=_
  unfold namesT;simp only[Bool.false_eq_true,if_false];simp only[List.length_append,List.length_map,List.length_nil] at O;omega
 generalize namesT (Ph t 0) false=EQ at fJ nu
 generalize t.tx=tx at c1 k7
 generalize t.kids.length=L at c3 E cJ
 generalize nmE s tx=er at k7
 obtain⟨r,bY⟩:=xH (hasB EQ tx);rw[<-bY.out];clear h gL ai wa;go_enter func193,ntmps193;go_wp2_with fail;rw[<-h8];have ab:NJ ea ea.drew:=P8.drew;refine wp_region_held (S:=fun X=>NJ ea X) OJ ?_;change wpAnyH _ _ _ _ _ _ _ _ (World.drew _);refine wh 0 (Nu p) ab ?_;refine wh 1 (Nu p) ab ?_;refine wh 2 (NM p 1) ab ?_;refine wh 3 (ND tx) ab ?_ (hy:=Or.inl ⟨by kernel_rfl,fun X aj=>by have hh:=Oj aj c1;go_simp⟩)
 refine wh 4 (WL s i b) ab ?_ (hy:=Or.inl ⟨by kernel_rfl,fun X aj=>by
  have hh:=WA.later v6 aj;have h0:=hh.c0;have h1:=hh.c1;have O:=hh.c2;clear hh;go_simp⟩)
 refine WG 5 fun K A=>?_;go_simp;refine cm (k7.out _) ?_;rintro e w2 ⟨rfl,aE⟩;rw[<-h8] at aE;have f5:NJ ea w2:=ab.trans (aE.mono OH);refine A.out _ _ f5 (fun _=>?_);clear A K;refine wh 6 (Ub er) f5 ?_;refine wpAnyH_done OJ ?_ _;go_simp
 cases er with
 | some e=>
  unfold Ub;go_wp2_with fail;go_ret;exact⟨rfl,cn.trans (f5.mono cn.size)⟩
 | none=>
  unfold Ub;have eq:=Oj f5 c1;have jG:=Oj f5 c3;have Dc:=Oj f5 An;have hpl2:p<w2.heap.size:=cell_lt eq;have Ax:g<w2.heap.size:=cell_lt Dc;have hL0':¬ L=0:=Nw;go_wp2_with fail;have ab:NJ w2 w2.drew:=P8.drew;refine wp_region_held (S:=fun X=>NJ w2 X) OJ ?_;change wpAnyH _ _ _ _ _ _ _ _ (World.drew _);refine wh 0 (Nu p) ab ?_;refine wh 1 (Nu p) ab ?_;refine wh 2 (NM p 3) ab ?_;refine wh 3 (.slice (some (Nv g 0)) L cap) ab ?_ (hy:=Or.inl ⟨by kernel_rfl,fun X aj=>by have hh:=Oj aj jG;go_simp⟩)
  refine wh 4 (NM g 0) ab ?_ (hy:=Or.inl ⟨by kernel_rfl,fun X aj=>by have Ls:=hL0';go_simp⟩)
  refine wh 5 (Nu q) ab ?_ (hy:=Or.inl ⟨by kernel_rfl,fun X aj=>by have hh:=Oj aj Dc;go_simp⟩)
  refine wh 7 (Nu p) ab ?_;refine wh 8 (Nu p) ab ?_;refine wh 9 (NM p 1) ab ?_;refine wh 10 (ND tx) ab ?_ (hy:=Or.inl ⟨by kernel_rfl,fun X aj=>by have hh:=Oj aj eq;go_simp⟩)
  refine WG 6 fun K A=>?_;go_simp;refine cm (fJ.out _ (f5.trans (ab.mono f5.size))) ?_;rintro e ao ⟨⟨j7,rfl,iI⟩,bm⟩;obtain⟨a3,KF,rfl⟩:=N8 iI;have ss:NJ w2 ao:=ab.trans (bm.mono OH);refine A.out _ _ ss (fun _=>?_);clear A K;have ah:=(UG EQ tx _ ao iI (by have:=Ns nu;omega))
  rw[<-bY.out] at ah;refine WG 11 fun K A=>?_;go_simp;refine cm ah ?_;rintro e bB ⟨rfl,rfl⟩;refine A.out _ _ ss (fun _=>?_);clear A K;refine wpAnyH_done OJ ?_ _;go_simp;have kJ:=(f5.trans (ss.mono f5.size))
  cases r <;>
  ·go_wp2_with fail;go_ret;exact⟨rfl,cn.trans (kJ.mono cn.size)⟩),G);exact zsv
def SI (f:Nat->Option Int):Nat->Option Int
 | 0=>none
 | n+1=>match SI f n with
  | some e=>some e
  | none=>f n
theorem aay {f:Nat->Option Int}{k:Nat}{e:Int}(h:SI f k=none)(aG:f k=some e):∀ n,k<n->SI f n=some e
 | 0,aA=>absurd aA Nw
 | n+1,aA=>by
  rw[SI]
  rcases Nat.lt_or_ge k n with h1|h1
  ·rw[aay h aG n h1]
  ·have:k=n:=Nw;subst this;rw[h];exact aG
theorem Zx {f:Nat->Option Int}{k:Nat}(h:SI f k=none)(aG:f k=none):SI f (k+1)=none:=by rw[SI,h];exact aG
def TQ (s:Bool)(ps:List Tr)(i:Nat):Option Int:=match nmE s (abQ ps i) with
 | some e=>some e
 | none=>if s&&RQ (ps.take i) (abQ ps i) then some 9 else none
def ao4 (s:Bool)(ps:List Tr):Option Int:=SI (TQ s ps) ps.length
def letE (t:Tr):Bool:=(OC (Ph t 1)).any fun k=>RQ (Ph t 0).kids k.tx
def fnE (t:Tr)(s:Bool):Option Int:=match nmE s t.tx with
 | some e=>some e
 | none=>match ao4 s (Ph t 0).kids with
  | some e=>some e
  | none=>if letE t then some 9 else none
theorem ajD {B:Nat}{w:Ny}{v:NP}{am:List Tr}(h:Rn B w v am)(aA:0<am.length):∃ g cap,v=.slice (some (Nv g 0)) am.length cap/\(am.length:Int)<=(cap:Int)/\cap<=maxLen:=by
 obtain⟨ps,aM,fo⟩:=h;have eY:=TN.length _ _ fo
 rcases aM.2 with L5|⟨g,cap,cl,ap,_,_,ai,aV,_⟩
 ·omega
 ·exact⟨g,cap,by rw[ap,eY],by omega,aV⟩
structure ao6 (t:Tr)(p xg xh:Nat)(s i b:Bool)(w:Ny):Prop where
 nt:SC w t p
 cN:w.cell? (Nv xg 0)=some (Nu p)
 pl:WA xh s i b w
theorem ao6.later {t:Tr}{p xg xh:Nat}{s i b:Bool}{w X:Ny}(h:ao6 t p xg xh s i b w)(D:NJ w X):ao6 t p xg xh s i b X:=⟨h.nt.later D,Oj D h.cN,h.pl.later D⟩
theorem Yo (t:Tr)(p:Nat)(s i b:Bool)(w:Ny)(h:SC w t p)(E:2<=t.kids.length)(ai:t.count<=20000):NK 191 #[Nu p,WL s i b] w fun e w'=>e=NU (Ub (fnE t s))/\NJ w w':=by
 have z:=kk (∀{G}(h:G:=by
 have AF:∀ j,j<t.kids.length->(Ph t j).kids.length<=20000:=fun j aT=>by
  rw[VW t j aT];have h1:=SY t.kids j aT;have O:(t.kids[j]).count=1+Tr.counts (t.kids[j]).kids:=by cases t.kids[j] with|mk kd tx gy ks=>exact count_mk _ _ _ _
  have ax:=Rx (t.kids[j]).kids;omega
 have xu:=AF 0 Nw;have vx:=AF 1 Nw;obtain⟨ei,ip⟩:=xE ((w.alloc (.cells #[Nu p] 22)).alloc (.cells #[NI s,NI i,NI b] 112));have hK:NJ w ei:=by rw[ip];exact OM.alloc Oq _
 have sq:ao6 t p w.heap.size (w.heap.size+1) s i b ei:=by
  refine⟨h.later hK,?_,?_⟩
  ·have h1:ei.heap[w.heap.size]? = some (Og #[Nu p] 22):=by rw[ip,Below.heap_alloc _ _ _ Oq,NG]
   rw[cell_of h1];rfl
  ·have h1:=WA.new (w.alloc (.cells #[Nu p] 22)) s i b;rw[ip];simpa using h1
 have fD:Hid (∀ W,NJ ei W->NK 249 #[Nu p] W fun e w'=>(∃ u,e=NU u/\Rn 0 W u (Ph t 0).kids)/\w'=W):=fun W a6=>Zw t p W (sq.later a6).nt Nw Nw;have k7:Hid (∀ x W,NK 192 #[ND x,WL s i b] W fun e w'=>e=NU (Ub (nmE s x))/\NJ W w'):=fun x W=>Uc s i b x W;have ly:Hid (∀ W,NJ ei W->NK 103 #[Nu p] W fun e w'=>(∃ q,e=NU (Nu q)/\SC W (Ph t 1) q)/\w'=W):=fun W a6=>aau t p W (sq.later a6).nt E Nw
 have bS:Hid (∀ q W,SC W (Ph t 1) q->NK 77 #[Nu q] W fun e w'=>(∃ u,e=NU u/\Rn W.heap.size w' u (OC (Ph t 1)))/\NJ W w'):=fun q W ag=>aaw _ q W ag Nw;have jx:Hid (∀ v W B,NJ ei W->Rn B W v (OC (Ph t 1))->NK 248 #[v,.func (.func 250) #[] #[NM w.heap.size 0]] W fun e w'=>e=NU (NI (letE t))/\NJ W w'):=fun v W B a6 ap=>
  UU 250 _ (fun k=>RQ (Ph t 0).kids k.tx) as5 _ v W ap (by have:=Ru (Ph t 1);omega) (fun k _ cE X aj aA=>ajC k t cE w.heap.size p X aA ((sq.later a6).later aj).cN ((sq.later a6).later aj).nt Nw Nw Nw)
 obtain⟨_,_,c1,_⟩:=sq.nt.cells;unfold fnE;obtain⟨wI,gK⟩:=xE (ao4 s (Ph t 0).kids);rw[<-gK];have y9:Hid (∀ n e,n<(Ph t 0).kids.length->SI (TQ s (Ph t 0).kids) n=none->TQ s (Ph t 0).kids n=some e->wI=some e):=fun n e aA h1 O=>by rw[gK];exact aay h1 O _ aA
 have Cq:Hid (SI (TQ s (Ph t 0).kids) (Ph t 0).kids.length=none->wI=none):=fun h1=>by rw[gK];exact h1
 generalize letE t=le at jx
 generalize OC (Ph t 1)=MC at bS jx
 generalize (Ph t 0).kids=P at fD y9 Cq xu
 generalize t.tx=tx at c1
 have C9:=sq.cN;have eY:=sq.pl;clear h E ai gL cJ AF vx gK;have Ch:=hide (k7 tx)
 generalize HZ:nmE s tx=aH at Ch
 clear HZ;have mI:=hide C9;have e1:=hide c1;have p5:=eY;clear C9 c1 eY;go_enter func191,ntmps191;go_wp2_with fail;rw[<-ip];have ab:NJ ei ei.drew:=P8.drew;have eY:=cell_lt e1.out;refine wp_region_held (S:=fun X=>NJ ei X) OJ ?_;change wpAnyH _ _ _ _ _ _ _ _ (World.drew _);refine wh 0 (Nu p) ab ?_ (hy:=Or.inl ⟨by kernel_rfl,fun X aj=>by have hh:=Oj aj mI.out;go_simp⟩)
 refine wh 1 (Nu p) ab ?_;refine wh 2 (NM p 1) ab ?_;refine wh 3 (ND tx) ab ?_ (hy:=Or.inl ⟨by kernel_rfl,fun X aj=>by have hh:=Oj aj e1.out;go_simp⟩)
 refine wh 4 (WL s i b) ab ?_ (hy:=Or.inl ⟨by kernel_rfl,fun X aj=>by
  have hh:=WA.later p5 aj;have h0:=hh.c0;have h1:=hh.c1;have O:=hh.c2;clear hh;go_simp⟩)
 refine WG 5 fun K A=>?_;go_simp;refine cm (Ch.out _) ?_;rintro e w2 ⟨rfl,aE⟩;rw[<-ip] at aE;have f5:NJ ei w2:=ab.trans (aE.mono OH);refine A.out _ _ f5 (fun _=>?_);clear A K;refine wh 6 (Ub aH) f5 ?_;refine wpAnyH_done OJ ?_ _;go_simp
 cases aH with
 | some e=>
  unfold Ub;go_wp2_with fail;go_ret;exact⟨rfl,hK.trans (f5.mono hK.size)⟩
 | none=>
  unfold Ub;have gC:=Oj f5 mI.out;have m0:=cell_lt gC;have ah:=(Ns fD w2 f5);go_wp2_with fail;refine cm ah ?_;rintro e ao ⟨⟨u,rfl,U⟩,rfl⟩;obtain⟨va,dv,rfl⟩:=U.form;have dk:=U;clear U gC m0;go_wp2_with fail
  go_loopw [22] (fun j wr=>∃ k:Nat,k<=P.length/\j=Nr k/\SI (TQ s P) k=none/\NJ ao wr) (fun j _=>P.length - (intOf j).toNat)
  case atStart=>exact⟨0,Nat.zero_le _,rfl,rfl,P8⟩
  case round=>
   obtain⟨k,E,rfl,fo,D⟩:=hrel;have fJ:=hide fo;clear fo;have iZ:=(f5.trans (D.mono f5.size))
   by_cases aQ:k<P.length
   ·obtain⟨g,cap,q,ap,hg,ai,aA⟩:=(dk.later D).cell k aQ;simp only[Value.slice.injEq] at ap;obtain⟨rfl,_,rfl⟩:=ap;have hL:(k:Int)<(P.length:Int):=Nw;obtain⟨dL,_,cx,_⟩:=aA.cells;rw[<-ais P k aQ] at cx;have l2:Hid (TQ s P k=(match nmE s (abQ P k) with|some e=>some e|none=>if s&&RQ (P.take k) (abQ P k) then some 9 else none)):=rfl
    generalize abQ P k=x at cx l2
    have ny:=hide (Ns k7 x)
    generalize nmE s x=ex at ny l2
    have Gp:=(WA.later p5 iZ);have s6:=hide cx;clear aA;go_wp2_with fail;have ab:NJ wr wr.drew:=P8.drew;refine wp_region_held (S:=fun X=>NJ wr X) OJ ?_;change wpAnyH _ _ _ _ _ _ _ _ (World.drew _);refine wh 0 (Nu q) ab ?_;refine wh 1 (Nu q) ab ?_;refine wh 2 (NM q 1) ab ?_;refine wh 3 (ND x) ab ?_ (hy:=Or.inl ⟨by kernel_rfl,fun X aj=>by have hh:=Oj aj s6.out;go_simp⟩)
    refine wh 4 (WL s i b) ab ?_ (hy:=Or.inl ⟨by kernel_rfl,fun X aj=>by
  have hh:=WA.later Gp aj;have h0:=hh.c0;have h1:=hh.c1;have O:=hh.c2;clear hh;go_simp⟩)
    refine WG 5 fun K A=>?_;go_simp;refine cm (ny.out _) ?_;rintro e bB ⟨rfl,du⟩;have vz:NJ wr bB:=ab.trans (du.mono OH);refine A.out _ _ vz (fun _=>?_);clear A K;refine wh 6 (Ub ex) vz ?_;refine wpAnyH_done OJ ?_ _;go_simp;have kb:=(D.trans (vz.mono D.size));have lH:=(iZ.trans (vz.mono iZ.size));have uA:=hide (Oj vz s6.out);clear cx dL ai hg
    cases ex with
    | some e=>
     have sH:wI=some e:=Ns y9 k e aQ fJ.out l2.out;subst sH;unfold Ub;go_wp2_with fail;go_ret;exact⟨rfl,hK.trans (lH.mono hK.size)⟩
    | none=>
     unfold Ub;have y':=(WA.later p5 lH);have LE:=cell_lt y'.c0;have ab:NJ bB bB.drew:=P8.drew
     cases s with
     | false=>
      have w7:Hid (TQ false P k=none):=Ns l2;go_wp2_with fail;refine wp_region_held (S:=fun X=>NJ bB X) OJ ?_;change wpAnyH _ _ _ _ _ _ _ _ (World.drew _);refine wh 0 (NM (w.heap.size+1) 0) ab ?_;refine wh 1 (NI false) ab ?_ (hy:=Or.inl ⟨by kernel_rfl,fun X aj=>by have hh:=Oj aj y'.c0;go_simp⟩)
      refine wh 2 (NI false) ab ?_;refine wh 3 undef ab ?_ (hy:=Or.inr ⟨by kernel_rfl,rfl⟩);refine wh 5 undef ab ?_ (hy:=Or.inr ⟨by kernel_rfl,rfl⟩);refine wh 7 undef ab ?_ (hy:=Or.inr ⟨by kernel_rfl,rfl⟩);refine wh 8 undef ab ?_ (hy:=Or.inr ⟨by kernel_rfl,rfl⟩);refine wh 9 undef ab ?_ (hy:=Or.inr ⟨by kernel_rfl,rfl⟩);refine wh 10 undef ab ?_ (hy:=Or.inr ⟨by kernel_rfl,rfl⟩);refine WG 4 fun K A=>?_;go_simp;refine A.out _ _ ab (fun _=>?_);clear A K;refine wh 6 undef ab ?_ (hy:=Or.inr ⟨by kernel_rfl,rfl⟩);refine WG 11 fun K A=>?_;go_simp
      refine A.out _ _ ab (fun _=>?_);clear A K;refine wh 12 (NI false) ab ?_;refine wpAnyH_done OJ ?_ _;go_simp;go_wp2_with fail
      go_roundw
      case rel=>exact⟨k+1,by omega,by go_num,Zx fJ.out w7.out,kb.drew⟩
      case measure=>simp[intOf];omega
     | true=>
      have Gj:=(Ns fD bB.drew lH.drew);have BW:=hide (Oj lH mI.out);have LC:=cell_lt BW.out;have tY:=cell_lt uA.out;obtain⟨r,U⟩:=xE (RQ (P.take k) x);have w7:Hid (TQ true P k=if r then some 9 else none):=by rw[U];exact Ns l2
      have iN:=hide U;clear U;go_wp2_with fail;refine wp_region_held (S:=fun X=>NJ bB X) OJ ?_;change wpAnyH _ _ _ _ _ _ _ _ (World.drew _);refine wh 0 (NM (w.heap.size+1) 0) ab ?_;refine wh 1 (NI true) ab ?_ (hy:=Or.inl ⟨by kernel_rfl,fun X aj=>by have hh:=Oj aj y'.c0;go_simp⟩)
      refine wh 2 (NI true) ab ?_;refine wh 3 (Nu p) ab ?_ (hy:=Or.inl ⟨by kernel_rfl,fun X aj=>by have hh:=Oj aj BW.out;go_simp⟩)
      refine wh 5 (Nr k) ab ?_;refine wh 7 (Nu q) ab ?_;refine wh 8 (Nu q) ab ?_;refine wh 9 (NM q 1) ab ?_;refine wh 10 (ND x) ab ?_ (hy:=Or.inl ⟨by kernel_rfl,fun X aj=>by have hh:=Oj aj uA.out;go_simp⟩)
      refine WG 4 fun K A=>?_;go_simp;refine cm Gj ?_;rintro e b' ⟨⟨wN,rfl,pI⟩,rfl⟩;obtain⟨xn,c5,rfl,hcap,LB⟩:=ajD pI Nw;refine A.out _ _ ab (fun _=>?_);clear A K;have BT:=(Xv (P.take k) _ x bB.drew (pI.take k Nw) (by rw[List.length_take];omega))
      rw[<-iN.out] at BT;have pD:(k:Int)<=(c5:Int):=Nw;refine wh 6 (.slice (some (Nv xn 0)) k c5) ab ?_;refine WG 11 fun K A=>?_;go_simp;refine cm BT ?_;rintro e b9 ⟨rfl,e2⟩;have xv:NJ bB b9:=ab.trans (e2.mono OH);refine A.out _ _ xv (fun _=>?_);clear A K;refine wh 12 (NI r) xv ?_;refine wpAnyH_done OJ ?_ _;go_simp;have GH:=(kb.trans (xv.mono kb.size));have q2:=(lH.trans (xv.mono lH.size))
      cases r with
      | true=>
       have sH:wI=some 9:=Ns y9 k 9 aQ fJ.out w7.out;subst sH;go_wp2_with fail;go_ret;exact⟨rfl,hK.trans (q2.mono hK.size)⟩
      | false=>
       go_wp2_with fail
       go_roundw
       case rel=>exact⟨k+1,by omega,by go_num,Zx fJ.out w7.out,GH⟩
       case measure=>simp[intOf];omega
   ·have cM:k=P.length:=Nw;subst cM;have IU:wI=none:=Ns Cq fJ.out;subst IU;have gC:=Oj iZ mI.out;have m0:=cell_lt gC;have ah:=(Ns ly wr iZ);go_wp2_with fail;refine cm ah ?_;rintro e bB ⟨⟨q,rfl,ag⟩,rfl⟩;have hn:=(Ns bS q bB ag);go_wp2_with fail;refine cm hn ?_;rintro e b' ⟨⟨wN,rfl,pI⟩,fv⟩;obtain⟨la,hu,rfl⟩:=pI.form;have iY:=(iZ.trans (fv.mono iZ.size));have eB:=(Ns jx _ b' _ iY pI)
    cases le <;>
    ·go_wp2_with fail;refine cm eB ?_;rintro e b9 ⟨rfl,e2⟩;have uu:=(iY.trans (e2.mono iY.size));go_wp2_with fail;go_ret;exact⟨rfl,hK.trans (uu.mono hK.size)⟩),G);exact zsv
end Go.Proofs.YticfnaiehdpbmaaGreatDoor
