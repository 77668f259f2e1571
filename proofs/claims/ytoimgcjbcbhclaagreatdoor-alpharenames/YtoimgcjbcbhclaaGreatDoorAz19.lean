import Derived.Test.YtoimgcjbcbhclaaGreatDoorAz14
import Derived.Test.YtoimgcjbcbhclaaGreatDoorAz15
set_option maxRecDepth 100000
set_option maxHeartbeats 0
set_option linter.all false
namespace Go.Proofs.YtoimgcjbcbhclaaGreatDoor
open Go.RowKit Go.Proofs.Tryz
def Uo {α:Type}(dz:List (List α)):Nat:=(dz.map List.length).sum
section
variable {α:Type} {dz:List (List α)} {k:Nat} (N:k<dz.length)
include α dz k N
def akV:Uo (dz.take (k+1))=Uo (dz.take k)+dz[k].length:=by
 unfold Uo;exact aw3
def ajB:Uo (dz.take k)+dz[k].length<=Uo dz:=by
 have h:=zaldg Uo (zalcd k dz);rw[zalbs N] at h;unfold Uo at h ⊢;simp only[zalam,zalbb,zalhs,zalie] at h;omega
end
def akW {α:Type}(dz:List (List α)):dz.flatten.length=Uo dz:=by unfold Uo;rw[List.length_flatten]
def afj {B:Nat}(ci:List LY)(hp:List (List Nat))(w:LK)(g:Nat)(ab:ci.length=hp.length)(av:ci.length<=4)(de:g<w.heap.size)(am:∀ j (aT:j<ci.length),w.cell? (LD g j)=some ci[j])(T:∀ j (aT:j<ci.length) (hi:j<hp.length),w.ownsRow B 22 1 ci[j] hp[j].length (hp[j].map LC))(aH:Uo hp<=90000)(n:Nat)(qE:n=ci.length) :
  MC 216 #[.slice (some (LD g 0)) n n] w λe w'=>(∃ v,e=MN v/\w'.ownsRow w.heap.size 22 1 v hp.flatten.length (hp.flatten.map LC))/\LX w w':=by
 have A{G}(h:G:=by
 go_loopw [3,11] (λs i wr=>∃ k:Nat,k<=ci.length/\i=LJ k/\s=LJ (Uo (hp.take k):Nat)/\wr=w) (λ_ i _=>ci.length - (intOf i).toNat)
 case atStart=>exact⟨0,zalae _,rfl,rfl,rfl⟩
 case round=>
  obtain⟨k,N,rfl,rfl,hw⟩:=hrel;obtain rfl:w=wr:=hw.symm;clear hw
  by_cases aC:k<ci.length
  ·have hlt2:k<hp.length:=by have:=Lu cQ;omega
   have c1:=ag.out k aC;obtain⟨a,c,aS⟩:=LZ (bo.out k aC hlt2);rw[aS] at c1;have dE:=ajB hlt2;have dQ:=hide (akV hlt2)
   generalize hp[k].length=m at c1 dE dQ
   generalize Uo (hp.take k)=S at dE dQ ⊢
   exact axd
  ·have cA:k=ci.length:=LM;subst cA;have eb:Uo (hp.take ci.length)=Uo hp:=by rw[cQ.out,zalaq]
   have f3:=hide (afi (Uo hp) LM w);have A{G}(h:G:=by
   go_loopw [6,27] (λo i wr=>∃ (k:Nat) (ps:List Nat),k<=ci.length/\i=LJ k/\wr.ownsRow w.heap.size 22 1 o ps.length (ps.map LC)/\ps=(hp.take k).flatten/\LX w wr) (λ_ i _=>ci.length - (intOf i).toNat)
   case atStart=>exact⟨0,[],zalae _,rfl,ll.out,rfl,ba.out⟩
   case round=>
    obtain⟨k,ps,N,rfl,hown,iQ,jU⟩:=hrel;have bb:=hide hown;have hK:=hide iQ;have aV:=hide jU;have bF:ps.length=Uo (hp.take k):=by rw[iQ,akW]
    obtain⟨px,py,rfl⟩:=LZ hown;clear iQ
    by_cases aC:k<ci.length
    ·have hlt2:k<hp.length:=by have:=Lu cQ;omega
     have c1:=ag.out k aC;have dE:=ajB hlt2;have fC:(hp.take (k+1)).flatten=(hp.take k).flatten++hp[k]:=by rw[zalac hlt2,List.flatten_append,List.flatten_singleton]
     have kF:=hide fC;clear fC;obtain⟨bf,ef⟩:∃ bf,bf=hp[k]:=⟨_,rfl⟩;have ac:=bo.out k aC hlt2;rw[<-ef] at ac;have eZ:bf.length=(hp[k]).length:=by rw[ef]
     have A{G}(h:G:=by
     clear c1 ef bF eZ dE
     by_cases b5:bf.length=0
     ·have A{G}(h:G:=by
      go_roundw
      case rel=>
       refine⟨k+1,ps,by omega,by go_num,bb.out,?_,aV.out⟩;have r8:bf=[]:=zalbr.1 fH.out;rw[kF.out,<-u'.out,r8,zalba];exact Lu hK
      case measure=>simp[intOf];omega):=LG h;exact axe
     ·have A{G}(h:G:=by
      go_roundw
      case rel=>
       refine⟨k+1,ps++bf,by omega,by go_num,by rw[zalab,zalam];exact h2.out,?_,bV.out⟩
       rw[kF.out,<-u'.out,<-hK.out]
      case measure=>simp[intOf];omega):=LG h;exact axf):=LG h;exact axg
    ·have cA:k=ci.length:=LM;subst cA;go_wp2;go_ret;refine⟨⟨_,rfl,?_⟩,aV.out⟩;have e:ps=hp.flatten:=by rw[hK.out,cQ.out,zalaq]
     rw[<-e];exact Lu bb):=LG h;exact axh):=LG h;exact axi
def Zy {I:Nat->Prop}{B:Nat}(ci:List LY)(dz:List (List Ad))(w:LK)(g:Nat)(ab:ci.length=dz.length)(av:ci.length<=4)(de:g<w.heap.size)(am:∀ j (aT:j<ci.length),w.cell? (LD g j)=some ci[j])(T:∀ j (aT:j<ci.length) (hi:j<dz.length),Rl I B w ci[j] dz[j])(aH:Uo dz<=90000)(n:Nat)(qE:n=ci.length) :
  MC 216 #[.slice (some (LD g 0)) n n] w λe w'=>(∃ v,e=MN v/\Rl I w.heap.size w' v dz.flatten)/\LX w w':=by
 have i9:Uo (dz.map λl=>l.map Ad.p)<=90000:=by
  have h:Uo (dz.map λl=>l.map Ad.p)=Uo dz:=by unfold Uo;rw[zaley];congr 1;apply List.map_congr_left;intro l _;simp
  omega
 refine cm (afj (B:=B) ci (dz.map λl=>l.map Ad.p) w g (by simpa using ab) av de am (λj aT hi=>?_) i9 n qE) ?_
 ·have h:=(T j aT (by simpa using hi)).1;simp only[zalcx,zalag,zaley];exact h
 ·rintro e w' ⟨⟨v,rfl,ay⟩,D⟩;refine⟨⟨v,rfl,?_,OU.of _ λx af=>?_⟩,D⟩
  ·rw[<-List.map_flatten,zalag,zaley] at ay;exact ay
  ·obtain⟨l,hD,af⟩:=List.mem_flatten.1 af;obtain⟨j,aT,rfl⟩:=zalcf.1 hD;exact MZ.later (Below.stay D) _ (OU.mem _ (T j LM aT).2 x af)
def OJ (a:Ad):List Ad:=a.ks.filter λk=>Rn k.tr
def QW (a:Ad):List Ad:=a.ks.filter λk=>Uz k.tr
def VB (a:Ad):(OJ a).length<=a.ks.length:=zalci _ _
def Yl (a:Ad):(QW a).length<=a.ks.length:=zalci _ _
section
variable {I:Nat->Prop} (a:Ad) (w:LK) (h:MZ I w a) (ab:a.ks.length<=90000)
include I a w h ab
def YZ :
  MC 126 #[LC a.p] w λe w'=>(∃ u,e=MN u/\Rl I w.heap.size w' u (OJ a))/\LX w w':=akX a w h ab
def aaF :
  MC 196 #[LC a.p] w λe w'=>(∃ u,e=MN u/\Rl I w.heap.size w' u (QW a))/\LX w w':=ah0 a w h ab
end
def Nk (a:Ad):List Ad:=
 if a.kd=1 then OJ a
 else if a.kd=5\/a.kd=37 then (match a.ks with|x::y::_=>[x.ks,va y,QW y,OJ y].flatten|_=>[])
 else if a.kd=6 then [QW a,OJ a].flatten
 else if a.kd=13 then [a] else []
section
variable {I:Nat->Prop} {a:Ad} {w:LK} (aH:MZ I w a)
include I a w aH
def ah1 (N:a.kd=1)(am:a.cnt<=20000) :
  MC 131 #[LC a.p] w λe w'=>(∃ v,e=MN v/\Rl I w.heap.size w' v (OJ a))/\LX w w':=by
 obtain⟨_,bF,c0,_,_⟩:=aH.cells;have ex:a.ks.length<=90000:=by
  have E:=P8 a.ks;have O:=OA a;omega
 have ag:=hide (YZ a w aH ex);rw[N] at c0
 generalize OJ a=ah at ag ⊢
 exact awG
def ah2 (N:a.kd=6)(am:a.cnt<=20000) :
  MC 131 #[LC a.p] w λe w'=>(∃ v,e=MN v/\Rl I w.heap.size w' v [QW a,OJ a].flatten)/\LX w w':=by
 obtain⟨_,bF,c0,_,_⟩:=aH.cells;have ex:a.ks.length<=20000:=by
  have E:=P8 a.ks;have O:=OA a;omega
 have hD:=Yl a;have gx:=VB a;have ag:=hide (aaF a w aH LM);have b9:=hide (λ(L:LK) (D:LX w L)=>YZ a L (MZ.later (Below.stay D) _ aH) LM);rw[N] at c0
 generalize OJ a=ah at b9 gx ⊢
 generalize QW a=M at ag hD ⊢
 generalize a.p=p at bF c0 ag b9 ⊢
 have hsum:Uo [M,ah]<=90000:=by simp[Uo];omega
 have A{G}(h:G:=by
 have ft:=hide (Zy (I:=I) (B:=0) [.slice aQ M.length cc,.slice px ah.length py] [M,ah] (w2.alloc (.cells #[.slice aQ M.length cc,.slice px ah.length py] 46)) w2.heap.size rfl MP MP
  (λj aT=>by
   rw[Lib.cell_of_heap (LP _ _)]
   match j,aT with
   | 0,_=>rfl
   | 1,_=>rfl)
  (λj aT hi=>by
   match j,aT,hi with
   | 0,_,_=>exact cd.out.later bx
   | 1,_,_=>exact bX.out.later bx) hsum 2 rfl)
 exact awH):=LG h;exact awI
def afk (N:a.kd=13) :
  MC 131 #[LC a.p] w λe w'=>(∃ v,e=MN v/\Rl I w.heap.size w' v [a])/\LX w w':=by
 obtain⟨_,bF,c0,_,_⟩:=aH.cells;rw[N] at c0;obtain⟨p,ae⟩:∃ p,p=a.p:=⟨_,rfl⟩;rw[<-ae] at bF c0 ⊢;have bk:=hide ae;have dQ:=hide aH;clear N ae;go_enter zalht,zalhi;go_wp2;go_ret;refine⟨⟨_,rfl,⟨rfl,zalal ⟨w.heap.size,1,#[LC p],rfl,Nh,LP _ _,Nh,by decide,rfl,by rw[bk.out];rfl⟩⟩,OU.of _ λx af=>?_⟩,?_⟩
 ·rw[zalaf.1 af];exact MZ.later (Below.stay Qn) _ dQ.out
 ·exact Qn
def ah3 (E:a.kd≠1)(bw:a.kd≠5)(BH:a.kd≠37)(h6:a.kd≠6)(ei:a.kd≠13) :
  MC 131 #[LC a.p] w λe w'=>(∃ v,e=MN v/\Rl I w.heap.size w' v [])/\LX w w':=by
 have A{G}(h:G:=by
 exact⟨⟨_,rfl,⟨rfl,zalad ⟨rfl,rfl⟩⟩,by rw[OU];trivial⟩,O4⟩):=LG h;exact awJ
end
def ah4 {I:Nat->Prop}{a x y:Ad}{ks:List Ad}{w:LK}(aH:MZ I w a)(N:a.kd=5\/a.kd=37)(bd:a.ks=x::y::ks)(am:a.cnt<=20000) :
  MC 131 #[LC a.p] w λe w'=>(∃ v,e=MN v/\Rl I w.heap.size w' v [x.ks,va y,QW y,OJ y].flatten)/\LX w w':=by
 obtain⟨_,bF,c0,_,_⟩:=aH.cells;obtain⟨g,cap,c3,de,fN,fc,af,hy⟩:=aH.two bd;obtain⟨_,j3,_,_,_⟩:=af.cells;obtain⟨DD,pD,t2,_⟩:=af.rowA;have m1:x.cnt+y.cnt<=20000:=by
  have E:=OA a;rw[bd,Ad.cnts,Ad.cnts] at E;omega
 have Cx:x.ks.length<=x.cnt:=by
  have E:=P8 x.ks;have O:=OA x;omega
 have yJ:y.ks.length<=y.cnt:=by
  have E:=P8 y.ks;have O:=OA y;omega
 have hD:=Yl y;have gx:=VB y;have k3:=as5 y;have kE:=hide (λ(L:LK) (D:LX w L)=>akY y L (MZ.later (λb _ ab=>D.block b ab) _ hy) LM);have fZ:=hide (λ(L:LK) (D:LX w L)=>aaF y L (MZ.later (Below.stay D) _ hy) LM);have jK:=hide (λ(L:LK) (D:LX w L)=>YZ y L (MZ.later (Below.stay D) _ hy) LM);have hsum:Uo [x.ks,va y,QW y,OJ y]<=90000:=by simp[Uo];omega
 have sW:=hide t2;obtain⟨lY,lZ,v8⟩:=t2.form
 generalize x.ks=K at sW hsum v8 ⊢
 generalize OJ y=ah at jK hsum ⊢
 generalize QW y=M at fZ hsum ⊢
 generalize va y=V at kE hsum ⊢
 have A{G}(h:G:=by
 rcases N with N|N
 all_goals
  rw[N] at c0;clear N;go_enter zalht,zalhi;go_wp2_with fail
  go_region
  go_wp2_with fail;obtain⟨w1,c9⟩:∃ w1,w1=w.drew:=⟨_,rfl⟩;have gI:LX w w1:=by rw[c9];exact O4.drew
  rw[<-c9];clear c9 fN fc c0 c3 pD;have aE:LX w w1.drew:=gI.drew;refine wp_region_held (S:=λY=>LX w Y) Nw ?_;change wpAnyH _ _ _ _ _ _ _ _ (World.drew _);refine wh 0 (LC na) aE ?_;refine wh 1 (LC na) aE ?_;refine wh 2 (Mc na 3) aE ?_;refine wh 3 (.slice lY K.length lZ) aE ?_ (hy:=zalad ⟨by kernel_rfl,λY dC=>by have a2:=(dC.cell (p:=(LD na 3)) j3).trans AZ.out;go_simp⟩)
  refine wh 4 (LC gO) aE ?_;refine wh 6 (LC gO) aE ?_;refine wh 8 (LC gO) aE ?_;refine UK 5 λfk U=>?_;go_simp;refine cm (kE.out w1.drew aE) ?_;rintro e w2 ⟨⟨u,rfl,T⟩,D⟩;have eN:LX w w2:=aE.trans (D.mono aE.size);have p4:=hide (T.low (zalae _));obtain⟨va,ck,rfl⟩:=T.form;refine U.out _ _ eN (λ_=>?_);clear fk U;refine UK 7 λfk U=>?_;go_simp;refine cm (fZ.out w2 eN) ?_;rintro e aq ⟨⟨u,rfl,T⟩,D⟩;have eo:LX w aq:=eN.trans (D.mono eN.size);have hL:=hide (T.low (zalae _))
  have nW:=hide (p4.out.later D);obtain⟨lS,lT,rfl⟩:=T.form;refine U.out _ _ eo (λ_=>?_);clear fk U;refine UK 9 λfk U=>?_;go_simp;refine cm (jK.out aq eo) ?_;rintro e bh ⟨⟨u,rfl,T⟩,D⟩;have fe:LX w bh:=eo.trans (D.mono eo.size);have w3:=hide (T.low (zalae _));have sI:=hide (hL.out.later D);have kQ:=hide (nW.out.later D);obtain⟨qQ,qR,rfl⟩:=T.form;refine U.out _ _ fe (λ_=>?_);clear fk U;refine UK 10 λfk U=>?_;go_simp
  have ec:LX bh (bh.alloc (.cells #[.slice lY K.length lZ,.slice va V.length ck,.slice lS M.length lT,.slice qQ ah.length qR] 46)):=Qn;have dK:=fe.trans (ec.mono fe.size);refine U.out _ _ dK (λ_=>?_);clear fk U;have gS:=hide (Zy (I:=I) (B:=0) [.slice lY K.length lZ,.slice va V.length ck,.slice lS M.length lT,.slice qQ ah.length qR] [K,V,M,ah] (bh.alloc (.cells #[.slice lY K.length lZ,.slice va V.length ck,.slice lS M.length lT,.slice qQ ah.length qR] 46)) bh.heap.size rfl MP MP
   (λj aT=>by
    rw[Lib.cell_of_heap (LP _ _)]
    match j,aT with
    | 0,_=>rfl
    | 1,_=>rfl
    | 2,_=>rfl
    | 3,_=>rfl)
   (λj aT hi=>by
    match j,aT,hi with
    | 0,_,_=>exact sW.out.later dK
    | 1,_,_=>exact kQ.out.later ec
    | 2,_,_=>exact sI.out.later ec
    | 3,_,_=>exact w3.out.later ec) hsum 4 rfl)
  rw[<-cy.out] at gS;refine UK 11 λfk U=>?_;go_simp;refine cm gS.out ?_;rintro e cM ⟨⟨u,rfl,T⟩,D⟩;have gb:=dK.trans (D.mono dK.size);have kM:=hide (T.low dK.size);obtain⟨uj,wo,rfl⟩:=T.form;refine U.out _ _ gb (λ_=>?_);clear fk U;refine wh 12 (.slice uj X.length wo) gb ?_;refine wpAnyH_done Nw ?_ _;go_simp;have jy:=hide gb;go_wp2;go_ret;exact⟨⟨_,rfl,kM.out⟩,jy.out⟩):=LG h;exact awK
def ah5 {I:Nat->Prop}{a:Ad}{w:LK}(aH:MZ I w a)(an:MF a.tr=true->∃ x y ks,a.ks=x::y::ks)(am:a.cnt<=20000) :
  MC 131 #[LC a.p] w λe w'=>(∃ v,e=MN v/\Rl I w.heap.size w' v (Nk a))/\LX w w':=by
 obtain⟨aW,_,_⟩:=a.NC;unfold Nk
 by_cases E:a.kd=1
 ·rw[zalak E];exact ah1 aH E am
 ·rw[zalah E]
  by_cases bw:a.kd=5\/a.kd=37
  ·rw[zalak bw];obtain⟨x,y,ks,N⟩:=an (by unfold MF;rw[aW];rcases bw with h|h <;> rw[h] <;> rfl)
   rw[N];exact ah4 aH bw N am
  ·rw[zalah bw]
   by_cases h6:a.kd=6
   ·rw[zalak h6];exact ah2 aH h6 am
   ·rw[zalah h6]
    by_cases ei:a.kd=13
    ·rw[zalak ei];exact afk aH ei
    ·rw[zalah ei];exact ah3 aH E (λh=>bw (zalad h)) (λh=>bw (zalal h)) h6 ei
def aay {B:Nat}(ts:List Tr)(q v:LY)(w:LK)(ac:q=Pe\/∃ p,q=LC p)(h:U5 B w v ts)(ab:ts.length<=90000) :
  MC 76 #[.agg #[q,v]] w λe w'=>(∃ u,e=MN u/\Na w.heap.size w' u (NI (ts.map Tr.tx)))/\LX w w':=by
 have A{G}(h:G:=by
 have fJ:LX w (w.alloc (.cells #[q,.slice va ts.length ck] 119)):=Qn;have gC:=hide fJ
 rcases ac with rfl|⟨p,rfl⟩
 all_goals
  go_enter func76,ntmps76;go_wp2_with fail
  go_loopw [3,9] (λo i wr=>∃ k:Nat,k<=ts.length/\i=LJ k/\Na w.heap.size wr o (NI ((ts.take k).map Tr.tx))/\LX w wr) (λ_ i _=>ts.length - (intOf i).toNat)
  case atStart=>exact⟨0,zalae _,rfl,Ql _ _,gC.out⟩
  case round=>
   obtain⟨k,N,rfl,hown,hbel⟩:=hrel;have HOWN:=hide hown;have cZ:=hide hbel;obtain⟨aQ,cc,rfl⟩:=LZ hown
   by_cases aC:k<ts.length
   ·obtain⟨g,cap,q,a0,hg,am,av⟩:=(bo.out.later cZ.out).cell k aC;simp only[zalcb] at a0;obtain⟨rfl,_,rfl⟩:=a0;obtain⟨eZ,_,c1,_⟩:=av.cells;have eY:(k:Int)<(ts.length:Int):=LM;obtain⟨x,af⟩:∃ x,x=(ts[k]).tx:=⟨_,rfl⟩;rw[<-af] at c1;have cy:=hide af;have bK:=cZ.out.size;have qD:k<(ts.map Tr.tx).length:=by simpa using aC
    have yR:=acF (ts.map Tr.tx) k qD;rw[<-zaldl,<-zaldl,zalcx] at yR;have sL:=hide yR;have m6:=Qs ((ts.take k).map Tr.tx);rw[zalag,zalbe] at m6;obtain⟨ah,bm⟩:∃ ah,ah=NI ((ts.take k).map Tr.tx):=⟨_,rfl⟩;rw[<-bm] at m6;have cQ:=hide bm;have l':Hid (Na w.heap.size wr (.slice aQ ah.length cc) ah):=by
     have h:=Lu HOWN;rw[<-bm] at h;exact h
    rw[<-bm];have Gz:ah.length<=k:=LM;have ag:=hide (Tn ah x _ wr l'.out LM);clear af bm m6 yR
    cases a2:hasB ah x with
    | true=>
     rw[a2] at ag;have fh:=hide a2;clear a2;go_wp2_with fail;refine cm ag.out ?_;rintro e w2 ⟨rfl,rfl⟩;go_wp2
     go_roundw
     case rel=>
      refine⟨k+1,by omega,by go_num,?_,cZ.out⟩;rw[sL.out,<-cQ.out,<-cy.out,OD,zalak fh.out];exact Lu l'
     case measure=>simp[intOf];omega
    | false=>
     rw[a2] at ag;have fh:=hide a2;clear a2;go_wp2_with fail;refine cm ag.out ?_;rintro e w2 ⟨rfl,rfl⟩
     go_wp2_with (at_builtin;refine wpList_append_lies _ rfl _ _ 38 rfl w.heap.size 9 a6 (LQ ByteArray.empty) 1 16 zalde b4 bL bM bP rfl MK _ _ _ rfl (l'.out.alloc _) (LD w2.heap.size 0) 1 1 [LQ x] rfl rfl (Vy w2 x _ rfl) (YS x) MK (by unfold maxLen;omega) LM OM (w2.heap.size+1) MP ?_)
     intro dJ cap' aq hown' hgrow fX _;have bV:=hide ((cZ.out.alloc bK (.cells #[LQ x] 9)).grown hgrow OM (λb D=>(Me l'.out b D).2));have h2:=hide hown';clear fX;go_wp2
     go_roundw
     case rel=>
      refine⟨k+1,by omega,by go_num,?_,bV.out⟩;rw[sL.out,<-cQ.out,<-cy.out,OD,zalah (by rw[fh.out];decide)]
      have h:=Lu h2
      show World.ownsRow _ _ _ _ _ _ _
      rw[zalab,zalam];exact h
     case measure=>simp[intOf];omega
   ·have cA:k=ts.length:=LM;subst cA;rw[zalaq] at HOWN ⊢;go_wp2;go_ret;exact⟨⟨_,rfl,HOWN.out⟩,cZ.out⟩):=LG h;exact asK
abbrev OSt:=Nat × Option Nat × List (Nat × Ad)
def Zb:Option Nat->LY
 | none=>.pointer none
 | some p=>LC p
def OE (b:Option Nat)(a:Ad):Option Nat:=if MF a.tr then (match a.ks with|_::y::_=>some y.p|_=>b) else b
def keepA (b:Option Nat)(a:Ad):Bool:=!(b==some a.p)&&decide (0<(declT a.tr).length)
def osF (s:OSt)(a:Ad):OSt × Bool:=((s.1+1,OE s.2.1 a,if keepA (OE s.2.1 a) a then s.2.2++[(s.1,a)] else s.2.2),true)
structure Sk (fm cw:Nat)(w w':LK):Prop where
 os:w'.os=w.os
 tape:w'.tape=w.tape
 output:w'.output=w.output
 size:w.heap.size<=w'.heap.size
 block:∀ k,k<w.heap.size->k≠fm->k≠cw->w'.heap[k]? = w.heap[k]?
def Sk.trans {fm cw:Nat}{a b c:LK}(h:Sk fm cw a b)(k:Sk fm cw b c):Sk fm cw a c:=
 ⟨k.os.trans h.os,k.tape.trans h.tape,k.output.trans h.output,zalan h.size k.size,λx af E O=>(k.block x (zalau af h.size) E O).trans (h.block x af E O)⟩
def Sk.of {fm cw:Nat}{w w':LK}(h:LX w w'):Sk fm cw w w':=⟨h.os,h.tape,h.output,h.size,λk N _ _=>h.block k N⟩
section
variable (fm cw:Nat) (w:LK)
include fm cw w
def Sk.refl:Sk fm cw w w:=Sk.of O4
def Sk.body (v:LY):Sk fm cw w (w.setCell (LD cw 0) v):=⟨rfl,rfl,rfl,by simp[World.setCell],λk _ _ h=>zalap w (LD cw 0) v k h⟩
def Sk.map (o:Obj):Sk fm cw w (NS w fm o):=⟨rfl,rfl,rfl,by rw[Td];exact Nh,λk _ h _=>OH h⟩
end
structure Fix (I:Nat->Prop)(B aI aw fm aZ cw:Nat)(aK:List Nat):Prop where
 lts:aI<B/\aw<B/\fm<B/\aZ<B/\cw<B
 nes:aI≠fm/\aI≠cw/\aw≠fm/\aw≠cw/\aZ≠fm/\aZ≠cw/\fm≠cw
 own:∀ b,I b->b<B/\b≠fm/\b≠cw
 all:∀ p ∈ aK,I p
 nd:aK.Nodup
def PE.sk {I:Nat->Prop}{B aI aw fm aZ cw:Nat}{aK:List Nat}{w w':LK}{v:LY}{ts:List Tr}(h:PE I B w v ts)(ai:Fix I B aI aw fm aZ cw aK)(W:Sk fm cw w w'):PE I B w' v ts:=by
 obtain⟨ps,E,O⟩:=h;have ab:=ai.lts;exact⟨ps,L8 (I:=λg=>B<=g) (λk N aC=>W.block k aC LM LM) (λg hg=>(Me E g hg).2) E,QK.later (λk N aC=>W.block k aC (ai.own k N).2.1 (ai.own k N).2.2) _ _ O⟩
def WE (I:Nat->Prop)(B:Nat)(w:LK)(ah:List (Nat × Ad))(al:List (Int × LY)):Prop:=
 al.length=ah.length/\∀ j (E:j<ah.length) (O:j<al.length),(al[j]).1=((ah[j]).1:Int)/\∃ v,(al[j]).2=.agg #[LC (ah[j]).2.p,v]/\PE I B w v (declT (ah[j]).2.tr)
def WE.sk {I:Nat->Prop}{B aI aw fm aZ cw:Nat}{aK:List Nat}{w w':LK}{ah:List (Nat × Ad)}{al:List (Int × LY)}(h:WE I B w ah al)(ai:Fix I B aI aw fm aZ cw aK)(W:Sk fm cw w w'):WE I B w' ah al:=by
 refine⟨h.1,λj E O=>?_⟩;obtain⟨a9,v,bD,b8⟩:=h.2 j E O;exact⟨a9,v,bD,b8.sk ai W⟩
section
variable {I:Nat->Prop} {B:Nat} {w:LK} {ah:List (Nat × Ad)} {al:List (Int × LY)} (h:WE I B w ah al) (i:Nat)
include I B w ah al h i
def WE.snoc (a:Ad)(v:LY)(a0:PE I B w v (declT a.tr)):WE I B w (ah++[(i,a)]) (al++[((i:Int),.agg #[LC a.p,v])]):=aD6
def WE.new (ak:∀ e ∈ ah,e.1<i):al.find? (λe=>decide ((i:Int)=e.1))=none:=ayB
end
structure OW (I:Nat->Prop)(B aI aw fm aZ cw:Nat)(aK:List Nat)(s:OSt)(w:LK):Prop where
 word:w.heap[aI]? = some (NK #[.map (some aw)] 44)
 nums:w.heap[aw]? = some (.map (N7 (Ro aK)) aK.length)
 cls:∀ p ∈ aK,Cl w p
 aiu:w.heap[aZ]? = some (NK #[.map (some fm)] 121)
 fmap:∃ al,w.heap[fm]? = some (.map (U6 al) al.length)/\WE I B w s.2.2 al
 ab2:w.heap[cw]? = some (NK #[Zb s.2.1] 22)
 sz:B<=w.heap.size
 lt:∀ e ∈ s.2.2,e.1<s.1
def OW.next {I:Nat->Prop}{B aI aw fm aZ cw:Nat}{aK:List Nat}{i t4:Nat}{b eJ:Option Nat}{ah ij:List (Nat × Ad)}{w w':LK}(h:OW I B aI aw fm aZ cw aK (i,b,ah) w)(ai:Fix I B aI aw fm aZ cw aK)(W:Sk fm cw w w')
  (m2:∃ al,w'.heap[fm]? = some (.map (U6 al) al.length)/\WE I B w' ij al) (dT:w'.heap[cw]? = some (NK #[Zb eJ] 22)) (aC:∀ e ∈ ij,e.1<t4):OW I B aI aw fm aZ cw aK (t4,eJ,ij) w':=aEb
def Xb {t:Ad}(h:t.tr.ill=0)(N:MF t.tr=true):∃ x y ks,t.ks=x::y::ks:=by
 have E:=(adF t.tr h).1;obtain⟨aW,_,bO⟩:=t.NC;have O:need t.tr.kd=2:=by
  unfold MF at N;rw[zaldh,zalbz,zalbz] at N
  rcases N with h|h <;> rw[h] <;> rfl
 rw[O,bO,zalag] at E
 match qC:t.ks with
 | x::y::ks=>exact⟨x,y,ks,rfl⟩
 | [x]=>rw[qC] at E;simp at E
 | []=>rw[qC] at E;simp at E
def aqO {L:LK}{p:Nat}{b:Option Nat}(ae:Cl L p)(D:∀ q,b=some q->Cl L q):(binOp .neq 22 (LC p) (Zb b)).run prog L=.ok (L9 (!(b==some p))) L:=by
 cases b with
 | none=>kernel_rfl
 | some q=>
  have E:=adD ae (D q rfl);have O:(!(some q==some p)) = !decide (p=q):=by
   by_cases h:p=q
   ·subst h;simp
   ·have cH:q≠p:=λe=>h e.symm;simp[h,cH]
  show (binOp .neq 22 (LC p) (LC q)).run prog L=_
  rw[O];simp only[binOp];simp[E]
def agu {I:Nat->Prop}{B aI aw fm aZ cw:Nat}{aK aL post:List Nat}{i:Nat}{b:Option Nat}{ah:List (Nat × Ad)}{a:Ad}{w:LK}(ai:Fix I B aI aw fm aZ cw aK)(eS:OW I B aI aw fm aZ cw aK (i,b,ah) w)(aH:MZ I w a)(bv:aK=aL++(a.p::post))(ak:aL.length=i)(o7:a.tr.ill=0)(am:a.cnt<=20000)(fJ:∀ q,OE b a=some q->q ∈ aK) :
  MC 129 #[LC a.p,Mc cw 0,Mc aZ 0,Mc aI 0] w λe w'=>e=MN (L9 true)/\OW I B aI aw fm aZ cw aK (osF (i,b,ah) a).1 w'/\Sk fm cw w w':=by
 have A{G}(h:G:=by
 have tu:OW I B aI aw fm aZ cw aK (i,OE b a,ah) w1:=ayP
 have mw:MZ I w1 a:=MZ.later (λk N ab=>qM.block k ab (ai.own k N).2.1 (ai.own k N).2.2) _ aH;have f2:=hide (akB mw (Xb o7) am)
 -- behind 'aiA
 have key:∀ (w2:LK) (v:LY),PE I w1.heap.size w2 v (declT a.tr)->LX w1 w2->OW I B aI aw fm aZ cw aK (i,OE b a,ah) w2/\PE I B w2 v (declT a.tr)/\Sk fm cw w w2:=ayt
 have A{G}(h:G:=by
 cases iq:MF a.tr with
 | false=>
  rw[iq] at c9 jv;simp only[zalct,zalfg] at c9;subst c9;clear iq;exact aDE
 | true=>
  have A{G}(h:G:=by
  clear r6 o3 c9;exact aDE):=LG h;exact aAx):=LG h;exact aAy):=LG h;exact aAD
def aoo:TM 129:=λ_ _=>by kernel_rfl
def OP (aK:List Nat)(s:OSt)(ts:List Ad):Prop:=(∃ aL,aK=aL++Ad.Nv ts/\aL.length=s.1)/\(∀ x ∈ ts,x.tr.ill=0/\x.cnt<=20000)/\∀ q,s.2.1=some q->q ∈ aK
def agv {y:Ad}:∀ {al:List Ad},y ∈ al->y.p ∈ Ad.Nv al
 | [],h=>by cases h
 | e::al,h=>by
  rw[Ad.Nv]
  rcases zalas.1 h with rfl|h
  ·rw[P9];simp
  ·exact zaldi _ (agv h)
section
variable {aK:List Nat} {s:OSt} {a:Ad} {ts:List Ad} (h:OP aK s (a::ts))
include aK s a ts h
def OP.body:∀ q,OE s.2.1 a=some q->q ∈ aK:=by
 intro q ac;obtain⟨⟨aL,bv,_⟩,_,D⟩:=h;unfold OE at ac
 split at ac
 ·split at ac
  ·rename_i x y ks bd
   have e:y.p=q:=by simpa using ac
   rw[bv,Ad.Nv,P9,<-e];exact zaldi _ (zaldc _ (zalca _ (agv (by rw[bd];simp))))
  ·exact D q ac
 ·exact D q ac
def OP.step:OP aK (osF s a).1 ((if (osF s a).2 then a.ks else [])++ts):=by
 have D:=h.body;obtain⟨⟨aL,bv,ab⟩,af,_⟩:=h;have e:(if (osF s a).2 then a.ks else [])=a.ks:=rfl;rw[e];refine⟨⟨aL++[a.p],?_,by simp[osF,ab]⟩,λx m8=>?_,D⟩
 ·rw[bv,Ad.Nv,P9,Vu];simp
 ·rcases zalat.1 m8 with E|E
  ·obtain⟨O,ao⟩:=af a MP;refine⟨Ot O x E,?_⟩;have aM:=OA a;have bw:x.cnt<=Ad.cnts a.ks:=by
    have key:∀ al:List Ad,x ∈ al->x.cnt<=Ad.cnts al:=ayS
    exact key _ E
   omega
  ·exact af x (by simp[E])
end
mutual
def abd {I:Nat->Prop}{w:LK}:∀ {a:Ad},MZ I w a->∀ p ∈ a.N9,I p/\Cl w p
 | .mk q kd tx n ks,h=>by
  have ac:=h.cl;rw[MZ] at h;rw[Ad.N9];intro p ae
  rcases zalas.1 ae with rfl|ae
  ·exact⟨h.2.1,ac⟩
  ·exact ac5 h.2.2.2 p ae
def ac5 {I:Nat->Prop}{w:LK}:∀ {al:List Ad},OU I w al->∀ p ∈ Ad.Nv al,I p/\Cl w p
 | [],_=>by rw[Ad.Nv];intro p ae;cases ae
 | a::al,h=>by
  rw[OU] at h;rw[Ad.Nv];intro p ae
  rcases zalat.1 ae with ae|ae
  ·exact abd h.1 p ae
  ·exact ac5 h.2 p ae
end
def Q5 (t:Ad):List (Nat × Ad):=(wk osF (0,none,[]) t).2.2
def aiB {I:Nat->Prop}(t:Ad)(w:LK)(aH:MZ I w t)(aD:t.N9.Nodup)(ak:t.tr.ill=0)(am:t.cnt<=20000) :
  MC 75 #[LC t.p] w λe w'=>(∃ fm al,e=MN (.map (some fm))/\w'.heap[fm]? = some (.map (U6 al) al.length)/\WE (λb=>b<w.heap.size) 0 w' (Q5 t) al)/\LX w w':=by
 have b3:=hide (X6 t w aH aD LM);have key:∀ (w1:LK) (aw:Nat),w.heap.size<=aw->LX w w1->w1.heap[aw]? = some (.map (N7 (Ro t.N9)) t.N9.length) ->
   MC 31 #[LC t.p,.func (.func 129) #[] #[Mc (w1.heap.size+3) 0,Mc (w1.heap.size+2) 0,Mc w1.heap.size 0]] ((((w1.alloc (.cells #[.map (some aw)] 44)).alloc (.map #[] 0)).alloc (.cells #[.map (some (w1.heap.size+1))] 121)).alloc (.cells #[Pe] 22))
    λe w'=>e=MN (.tuple #[])/\w'.heap[w1.heap.size+2]? = some (NK #[.map (some (w1.heap.size+1))] 121)/\(∃ al,w'.heap[w1.heap.size+1]? = some (.map (U6 al) al.length)/\WE (λb=>b<w.heap.size) 0 w' (Q5 t) al)/\LX w w':=by
  intro w1 aw lJ bz iR;obtain⟨w2,bW⟩:∃ w2,w2=(((w1.alloc (.cells #[.map (some aw)] 44)).alloc (.map #[] 0)).alloc (.cells #[.map (some (w1.heap.size+1))] 121)).alloc (.cells #[Pe] 22):=⟨_,rfl⟩;rw[<-bW];have a5:LX w1 w2:=by
   rw[bW];exact((Qn.alloc MP _).alloc (by simp <;> omega) _).alloc (by simp <;> omega) _
  have dV:w2.heap.size=w1.heap.size+4:=by rw[bW];simp
  have iw:=lt_of_heap iR;have aJ:w2.heap[w1.heap.size]? = some (NK #[.map (some aw)] 44):=by
   rw[bW,zalaa _ _ _ (by simp <;> omega),zalaa _ _ _ (by simp <;> omega),zalaa _ _ _ MP];exact LP _ _
  have E:w2.heap[w1.heap.size+1]? = some (.map #[] 0):=by
   rw[bW,zalaa _ _ _ (by simp <;> omega),zalaa _ _ _ MP];have:=LP (w1.alloc (.cells #[.map (some aw)] 44)) (.map #[] 0);simpa using this
  have O:w2.heap[w1.heap.size+2]? = some (NK #[.map (some (w1.heap.size+1))] 121):=by
   rw[bW,zalaa _ _ _ MP];have:=LP ((w1.alloc (.cells #[.map (some aw)] 44)).alloc (.map #[] 0)) (.cells #[.map (some (w1.heap.size+1))] 121);simpa using this
  have ao:w2.heap[w1.heap.size+3]? = some (NK #[Pe] 22):=by
   rw[bW];have:=LP (((w1.alloc (.cells #[.map (some aw)] 44)).alloc (.map #[] 0)).alloc (.cells #[.map (some (w1.heap.size+1))] 121)) (.cells #[Pe] 22);simpa using this
  have kX:LX w w2:=bz.trans (a5.mono bz.size);have gZ:MZ (λb=>b<w.heap.size) w2 t:=MZ.later (λb D _=>kX.block b D) _ (MZ.mono (λb _ ab=>ab) _ aH);have hall:=abd gZ;have ai:Fix (λb=>b<w.heap.size) (w1.heap.size+4) w1.heap.size aw (w1.heap.size+1) (w1.heap.size+2) (w1.heap.size+3) t.N9:=
   ⟨by omega,by omega,λb D=>by have:=bz.size;have h:b<w.heap.size:=D;omega,λp ae=>(hall p ae).1,aD⟩
  have eS:OW (λb=>b<w.heap.size) (w1.heap.size+4) w1.heap.size aw (w1.heap.size+1) (w1.heap.size+2) (w1.heap.size+3) t.N9 (0,none,[]) w2:=
   ⟨aJ,by rw[a5.block aw iw];exact iR,λp ae=>(hall p ae).2,O,⟨[],E,rfl,λj aT=>by cases aT⟩,ao,by omega,λe he=>by cases he⟩
  have ag:=aop 129 (Mc (w1.heap.size+3) 0) (Mc (w1.heap.size+2) 0) (Mc w1.heap.size 0) (λb=>b<w.heap.size) (Sk (w1.heap.size+1) (w1.heap.size+3))
   (OW (λb=>b<w.heap.size) (w1.heap.size+4) w1.heap.size aw (w1.heap.size+1) (w1.heap.size+2) (w1.heap.size+3) t.N9) osF (OP t.N9) aoo (λL=>by kernel_rfl)
   (λ_ _ _ h k=>h.trans k) (λw' nh h=>⟨λb D ab=>h.block b ab (by have:=(ai.own b D);omega) (by have:=(ai.own b D);omega),h.size⟩)
   (λs a ts h=>h.step)
   (λs a ts w' h cz bv=>by
    have eO:=h.body;obtain⟨⟨aL,ae,ab⟩,af,_⟩:=h;obtain⟨i,b,ah⟩:=s;rw[Ad.Nv,P9 a] at ae;exact agu (post:=Ad.Nv a.ks++Ad.Nv ts) ai cz bv (by rw[ae];simp) ab (af a MP).1 (af a MP).2 eO)
   t.cnt t Nh LM [] (0,none,[]) w2 ⟨⟨[],by rw[Ad.Nv,Ad.Nv];simp,rfl⟩,λx af=>by rw[zalaf.1 af];exact⟨ak,am⟩,λq ac=>by cases ac⟩ eS gZ
  refine ag.mono ?_;rintro e aq ⟨rfl,ql,_,g5⟩;obtain⟨al,aW,a4⟩:=ql.fmap;refine⟨rfl,ql.aiu,⟨al,aW,a4.1,λj E O=>?_⟩,⟨g5.os.trans kX.os,g5.tape.trans kX.tape,g5.output.trans kX.output,zalan kX.size g5.size,λk N=>?_⟩⟩
  ·obtain⟨a9,v,bD,b8⟩:=a4.2 j E O;exact⟨a9,v,bD,b8.low (zalae _)⟩
  ·have aM:=bz.size;exact(g5.block k LM LM LM).trans (kX.block k N)
 exact aD1
def Vb (t:Ad)(at':Int):Option (Nat × Ad):=(Q5 t).find? (λe=>decide (at'=(e.1:Int)))
def W9 (t:Ad)(at':Int):List LW:=match Vb t at' with|some x=>NI ((declT x.2.tr).map Tr.tx)|none=>[]
def WE.find {I:Nat->Prop}{B:Nat}{w:LK}{ah:List (Nat × Ad)}{al:List (Int × LY)}(h:WE I B w ah al)(k:Int) :
  (ah.find? (λe=>decide (k=(e.1:Int)))=none/\al.find? (λe=>decide (k=e.1))=none)\/∃ x y v,ah.find? (λe=>decide (k=(e.1:Int)))=some x/\al.find? (λe=>decide (k=e.1))=some y/\y.2=.agg #[LC x.2.p,v]/\PE I B w v (declT x.2.tr):=by
 induction ah generalizing al with
 | nil=>
  have:al=[]:=zalbr.1 h.1;subst this;exact zalad ⟨rfl,rfl⟩
 | cons x ah aU=>
  match al,h with
  | [],h=>exact absurd h.1 MP
  | y::al,h=>
   have aJ:=h.2 0 MP MP;simp only[zaldn] at aJ;have aH:WE I B w ah al:=⟨by have:=h.1;simpa using this,λj E O=>by
    have:=h.2 (j+1) (by simpa using E) (by simpa using O);simpa using this⟩
   exact aD4
def ajz (L:LK):(zeroValue 119).run prog L=.ok (.agg #[Pe,QJ]) L:=by kernel_rfl
mutual
def Ad.all:Ad->List Ad
 | .mk p kd tx n ks=>.mk p kd tx n ks::Ad.PN ks
def Ad.PN:List Ad->List Ad
 | []=>[]
 | a::al=>a.all++Ad.PN al
end
def all_eq (a:Ad):a.all=a::Ad.PN a.ks:=by cases a with|mk p kd tx n ks=>rw[Ad.all];rfl
def agw:∀ a b:List Ad,Ad.PN (a++b)=Ad.PN a++Ad.PN b
 | [],b=>by rw[Ad.PN];rfl
 | x::a,b=>by rw[zalcq,Ad.PN,Ad.PN,agw a b,zalax]
mutual
def SE:∀ a:Ad,a.all.map Ad.p=a.N9
 | .mk p kd tx n ks=>by rw[Ad.all,Ad.N9,zalbb,agx ks];rfl
def agx:∀ al:List Ad,(Ad.PN al).map Ad.p=Ad.Nv al
 | []=>by rw[Ad.PN,Ad.Nv];rfl
 | a::al=>by rw[Ad.PN,Ad.Nv,zalam,SE a,agx al]
end
def VQ (a:Ad):a.all.length=a.N9.length:=by rw[<-SE a,zalag]
def VY {P:Ad->Prop}(fT:∀ a,P a->∀ k ∈ a.ks,P k):∀ (n:Nat) (a:Ad),a.cnt<=n->P a->∀ x ∈ a.all,P x:=by
 intro n
 induction n with
 | zero=>intro a aa;have:=Ud a;omega
 | succ n aU=>
  intro a aa h x af;rw[all_eq] at af
  rcases zalas.1 af with rfl|af
  ·exact h
  ·have hcnt:=OA a;have key:∀ al:List Ad,Ad.cnts al<=n->(∀ k ∈ al,P k)->x ∈ Ad.PN al->P x:=by
    intro al
    induction al with
    | nil=>intro _ _ a2;rw[Ad.PN] at a2;cases a2
    | cons e al H'=>
     intro E O ao;rw[Ad.PN] at ao;rw[Ad.cnts] at E
     rcases zalat.1 ao with aM|aM
     ·exact aU e LM (O e MP) x aM
     ·exact H' LM (λk N=>O k (by simp[N])) aM
   exact key a.ks LM (fT a h) af
def Tv {I:Nat->Prop}{w:LK}{a:Ad}(h:MZ I w a):∀ x ∈ a.all,MZ I w x:=VY (P:=λx=>MZ I w x) (λ_ h=>h.parts) a.cnt a Nh h
def arA {a:Ad}(h:a.tr.ill=0):∀ x ∈ a.all,x.tr.ill=0:=VY (P:=λx=>x.tr.ill=0) (λ_ h=>Ot h) a.cnt a Nh h
def Zl {x:Ad}:∀ {al:List Ad},x ∈ al->x.cnt<=Ad.cnts al
 | [],h=>by cases h
 | e::al,h=>by
  rw[Ad.cnts]
  rcases zalas.1 h with rfl|h
  ·omega
  ·have:=Zl h;omega
def TI {aR:Nat}{a:Ad}(h:a.cnt<=aR):∀ x ∈ a.all,x.cnt<=aR:=VY (P:=λx=>x.cnt<=aR) (λb D k N=>by have E:=Zl N;have O:=OA b;omega) a.cnt a Nh h
def Qi (a:Ad)(p:Nat):Bool:=MF a.tr&&(match a.ks with|_::y::_=>decide (y.p=p)|_=>false)
def U9 (ah:List Ad)(x:Ad):List LW:=if x.kd=6/\ah.any (λy=>Qi y x.p)=true then [] else NI ((declT x.tr).map Tr.tx)
def QY (t:Ad)(at':Int):List LW:=if h:0<=at'/\at'.toNat<t.all.length then U9 t.all (t.all[at'.toNat]'h.2) else []
def aEq (ah:List Ad)(x:Ad)(h:x.kd=1):U9 ah x=NI ((O0 x.tr).map Tr.tx):=by
 have e:=x.NC.1;unfold U9 declT;rw[e,h,zalah (by intro a2;exact absurd a2.1 MK),zalak rfl]
def abe (a b:List LW):NI (a++b)=b.foldl OD (NI a):=by rw[NI,zalby];rfl
def ab9 (a b:List LW):NI (NI a++b)=NI (a++b):=by rw[abe,abe,ac6]
def arB {t:Tr}(h:MF t=false)(O:t.kd≠2):(vn t).map Tr.tx=WO t.kids:=by
 rw[asj,zalah (by simpa using O),h,zalbq];exact ahW _
def aEr (ah:List Ad)(x y z:Ad)(ks:List Ad)(h:MF x.tr=true)(N:x.ks=y::z::ks)(b5:z.kd=6):U9 ah x=(namesT z.tr true).foldl OD (NI (y.tr.kids.map Tr.tx)):=by
 obtain⟨e,_,bO⟩:=x.NC;have Bx:=z.NC.1;have fD:x.kd=5\/x.kd=37:=by
  unfold MF at h;rw[e,zaldh,zalbz,zalbz] at h;exact h
 have E:x.kd≠1:=by rcases fD with h|h <;> rw[h] <;> decide
 have h6:x.kd≠6:=by rcases fD with h|h <;> rw[h] <;> decide
 unfold U9 declT;rw[e,zalah (by intro a2;exact h6 a2.1),zalah E,zalak fD,bO,N]
 simp only[zalbb];have a0:(vn z.tr).map Tr.tx=WO z.tr.kids:=arB (by unfold MF;rw[Bx,b5];rfl) (by rw[Bx,b5];decide)
 have fA:([y.tr.kids,vn z.tr,Tj z.tr,O0 z.tr].flatten).map Tr.tx=y.tr.kids.map Tr.tx++(WO z.tr.kids++((Tj z.tr).map Tr.tx++(O0 z.tr).map Tr.tx)):=by simp[a0]
 have hb:namesT z.tr true=NI (WO z.tr.kids++((Tj z.tr).map Tr.tx++(O0 z.tr).map Tr.tx)):=by
  unfold namesT RV;rw[zalak rfl,zalax,ab9]
 rw[fA,abe,hb,Zd]
section
variable (ah:List Ad) (x:Ad)
include ah x
def aEs (h:x.kd=6):U9 ah x=if ah.any (λy=>Qi y x.p)=true then [] else namesT x.tr false:=by
 have e:=x.NC.1;unfold U9 declT;rw[e,h]
 by_cases D:ah.any (λy=>Qi y x.p)=true
 ·rw[zalak ⟨rfl,D⟩,zalak D]
 ·rw[zalah (λa2=>D a2.2),zalah D,zalah MK,zalah MK,zalak rfl];unfold namesT;simp
def avE (h:x.kd=13):U9 ah x=[x.tx]:=by
 obtain⟨e,a4,_⟩:=x.NC;unfold U9 declT;rw[e,h,zalah (by intro a2;exact absurd a2.1 MK),zalah MK,zalah MK,zalah MK,zalak rfl]
 simp[NI,OD,hasB,a4]
def aEt (E:x.kd≠1)(an:MF x.tr=false)(h6:x.kd≠6)(ei:x.kd≠13):U9 ah x=[]:=by
 obtain⟨e,_,_⟩:=x.NC;have fD:¬ (x.kd=5\/x.kd=37):=by
  unfold MF at an;rw[e] at an;intro h
  rcases h with h|h <;> rw[h] at an <;> cases an
 unfold U9 declT;rw[e,zalah (by intro a2;exact h6 a2.1),zalah E,zalah fD,zalah h6,zalah ei]
 rfl
end
mutual
def Ad.ren (S:List Nat)(o:LW):Ad->Ad
 | .mk p kd tx n ks=>.mk p kd (if p ∈ S then o else tx) n (Ad.TK S o ks)
def Ad.TK (S:List Nat)(o:LW):List Ad->List Ad
 | []=>[]
 | a::al=>a.ren S o::Ad.TK S o al
end
def ag2 (S:List Nat)(o:LW)(a:Ad):(a.ren S o).p=a.p:=by cases a;rw[Ad.ren];rfl
def ai0 (S:List Nat)(o:LW):∀ al:List Ad,(Ad.TK S o al).map Ad.p=al.map Ad.p
 | []=>by rw[Ad.TK]
 | a::al=>by rw[Ad.TK,zalbb,zalbb,ag2,ai0 S o al]
mutual
def arU (o:LW):∀ a:Ad,a.ren [] o=a
 | .mk p kd tx n ks=>by rw[Ad.ren,ag3 o ks];simp
def ag3 (o:LW):∀ al:List Ad,Ad.TK [] o al=al
 | []=>by rw[Ad.TK]
 | a::al=>by rw[Ad.TK,arU o a,ag3 o al]
end
mutual
def ajJ (S:List Nat)(o:LW):∀ a:Ad,(a.ren S o).cnt=a.cnt
 | .mk p kd tx n ks=>by rw[Ad.ren,Ad.cnt,Ad.cnt,ag4 S o ks]
def ag4 (S:List Nat)(o:LW):∀ al:List Ad,Ad.cnts (Ad.TK S o al)=Ad.cnts al
 | []=>by rw[Ad.TK]
 | a::al=>by rw[Ad.TK,Ad.cnts,Ad.cnts,ajJ S o a,ag4 S o al]
end
structure Rj (S:List Nat)(o:LW)(w w':LK):Prop where
 os:w'.os=w.os
 tape:w'.tape=w.tape
 output:w'.output=w.output
 size:w.heap.size<=w'.heap.size
 other:∀ b,b<w.heap.size->b ∉ S->w'.heap[b]? = w.heap[b]?
 node:∀ b ∈ S,∀ kd tx n v,w.heap[b]? = some (MB kd tx n v)->w'.heap[b]? = some (MB kd o n v)
 nodes:∀ b ∈ S,∃ kd tx n v,w.heap[b]? = some (MB kd tx n v)
def Rj.refl (o:LW)(w:LK):Rj [] o w w:=⟨rfl,rfl,rfl,Nh,λ_ _ _=>rfl,λ_ h=>(by cases h),λ_ h=>(by cases h)⟩
section
variable {S:List Nat} {o:LW}
include S o
def Rj.lt {w w':LK}(h:Rj S o w w'){b:Nat}(D:b ∈ S):b<w.heap.size:=by
 obtain⟨_,_,_,_,e⟩:=h.nodes b D;exact lt_of_heap e
def Rj.grow {w w' nh:LK}(h:Rj S o w w')(D:LX w' nh):Rj S o w nh:=
 ⟨D.os.trans h.os,D.tape.trans h.tape,D.output.trans h.output,zalan h.size D.size,λb ab eb=>(D.block b (zalau ab h.size)).trans (h.other b ab eb),
  λb eb kd tx n v e=>(D.block b (zalau (h.lt eb) h.size)).trans (h.node b eb kd tx n v e),h.nodes⟩
def Rj.drew {w w':LK}(h:Rj S o w w'):Rj S o w w'.drew:=⟨h.os,h.tape,h.output,h.size,h.other,h.node,h.nodes⟩
end
section
variable {S:List Nat} {o:LW} {w w':LK} (h:Rj S o w w') {p:Nat} {kd n:Int} {tx:LW} {v:LY} (ae:w.heap[p]? = some (MB kd tx n v))
include S o w w' h p kd n tx v ae
def Rj.now:w'.heap[p]? = some (MB kd (if p ∈ S then o else tx) n v):=by
 split
 ·rename_i W;exact h.node p W _ _ _ _ ae
 ·rename_i W;rw[h.other p (lt_of_heap ae) W];exact ae
def Rj.snoc:Rj (S++[p]) o w (w'.setCell (LD p 1) (LQ o)):=by
 have av:=h.now ae;have af:(w'.setCell (LD p 1) (LQ o)).heap[p]? = some (MB kd o n v):=heap_set (o:=1) av (LQ o);refine⟨h.os,h.tape,h.output,?_,λb ab D=>?_,λb D Ic Iz eV b0 hw=>?_,λb D=>?_⟩
 ·have:=h.size;simp[World.setCell];omega
 ·rw[zalat,zalaf] at D;rw[zalap w' (LD p 1) _ b (λe=>D (zalal e))];exact h.other b ab λaA=>D (zalad aA)
 ·by_cases e:b=p
  ·subst e;rw[ae] at hw;cases hw;exact af
  ·rw[zalap w' (LD p 1) _ b e];rw[zalat,zalaf] at D;exact h.node b (D.resolve_right e) _ _ _ _ hw
 ·rw[zalat,zalaf] at D
  rcases D with D|rfl
  ·exact h.nodes b D
  ·exact⟨_,_,_,_,ae⟩
end
def Rj.same {S cE:List Nat}{o:LW}{w w':LK}(h:Rj S o w w')(ce:∀ b,b ∈ cE↔b ∈ S):Rj cE o w w':=
 ⟨h.os,h.tape,h.output,h.size,λb ab D=>h.other b ab λaA=>D ((ce b).2 aA),λb D=>h.node b ((ce b).1 D),λb D=>h.nodes b ((ce b).1 D)⟩
def Rj.below {S:List Nat}{o:LW}{B:Nat}{w0 w w':LK}(h:Rj S o w w')(D:Below B w0 w)(bA:B<=w.heap.size)(eb:∀ b ∈ S,B<=b):Below B w0 w':=
 ⟨h.os.trans D.os,h.tape.trans D.tape,h.output.trans D.output,zalan D.size h.size,λk N=>(h.other k (zalau N bA) (λaA=>Nat.lt_irrefl _ (zalau N (eb k aA)))).trans (D.block k N)⟩
def Rj.row {S:List Nat}{o:LW}{w w':LK}(h:Rj S o w w'){B n:Nat}{v:LY}{bQ:List LY}(T:w.ownsRow B 22 1 v n bQ):w'.ownsRow B 22 1 v n bQ:=by
 refine⟨T.1,?_⟩
 rcases T.2 with av|⟨g,cap,cj,a0,D,hg,rest⟩
 ·exact zalad av
 ·refine zalal ⟨g,cap,cj,a0,D,?_,rest⟩;rw[h.other g (lt_of_heap hg) λaA=>?_]
  ·exact hg
  ·obtain⟨kd,tx,m,u,e⟩:=h.nodes g aA;rw[hg] at e;simp at e
def Rj.aES {I:Nat->Prop}{S:List Nat}{o:LW}{w w':LK}(h:Rj S o w w'){v:LY}{ps:List Nat}(T:ahQ I w v ps):ahQ I w' v ps:=⟨h.row T.1,T.2⟩
def aoM {p q:Nat}(h:LC p=LC q):p=q:=by simpa[LC] using h
def aoN {I J:Nat->Prop}{w:LK}{v:LY}{ps bf:List Nat}(h:ahQ I w v ps)(k:ahQ J w v bf):ps=bf:=by
 obtain⟨⟨_,E⟩,_⟩:=h;obtain⟨⟨_,a9⟩,_⟩:=k;have key:ps.map LC=bf.map LC:=by
  rcases E with ⟨rfl,av⟩|⟨g,cap,cj,rfl,_,hg,_,_,_,e⟩
  ·rcases a9 with ⟨_,kn⟩|⟨dJ,cap',cur',kv,_⟩
   ·rw[zalbr.1 av,zalbr.1 kn]
   ·
    cases kv
  ·rcases a9 with ⟨kv,_⟩|⟨dJ,cap',cur',kv,_,t6,_,_,_,ha⟩
   ·
    cases kv
   ·simp only[zalcb,zalbw,zalft] at kv;obtain⟨⟨rfl,_⟩,ab,rfl⟩:=kv;rw[hg] at t6;cases t6;rw[<-e,<-ha,ab]
 have hinj:∀ (l m:List Nat),l.map LC=m.map LC->l=m:=by
  intro l
  induction l with
  | nil=>intro m h;cases m with|nil=>rfl|cons _ _=>cases h
  | cons x l aU=>
   intro m h
   cases m with
   | nil=>cases h
   | cons y m=>
    rw[zalbb,zalbb,zalfh] at h;rw[aoM h.1,aU m h.2]
 exact hinj _ _ key
mutual
def Nj.ren {I J:Nat->Prop}{S:List Nat}{o:LW}{w w':LK}(h:Rj S o w w'):∀ a:Ad,Nj I w a.tr a.p->MZ J w a->Nj I w' (a.ren S o).tr a.p
 | .mk p kd tx n ks,av,aa=>by
  rw[MZ] at aa;obtain⟨_,_,⟨v,D,T⟩,N⟩:=aa;rw[Ad.tr] at av;rw[Ad.ren,Ad.tr];change Nj I w _ p at av;change Nj I w' _ p;rw[Nj] at av ⊢;obtain⟨ae,b0,ps,eG,CS,yF⟩:=av;rw[D] at eG
  cases eG
  have e:=aoN CS T;subst e;exact⟨ae,v,_,h.now D,h.aES CS,LU.ren h ks yF N⟩
def LU.ren {I J:Nat->Prop}{S:List Nat}{o:LW}{w w':LK}(h:Rj S o w w'):∀ al:List Ad,LU I w (Ad.U4 al) (al.map Ad.p)->OU J w al->LU I w' (Ad.U4 (Ad.TK S o al)) (al.map Ad.p)
 | [],av,_=>by rw[Ad.U4] at av;rw[Ad.TK,Ad.U4];rw[LU] at av ⊢;exact av
 | a::al,av,aa=>by
  rw[Ad.U4,zalbb] at av;rw[Ad.TK,Ad.U4,zalbb];rw[OU] at aa;rw[LU] at av ⊢;obtain⟨p,d8,M,e,E,O⟩:=av;rw[zalfh] at e;obtain⟨rfl,rfl⟩:=e;exact⟨a.p,al.map Ad.p,M,rfl,Nj.ren h a E aa.1,LU.ren h al O aa.2⟩
end
mutual
def MZ.ren {J:Nat->Prop}{S:List Nat}{o:LW}{w w':LK}(h:Rj S o w w'):∀ a:Ad,MZ J w a->MZ J w' (a.ren S o)
 | .mk p kd tx n ks,aa=>by
  have av:=Nj.ren h _ aa.nat aa;rw[MZ] at aa;obtain⟨_,ae,⟨v,D,T⟩,N⟩:=aa;rw[Ad.ren,Ad.tr] at av;rw[Ad.ren,MZ];exact⟨av,ae,⟨v,h.now D,by rw[ai0];exact h.aES T⟩,OU.ren h ks N⟩
def OU.ren {J:Nat->Prop}{S:List Nat}{o:LW}{w w':LK}(h:Rj S o w w'):∀ al:List Ad,OU J w al->OU J w' (Ad.TK S o al)
 | [],_=>by rw[Ad.TK,OU];trivial
 | a::al,aa=>by
  rw[OU] at aa;rw[Ad.TK,OU];exact⟨MZ.ren h a aa.1,OU.ren h al aa.2⟩
end
def aff (a:Ad):a ∈ a.all:=by rw[all_eq];simp
def aaR {k:Ad}:∀ {al:List Ad},k ∈ al->∀ y ∈ k.all,y ∈ Ad.PN al
 | x::al,h,y,hy=>by
  rw[Ad.PN,zalat]
  rcases zalas.1 h with rfl|h
  ·exact zalad hy
  ·exact zalal (aaR h y hy)
def Ry {t x:Ad}(af:x ∈ t.all):∀ y ∈ x.ks,y ∈ t.all:=by
 have h:∀ y ∈ x.all,y ∈ t.all:=VY (P:=λx=>∀ y ∈ x.all,y ∈ t.all) (λa h k N y hy=>h y (by rw[all_eq];exact zalca _ (aaR N y hy))) t.cnt t Nh (λy hy=>hy) x af
 intro y hy;exact h y (by rw[all_eq];exact zalca _ (aaR hy y (aff y)))
structure Hs (F:Nat)(cap:LY)(aZ nj:Nat)(b:Bool)(w:LK):Prop where
 found:w.heap[aZ]? = some (NK #[L9 b] 4)
 fits:w.heap[nj]? = some (NK #[.func (.func F) #[] #[cap]] 54)
def hsF (fit:Ad->Bool)(b:Bool)(a:Ad):Bool × Bool:=(b||fit a,!(b||fit a))
mutual
def asw (fit:Ad->Bool):∀ (t:Ad) (b:Bool),wk (hsF fit) b t=(b||t.all.any fit)
 | .mk p kd tx n ks,b=>by
  rw[wk,Ad.all,List.any_cons,<-zalfs]
  by_cases h:(b||fit (.mk p kd tx n ks))=true
  ·rw[zalah (by show ¬ (!(b||fit (.mk p kd tx n ks)))=true;rw[h];decide)]
   show (b||fit (.mk p kd tx n ks))=_
   rw[h];simp
  ·have O:(b||fit (.mk p kd tx n ks))=false:=by simpa using h
   rw[zalak (by show (!(b||fit (.mk p kd tx n ks)))=true;rw[O];rfl),anQ fit ks]
   rfl
def anQ (fit:Ad->Bool):∀ (ts:List Ad) (b:Bool),VP (hsF fit) b ts=(b||(Ad.PN ts).any fit)
 | [],b=>by rw[VP,Ad.PN,List.any_nil,zalfr]
 | t::ts,b=>by rw[VP,asw fit t b,anQ fit ts,Ad.PN,zaleq,zalfs]
end
def anR {F:Nat}{cap:LY}{fit:Ad->Bool}{aZ nj B:Nat}{b:Bool}{t:Ad}{w:LK}
  (fW:TM F)
  (ai:MC F #[LC t.p,cap] w λe w'=>e=MN (L9 (fit t))/\LX w w')
  (kg:Hs F cap aZ nj b w) (d':nj≠aZ) (bA:aZ<B) (BL:B<=w.heap.size) :
  MC 220 #[LC t.p,Mc aZ 0,Mc nj 0] w λe w'=>e=MN (L9 (hsF fit b t).2)/\Hs F cap aZ nj (hsF fit b t).1 w'/\Ap aZ B w w':=by
 have f0:w.cell? (LD aZ 0)=some (L9 b):=by rw[Lib.cell_of_heap kg.found];rfl
 have F8:=Lib.frozen_of_heap kg.found 0;have mB:w.cell? (LD nj 0)=some (.func (.func F) #[] #[cap]):=by rw[Lib.cell_of_heap kg.fits];rfl
 have lA:=lt_of_heap kg.found;have zL:=lt_of_heap kg.fits;unfold hsF;simp only;have key:∀ (w2:LK) (c:Bool),LX w w2->Hs F cap aZ nj c (w2.setCell (LD aZ 0) (L9 c))/\Ap aZ B w (w2.setCell (LD aZ 0) (L9 c)):=by
  intro w2 c D;have E:w2.heap[aZ]? = some (NK #[L9 b] 4):=by rw[D.block aZ lA];exact kg.found
  refine⟨⟨by simp[World.setCell,zalfc,E],?_⟩,(Ap.of (D.mono BL)).setCell (p:=(LD aZ 0)) (zalal rfl) _⟩;rw[zalap _ (LD aZ 0) _ nj d',D.block nj zL];exact kg.fits
 have HKEY:=hide key;have bN:=hide ai;have Ed:=hide kg.found;clear key d' bA BL;obtain⟨p,ae⟩:∃ p,p=t.p:=⟨_,rfl⟩;rw[<-ae] at bN ⊢;clear ae
 generalize fit t=c at bN ⊢
 cases b with
 | true=>
  rw[zalco];go_enter func220,ntmps220;go_wp2;go_ret;exact⟨rfl,(HKEY.out w true O4).1,(HKEY.out w true O4).2⟩
 | false=>
  rw[zalbn];go_enter func220,ntmps220;go_wp2_with fail;refine Y5 ?_;rintro e w2 ⟨rfl,D⟩;have E:w2.heap[aZ]? = some (NK #[L9 false] 4):=by rw[D.block aZ lA];exact Lu Ed
  have fN:w2.cell? (LD aZ 0)=some (L9 false):=by rw[Lib.cell_of_heap E];rfl
  have JH:=Lib.frozen_of_heap E 0;have fn:=lt_of_heap E;have cG:=hide (HKEY.out w2 c D);clear E;go_wp2;go_ret;exact⟨rfl,cG.out.1,cG.out.2⟩
def ayg:TM 220:=λ_ _=>by kernel_rfl
def afI {I:Nat->Prop}{F:Nat}{cap:LY}(fit:Ad->Bool)(C:LK->Prop)(t:Ad)(w:LK)
  (fW:TM F)
  (eR:C w) (BM:∀ L,(∀ k,k<w.heap.size->L.heap[k]? = w.heap[k]?)->C L)
  (ai:∀ a L,a ∈ t.all->C L->MZ (λb=>b<w.heap.size) L a->MC F #[LC a.p,cap] L λe w'=>e=MN (L9 (fit a))/\LX L w')
  (aH:MZ I w t) (am:t.cnt<=90000) :
  MC 137 #[LC t.p,.func (.func F) #[] #[cap]] w λe w'=>e=MN (L9 (t.all.any fit))/\LX w w':=by
 obtain⟨w2,bW⟩:∃ w2,w2=((w.alloc (.cells #[.func (.func F) #[] #[cap]] 54)).alloc (.cells #[L9 false] 4)):=⟨_,rfl⟩;have a5:LX w w2:=by rw[bW];exact Qn.alloc MP _
 have aW:(w.alloc (.cells #[.func (.func F) #[] #[cap]] 54)).heap.size=w.heap.size+1:=by simp
 have dV:w2.heap.size=w.heap.size+2:=by rw[bW];simp
 have kg:Hs F cap (w.heap.size+1) w.heap.size false w2:=by
  refine⟨?_,?_⟩
  ·rw[bW,<-aW];exact LP _ _
  ·rw[bW,zalaa _ _ _ MP];exact LP _ _
 have gZ:MZ (λb=>b<w.heap.size) w2 t:=MZ.later (λb D _=>a5.block b D) _ (MZ.mono (λb _ ab=>ab) _ aH);have ag:=hide (anv 220 (Mc (w.heap.size+1) 0) (Mc w.heap.size 0) (λb=>b<w.heap.size) (Ap (w.heap.size+1) (w.heap.size+2))
  (λb L=>Hs F cap (w.heap.size+1) w.heap.size b L/\(∀ k,k<w.heap.size->L.heap[k]? = w.heap[k]?)/\w.heap.size+2<=L.heap.size) (hsF fit) (λ_ ts=>∀ x ∈ ts,x ∈ t.all) ayg (λL=>by kernel_rfl)
  (λ_ _ _ h k=>h.trans k) (λw' nh h=>⟨λb D _=>h.block b LM LM,h.size⟩)
  (λb x ts h y hy=>by
   rcases zalat.1 hy with hy|hy
   ·split at hy
    ·exact Ry (h x MP) y hy
    ·
     cases hy
   ·exact h y (by simp[hy]))
  (λb x ts L h cz bv=>by
   refine(anR (fit:=fit) (B:=w.heap.size+2) fW (ai x L (h x MP) (BM L cz.2.1) bv) cz.1 LM LM cz.2.2).mono ?_;rintro e w' ⟨rfl,E,O⟩;exact⟨rfl,⟨E,λk N=>(O.block k LM LM).trans (cz.2.1 k N),zalan cz.2.2 O.size⟩,O⟩)
  t.cnt t Nh am [] false w2 (λx af=>by rw[zalaf.1 af,all_eq];simp) ⟨kg,λk N=>a5.block k N,by omega⟩ gZ)
 rw[asw,zalbn] at ag
 generalize t.all.any fit=R at ag ⊢
 generalize t.p=p at ag ⊢
 rw[bW] at ag;have bj:=hide a5;have f6:=hide bW;clear am ai eR BM dV bW;go_enter func137,ntmps137;go_wp2_with fail;refine NJ ?_;rintro e aq ⟨rfl,⟨E,O,ao⟩,_,aM⟩;have c3:aq.cell? (LD (w.heap.size+1) 0)=some (L9 R):=by rw[Lib.cell_of_heap E.found];rfl
 have l3:=lt_of_heap E.found;have oB:Hid (LX w aq):=by
  refine⟨?_,?_,?_,by omega,O⟩
  ·exact aM.os.trans (by have:=bj.out.os;rw[f6.out] at this;exact this)
  ·exact aM.tape.trans (by have:=bj.out.tape;rw[f6.out] at this;exact this)
  ·exact aM.output.trans (by have:=bj.out.output;rw[f6.out] at this;exact this)
 clear O ao;go_wp2;go_ret;exact⟨rfl,oB.out⟩
def Yd (t:Tr)(s:LW):Bool:=t.kd==13&&(t.tx.toList==s.toList&&hasB (RV t) s)
def ajo {I:Nat->Prop}{a:Ad}{w:LK}(aH:MZ I w a)(s:LW)(am:a.cnt<=20000) :
  MC 142 #[LC a.p,LQ s] w λe w'=>e=MN (L9 (Yd a.tr s))/\LX w w':=by
 obtain⟨_,bF,c0,c1,_⟩:=aH.cells;obtain⟨aW,a4,_⟩:=a.NC;have eh:=hide (afH a.tr a.p w aH.nat.nt (by rw[a.ND];omega))
 have aV:Hid (Yd a.tr s=(a.kd==13&&(a.tx.toList==s.toList&&hasB (RV a.tr) s))):=by show _=_;unfold Yd;rw[aW,a4]
 have ao:a.tr.count=1+Tr.counts a.tr.kids:=by cases a.tr with|mk kd tx n ks=>exact count_mk _ _ _ _
 have mx:(RV a.tr).length<=100000:=by
  have h:=VD a.tr;have O:=a.ND;omega
 clear ao
 generalize Yd a.tr s=R at aV ⊢
 generalize RV a.tr=ah at aV eh mx
 generalize a.p=p at bF c0 c1 eh ⊢
 generalize a.tx=tx at aV c1
 generalize a.kd=kd at aV c0
 clear am aW a4
 cases E:(kd==13) with
 | false=>
  rw[E,zalei] at aV;go_enter func142,ntmps142;go_wp2;go_ret;exact⟨Oy aV.out.symm,O4⟩
 | true=>
  cases O:(tx.toList==s.toList) with
  | false=>
   rw[E,O,zalei,Bool.and_false] at aV;go_enter func142,ntmps142;go_wp2;go_ret;exact⟨Oy aV.out.symm,O4⟩
  | true=>
   rw[E,O,zaleo,zaleo] at aV;go_enter func142,ntmps142;go_wp2_with fail;refine cm eh.out ?_;rintro e w1 ⟨⟨u,rfl,T⟩,D⟩;have ba:=hide D;have ag:=hide (Tn ah s u w1 T mx);obtain⟨eq,uc,rfl⟩:=LZ T;go_wp2_with fail;refine NJ ?_;rintro e w2 ⟨rfl,rfl⟩;go_wp2;go_ret;exact⟨Oy aV.out.symm,ba.out⟩
def UR (old:LW)(a:Ad):Bool:=Vg a.kd a.tx||Yd a.tr old
def ajp {I:Nat->Prop}{a:Ad}{w:LK}{b:Nat}{old:LW}(aH:MZ I w a)(D:w.heap[b]? = some (NK #[LQ old] 9))(am:a.cnt<=20000) :
  MC 140 #[LC a.p,Mc b 0] w λe w'=>e=MN (L9 (UR old a))/\LX w w':=by
 have bb:=hide (aiy aH);have aF:=hide (ajo aH old am);have c0:w.cell? (LD b 0)=some (LQ old):=by rw[Lib.cell_of_heap D];rfl
 have b6:=lt_of_heap D;unfold UR
 generalize Vg a.kd a.tx=x at bb ⊢
 generalize Yd a.tr old=y at aF ⊢
 generalize a.p=p at bb aF ⊢
 clear D am
 cases x with
 | true=>
  go_enter func140,ntmps140;go_wp2_with fail;refine cm bb.out ?_;rintro e w1 ⟨rfl,rfl⟩;go_wp2;go_ret;exact⟨rfl,O4⟩
 | false=>
  go_enter func140,ntmps140;go_wp2_with fail;refine cm bb.out ?_;rintro e w1 ⟨rfl,rfl⟩;go_wp2_with fail;refine cm aF.out ?_;rintro e w2 ⟨rfl,a5⟩;have bj:=hide a5;go_wp2;go_ret;exact⟨rfl,bj.out⟩
def VK (other:LW)(a:Ad):Bool:=Oz a.kd&&(a.tx.toList==other.toList)
def ajq {I:Nat->Prop}{a:Ad}{w:LK}{b:Nat}{other:LW}(aH:MZ I w a)(D:w.heap[b]? = some (NK #[LQ other] 9)) :
  MC 138 #[LC a.p,Mc b 0] w λe w'=>e=MN (L9 (VK other a))/\LX w w':=by
 obtain⟨_,bF,_,c1,_⟩:=aH.cells;have bb:=hide (agh (I:=I) (t:=a) (w:=w.drew) (MZ.later (Below.stay O4.drew) _ aH));have c0:w.cell? (LD b 0)=some (LQ other):=by rw[Lib.cell_of_heap D];rfl
 have b6:=lt_of_heap D;unfold VK
 generalize Oz a.kd=x at bb ⊢
 generalize a.tx=tx at c1 ⊢
 generalize a.p=p at bb bF c1 ⊢
 clear D
 cases x with
 | true=>
  rw[zaleo];have A{G}(h:G:=by
  refine wh 2 (L9 true) rfl ?_;refine wh 3 (LC p) rfl ?_;refine wh 4 (LC p) rfl ?_;refine wh 5 (Mc p 1) rfl ?_;refine wh 6 (LQ tx) rfl ?_ (hy:=zalad ⟨by kernel_rfl,λY dC=>by subst dC;go_simp⟩)
  refine wh 7 (LQ other) rfl ?_ (hy:=zalad ⟨by kernel_rfl,λY dC=>by subst dC;go_simp⟩)
  refine wh 8 (L9 (tx.toList==other.toList)) rfl ?_;refine wh 9 (L9 (tx.toList==other.toList)) rfl ?_;refine wh 10 (L9 (tx.toList==other.toList)) rfl ?_;refine XY ?_;go_wp2;go_ret;exact⟨rfl,O4.drew⟩):=LG h;exact aA7
 | false=>
  rw[zalei];have A{G}(h:G:=by
  refine wh 2 (L9 false) rfl ?_;refine wh 3 undef rfl ?_ (hy:=zalal ⟨by kernel_rfl,rfl⟩);refine wh 4 undef rfl ?_ (hy:=zalal ⟨by kernel_rfl,rfl⟩);refine wh 5 undef rfl ?_ (hy:=zalal ⟨by kernel_rfl,rfl⟩);refine wh 6 undef rfl ?_ (hy:=zalal ⟨by kernel_rfl,rfl⟩);refine wh 7 undef rfl ?_ (hy:=zalal ⟨by kernel_rfl,rfl⟩);refine wh 8 undef rfl ?_ (hy:=zalal ⟨by kernel_rfl,rfl⟩);refine wh 9 (L9 false) rfl ?_;refine wh 10 (L9 false) rfl ?_;refine XY ?_;go_wp2;go_ret;exact⟨rfl,O4.drew⟩):=LG h;exact aA7
def Yj (cE fF:TypeId)(m k:Nat)(l:List (Int × LY))(s:Int)(z:LY)(L:LK)(ce:prog.underlying cE=some (.map 3 fF))(aA:L.heap[m]? = some (.map (U6 l) k))(b5:(zeroValue fF).run prog L=.ok z L) :
  (Instr.lookup cE (.map (some m)) (LJ s) false).run prog L=.ok (((l.find? (λe=>decide (s=e.1))).map (·.2)).getD z) L:=by
 obtain⟨o,E,O⟩:=Zi s l 0 0;have dt:=underlying3;have ao:(Instr.findKey 3 (LJ s) (U6 l).toList).run prog L=.ok o L:=by
  refine aq9 ?_;simp only[zalcm,U6];rw[E];rfl
 unfold Instr.lookup;rw[zalbu,zalcl ce L];have dU:∀ b,(Instr.checkKey b 10000 3 (LJ s)).run prog L=.ok () L:=atG
 have hg:(getObj m).run prog L=.ok (.map (U6 l) k) L:=by simp[getObj,Sem.run,aA]
 exact aC6
def erW (k:Int):LY:=if k=0 then .nilIface else .iface 31 (LJ k)
def XW (aj:List LW)(t:Ad)(x:Option Ad)(aR:List LW)(old other:LW):Int:=
 if hasB aR old then
  if agf aj old then if agf aj other then if t.all.any (VK other) then 9 else match x with|some y=>if y.all.any (UR old) then 1 else 0|none=>0 else 5 else 5
 else 7
def Ux (aj:List LW)(t:Ad)(at':Int)(old other:LW):Int:=XW aj t ((Vb t at').map (·.2)) (W9 t at') old other
def SC (B:Nat)(w:LK)(x:Option Ad)(aR:List LW)(v:LY):Prop:=
 match x with
 | none=>v=.agg #[.pointer none,.slice none 0 0]/\aR=[]
 | some y=>∃ u,v=.agg #[LC y.p,u]/\U5 B w u (declT y.tr)/\aR=NI ((declT y.tr).map Tr.tx)
def SQ (nZ:Option Ad)(aR:List LW)(q:LY):Prop:=
 match nZ with
 | none=>aR=[]
 | some y=>q=LC y.p
def ami {I:Nat->Prop}(aj:List LW)(t:Ad)(at':Int)(old other:LW)(w:LK)(aH:MZ I w t)(aD:t.N9.Nodup)(ak:t.tr.ill=0)(am:t.cnt<=20000)
  (yq:∀ x ∈ Q5 t,(declT x.2.tr).length<=90000) (k9:∀ x ∈ Q5 t,x.2 ∈ t.all) (ay:old.size<=maxLen) (qF:other.size<=maxLen)
  (av:aj.length=19) (eD:TypeId) (fr:Nat × Nat) (hg:w.heap[6]? = some (.cells (aj.map Value.string).toArray eD fr)) :
  MC 85 #[LC t.p,LJ at',LQ old,LQ other] w λe w'=>e=MN (erW (Ux aj t at' old other))/\LX w w':=by
 obtain⟨w0,hU⟩:∃ w0,w0=(w.alloc (.cells #[LQ old] 9)).alloc (.cells #[LQ other] 9):=⟨_,rfl⟩;have d9:LX w w0:=by rw[hU];exact Qn.alloc MP _
 have bL:w0.heap.size=w.heap.size+2:=by rw[hU];simp
 have oh:w0.heap[w.heap.size]? = some (NK #[LQ old] 9):=by rw[hU,zalaa _ _ _ MP];exact LP _ _
 have jk:w0.heap[w.heap.size+1]? = some (NK #[LQ other] 9):=by
  have h:=LP (w.alloc (.cells #[LQ old] 9)) (.cells #[LQ other] 9);rw[hU];simpa using h
 have A{G}(h:G:=by
 have aF:=hide (aiB t w0 (n1 w0 d9) aD ak am);have fL:=hide (λ(L:LK) (D:LX w L)=>XE aj old L ay av eD fr (by rw[D.block 6 (lt_of_heap hg)];exact hg))
 have f4:=hide (λ(L:LK) (D:LX w L)=>XE aj other L qF av eD fr (by rw[D.block 6 (lt_of_heap hg)];exact hg))
 have wU:=hide (λ(L:LK) (D:LX w L) (E:L.heap[w.heap.size+1]? = some (NK #[LQ other] 9))=>afI (F:=138) (cap:=Mc (w.heap.size+1) 0) (VK other) (λbJ=>bJ.heap[w.heap.size+1]? = some (NK #[LQ other] 9)) t L (λ_ _=>by kernel_rfl) E (λbJ h=>by rw[h _ (lt_of_heap E)];exact E) (λa bJ _ tA aa=>ajq aa tA) (n1 L D) LM)
 have z5:=hide (λ(y:Ad) (hy:y ∈ t.all) (L:LK) (D:LX w L) (E:L.heap[w.heap.size]? = some (NK #[LQ old] 9))=>afI (F:=140) (cap:=Mc w.heap.size 0) (UR old) (λbJ=>bJ.heap[w.heap.size]? = some (NK #[LQ old] 9)) y L (λ_ _=>by kernel_rfl) E (λbJ h=>by rw[h _ (lt_of_heap E)];exact E) (λa bJ GK tA aa=>ajp aa tA (TI (TI am y hy) a GK)) (Tv (n1 L D) y hy) (by have:=TI am y hy;omega))
 have jO:Hid (∀ (w1:LK) (fm:Nat) (al:List (Int × LY)),w1.heap[fm]? = some (.map (U6 al) al.length)->WE (λb=>b<w0.heap.size) 0 w1 (Q5 t) al ->
   ∃ v,(Instr.lookup 121 (.map (some fm)) (LJ at') false).run prog w1=.ok v w1/\SC 0 w1 ((Vb t at').map (·.2)) (W9 t at') v):=by
  show ∀ (w1:LK) (fm:Nat) (al:List (Int × LY)),_->_->_
  intro w1 fm al aA he;have h8:=Yj 121 119 fm al.length al at' (.agg #[Pe,QJ]) w1 zalgx aA (ajz w1);refine⟨_,h8,?_⟩;unfold W9 Vb
  rcases he.find at' with ⟨fM,fS⟩|⟨x,y,v,fM,fS,en,mg⟩
  ·rw[fM,fS];exact⟨rfl,rfl⟩
  ·rw[fM,fS];exact⟨v,en,mg.ayf,rfl⟩
 have oR:Hid (∀ y,(Vb t at').map (·.2)=some y->y ∈ t.all/\(declT y.tr).length<=90000):=by
  show ∀ y,_->_
  intro y hy
  cases ac:Vb t at' with
  | none=>rw[ac] at hy;cases hy
  | some x=>
   rw[ac] at hy;cases hy;have hmem:=zalbc ac;exact⟨k9 x hmem,yq x hmem⟩
 unfold Ux
 generalize (Vb t at').map (·.2)=nZ at jO oR ⊢
 generalize W9 t at'=aR at jO ⊢
 obtain⟨R,a7⟩:∃ R,R=XW aj t nZ aR old other:=⟨_,rfl⟩;rw[<-a7];unfold XW at a7
 generalize t.all.any (VK other)=FH at wU a7
 have bo:=hide a7;clear a7
 generalize Q5 t=ah at aF jO
 have dQ:Hid (∀ y,nZ=some y->y ∈ t.all):=λy hy=>(Lu oR y hy).1;have D0:Hid (∀ y,nZ=some y->(declT y.tr).length<=90000):=λy hy=>(Lu oR y hy).2
 generalize t.all=IU at z5 dQ
 generalize t.p=p at aF wU ⊢
 have hI:=hide d9;have fj:=hide oh;have ea:=hide jk;have jz:=hide bL;rw[hU] at aF;clear aD ak am yq k9 ay qF av hg n1 oh jk bL;go_enter func85,ntmps85;go_wp2_with fail;refine cm aF.out ?_;rintro e w1 ⟨⟨fm,al,rfl,aA,he⟩,D⟩;rw[<-hU] at he D;obtain⟨v,h8,y4⟩:=Lu jO w1 fm al aA he;have aV:=hide (hI.out.trans (D.mono hI.out.size));have fC:=lt_of_heap aA;have vg:Hid (w1.heap[w.heap.size]? = some (NK #[LQ old] 9)):=(D.block _ (by have:=Lu jz;omega)).trans fj.out
 have sX:Hid (w1.heap[w.heap.size+1]? = some (NK #[LQ other] 9)):=(D.block _ (by have:=Lu jz;omega)).trans ea.out
 have bM:w.heap.size+2<=w1.heap.size:=by have:=Lu jz;have:=D.size;omega
 obtain⟨nc,aQ,m,cc,a0,jw,aG⟩:∃ (nc:Option Addr) (aQ:Option Addr) (m cc:Nat),v=.agg #[.pointer nc,.slice aQ m cc]/\Hid (∀ L,LX w1 L->MC 76 #[.agg #[.pointer nc,.slice aQ m cc]] L λe w'=>(∃ u,e=MN u/\Na L.heap.size w' u aR)/\LX L w')/\Hid (aR.length<=100000/\SQ nZ aR (.pointer nc)):=by
  cases nZ with
  | none=>
   obtain⟨rfl,rfl⟩:=y4;exact⟨_,_,_,_,rfl,λL _=>aay (B:=0) [] Pe QJ L (zalad rfl) (U5.nil _ _) MP,by simp,rfl⟩
  | some y=>
   obtain⟨u,rfl,E,rfl⟩:=y4;have ab:=Lu D0 y rfl;have O:=Qs ((declT y.tr).map Tr.tx);rw[zalag] at O;obtain⟨aQ,cc,rfl⟩:=E.form;exact⟨_,_,_,_,rfl,λL aO=>aay (B:=0) (declT y.tr) (LC y.p) _ L (zalal ⟨_,rfl⟩) (E.later aO) ab,by omega,rfl⟩
 subst a0;clear aA hU;go_wp2_with fail;obtain⟨dY,fO⟩:∃ dY,dY=w1.alloc (.cells #[.pointer nc,.slice aQ m cc] 119):=⟨_,rfl⟩;have fJ:LX w1 dY:=by rw[fO];exact Qn
 have ti:dY.heap[w1.heap.size]? = some (NK #[.pointer nc,.slice aQ m cc] 119):=by rw[fO];exact LP _ _
 have jB:dY.heap[w.heap.size]? = some (NK #[LQ old] 9):=(fJ.block _ LM).trans vg.out;have mQ:dY.heap[w.heap.size+1]? = some (NK #[LQ other] 9):=(fJ.block _ LM).trans sX.out;have gC:=hide (aV.out.trans (fJ.mono aV.out.size));have uQ:=hide (Lu jw dY.drew (fJ.drew));have zM:=lt_of_heap ti;have kA:=lt_of_heap jB;have le:=lt_of_heap mQ;rw[<-fO];have np:=hide ti;have fG:=hide jB;have b7:=hide mQ;have tc:dY.cell? (LD w1.heap.size 0)=some (.pointer nc):=by rw[Lib.cell_of_heap ti];rfl
 have xr:dY.cell? (LD w1.heap.size 1)=some (.slice aQ m cc):=by rw[Lib.cell_of_heap ti];rfl
 have c0:dY.cell? (LD w.heap.size 0)=some (LQ old):=by rw[Lib.cell_of_heap jB];rfl
 clear fO ti jB mQ;have aE:LX dY dY.drew:=O4.drew;refine wp_region_held (S:=λX=>LX dY X) Nw ?_;refine wh 0 (.agg #[.pointer nc,.slice aQ m cc]) aE ?_ (hy:=zalad ⟨by kernel_rfl,λX aB=>by have aJ:=Md aB tc;have E:=Md aB xr;go_simp⟩)
 refine wh 2 (LQ old) aE ?_ (hy:=zalad ⟨by kernel_rfl,λX aB=>by have aJ:=Md aB c0;go_simp⟩)
 refine UK 1 λK U=>?_;go_simp;refine cm uQ.out ?_;rintro e w2 ⟨⟨v,rfl,a0⟩,a5⟩;have eN:LX dY w2:=aE.trans a5;have lf:=hide (Tn aR old v w2 a0 aG.out.1);obtain⟨va,ck,rfl⟩:=LZ a0;refine U.out _ _ eN (λ_=>?_);clear U K a0 a5;refine UK 3 λK U=>?_;go_simp;refine cm lf.out ?_;rintro e aq ⟨rfl,rfl⟩;refine U.out _ _ eN (λ_=>?_);clear U K;have bV:=hide (gC.out.trans (eN.mono gC.out.size));have AV:=hide ((eN.block _ zM).trans np.out);have fj:=hide ((eN.block _ kA).trans fG.out)
 have ea:=hide ((eN.block _ le).trans b7.out)
 cases a2:hasB aR old with
 | false=>
  refine wh 4 (L9 true) eN ?_;refine wh 5 (L9 true) eN ?_;refine XY ?_;clear tc xr c0 zM kA le;go_wp2;go_ret;exact⟨by rw[bo.out,a2];simp[erW],bV.out⟩
 | true=>
  obtain⟨y,rfl⟩:∃ y,nZ=some y:=by
   cases nZ with
   | none=>
    have h:=aG.out.2;have O:aR=[]:=h;rw[O] at a2;simp[hasB] at a2
   | some y=>exact⟨y,rfl⟩
  have ac:Value.pointer nc=LC y.p:=aG.out.2;have HE:nc=some (LD y.p 0):=by simpa using ac
  subst HE;have v':=Lu dQ y rfl;refine wh 4 (L9 false) eN ?_;refine wh 5 (L9 false) eN ?_;refine wpAnyH_done Nw ?_ _;go_simp;clear tc xr c0 zM kA le ac;have c0:aq.cell? (LD w.heap.size 0)=some (LQ old):=by rw[Lib.cell_of_heap fj.out];rfl
  have sm:=lt_of_heap fj.out;have es:=hide (Lu fL aq bV.out)
  cases E:agf aj old with
  | false=>
   rw[E] at es;go_wp2_with fail;refine zlw ?_;have A{G}(h:G:=by
   go_wp2;go_ret;exact⟨by rw[bo.out,a2,E];simp[erW],fK.out⟩):=LG h;exact aqm
  | true=>
   rw[E] at es;go_wp2_with fail;refine zlw ?_;have A{G}(h:G:=by
   have AW:=hide ((hP.block _ (lt_of_heap AV.out)).trans AV.out);have AS:=hide ((hP.block _ (lt_of_heap fj.out)).trans fj.out);have vf:=hide ((hP.block _ (lt_of_heap ea.out)).trans ea.out);have c1:bh.cell? (LD (w.heap.size+1) 0)=some (LQ other):=by rw[Lib.cell_of_heap vf.out];rfl
   have l1:=lt_of_heap vf.out;have b9:=hide (Lu f4 bh fK.out);clear c0 sm
   cases O:agf aj other with
   | false=>
    rw[O] at b9;go_wp2_with fail;refine Ul ?_;have A{G}(h:G:=by
    go_wp2;go_ret;exact⟨by rw[bo.out,a2,E,O];simp[erW],d5.out⟩):=LG h;exact aql
   | true=>
    rw[O] at b9;go_wp2_with fail;refine Ul ?_;have A{G}(h:G:=by
    have AX:=hide ((ec.block _ (lt_of_heap AW.out)).trans AW.out);have AT:=hide ((ec.block _ (lt_of_heap AS.out)).trans AS.out);have Fu:=hide ((ec.block _ (lt_of_heap vf.out)).trans vf.out);have cK:=hide (Lu wU bn d5.out Fu.out);clear c1 l1
    cases ao:FH with
    | true=>
     rw[ao] at cK;go_wp2_with fail;refine WB ?_;rintro e cM ⟨rfl,eT⟩;have jq:=hide (d5.out.trans (eT.mono d5.out.size));go_wp2;go_ret;exact⟨by rw[bo.out,a2,E,O,ao];simp[erW],jq.out⟩
    | false=>
     rw[ao] at cK;go_wp2_with fail;refine WB ?_;rintro e cM ⟨rfl,eT⟩;have jq:=hide (d5.out.trans (eT.mono d5.out.size));have AY:=hide ((eT.block _ (lt_of_heap AX.out)).trans AX.out);have Ft:=hide ((eT.block _ (lt_of_heap AT.out)).trans AT.out);have tc:cM.cell? (LD w1.heap.size 0)=some (LC y.p):=by rw[Lib.cell_of_heap AY.out];rfl
     have KJ:=lt_of_heap AY.out;have ft:=hide (Lu z5 y v' cM jq.out Ft.out);clear v'
     cases aM:y.all.any (UR old) with
     | true=>
      exact ayx
     | false=>
      exact ayx):=LG h;exact aql):=LG h;exact aqm):=LG h;exact aw2
def ofA (b2:List Int)(k:Ad):List Ad:=(b2.filter λz=>k.kd==z).map λ_=>k
def WJ (b2:List Int):List Ad->List Ad
 | []=>[]
 | k::ks=>ofA b2 k++WJ b2 ks
def ahh (b2:List Int):∀ a b:List Ad,WJ b2 (a++b)=WJ b2 a++WJ b2 b
 | [],b=>rfl
 | t::a,b=>by simp[WJ,ahh b2 a b]
def amA (b2:List Int)(ts:List Ad)(k:Nat)(N:k<ts.length):WJ b2 (ts.take (k+1))=WJ b2 (ts.take k)++ofA b2 ts[k]:=by
 rw[zalac N,ahh];simp[WJ]
def aoV (b2:List Int)(k:Ad)(i:Nat)(ak:i<b2.length):ofA (b2.take (i+1)) k=ofA (b2.take i) k++(if k.kd==b2[i] then [k] else []):=by
 unfold ofA;exact ay3
def akl (b2:List Int)(k:Ad):(ofA b2 k).length<=b2.length:=by unfold ofA;rw[zalag];exact zalci _ _
def ahi (b2:List Int):∀ ts:List Ad,(WJ b2 ts).length<=ts.length * b2.length
 | []=>by simp[WJ]
 | t::ts=>by
  have E:=akl b2 t;have O:=ahi b2 ts;rw[WJ,zalab,zalbf,zalhq];omega
def akm:∀ ts:List Ad,WJ [5] ts=ts.filter λk=>Uz k.tr
 | []=>rfl
 | t::ts=>by
  rw[WJ,akm ts,zalbg];unfold ofA Uz;rw[t.NC.1];simp only[zalbg,zalcu]
  split <;> simp
def ahj:∀ ts:List Ad,WJ [3,4] ts=ts.filter λk=>Rn k.tr
 | []=>rfl
 | t::ts=>by
  rw[WJ,ahj ts,zalbg];unfold ofA Rn;rw[t.NC.1];simp only[zalbg,zalcu]
  by_cases ao:t.kd=3
  ·simp[ao]
  ·by_cases aM:t.kd=4
   ·simp[aM]
   ·simp[ao,aM]
def aby {I:Nat->Prop}(b2:List Int)(b5:b2.length<=2)(fN:Nat)(a:Ad)(w:LK)(h:MZ I w a)(ab:a.ks.length<=20000)(ko:∀ i,(ak:i<b2.length)->w.cell? (LD fN i)=some (LJ b2[i])) :
  MC 122 #[LC a.p,.slice (some (LD fN 0)) b2.length b2.length] w λe w'=>(∃ u,e=MN u/\w'.ownsRow w.heap.size 22 1 u (WJ b2 a.ks).length ((WJ b2 a.ks).map aP))/\LX w w':=by
 obtain⟨a6,b4,bL,bM,bP⟩:=zalbl info22;obtain⟨u,c3,T,bF⟩:=MZ.rowA h;obtain⟨va,ck,rfl⟩:=T.form;have bo:=hide T;have fH:=hide ko;clear h ko
 generalize od:a.ks=ts at bo ab c3
 generalize a.p=p at c3 bF ⊢
 clear od a T;go_enter func122,ntmps122;go_wp2_with fail
 go_loopw [5,17] (λo j wr=>∃ (k:Nat) (bf:List Ad),k<=ts.length/\j=LJ k/\wr.ownsRow w.heap.size 22 1 o bf.length (bf.map aP)/\bf=WJ b2 (ts.take k)/\LX w wr) (λ_ j _=>ts.length - (intOf j).toNat)
 case atStart=>exact⟨0,[],zalae _,rfl,⟨rfl,zalad ⟨rfl,rfl⟩⟩,rfl,O4⟩
 case round=>
  have A{G}(h:G:=by
  have aV:=hide hbel;obtain⟨aQ,cc,rfl⟩:=NH hown;have eZ:bf.length<=40000:=by
   have E:=ahi b2 (ts.take k);rw[zalbe,zalhr N,<-hE] at E;have O:k * b2.length<=k * 2:=Nat.mul_le_mul_left k b5;omega
  clear hE c3
  by_cases aC:k<ts.length
  ·obtain⟨g,cap,a0,hg,dZ,hm⟩:=bo.out.cell k aC;have A{G}(h:G:=by
   obtain⟨q,aG⟩:=xH ((ts[k]).p);rw[<-aG.out] at dZ;have am:wr.cell? (LD g k)=some (LC q):=keepR aV.out dZ;have eY:(k:Int)<(ts.length:Int):=LM;have cS:g<wr.heap.size:=aga am;have b3:=hide hm;have co:=hide (amA b2 ts k aC);have Eo:Hid ((ofA b2 ts[k]).length<=2):=zalan (akl _ _) b5;clear dZ;go_wp2_with fail
   go_loopw [5,23] (λo j wr2=>∃ (i:Nat) (rs:List Ad),i<=b2.length/\j=LJ i/\rs.length<=bf.length+i/\wr2.ownsRow w.heap.size 22 1 o rs.length (rs.map aP)/\rs=bf++ofA (b2.take i) ts[k]/\LX w wr2) (λ_ j _=>b2.length - (intOf j).toNat)
   case atStart=>exact⟨0,bf,zalae _,rfl,by omega,bb.out,by simp[ofA],aV.out⟩
   case round=>
    have A{G}(h:G:=by
    clear hE
    by_cases n9:i<b2.length
    ·have pn:=fH.out i n9;have oQ:=hide (aoV b2 ts[k] i n9);have A{G}(h:G:=by
     obtain⟨_,qK,k0,_,_⟩:=(MZ.later (Below.stay bj.out) _ b3.out).cells;rw[<-aG.out] at qK k0;have A{G}(h:G:=by
     cases a2:(kd==z) with
     | true=>
      have A{G}(h:G:=by
      go_roundw
      case rel=>
       refine⟨i+1,rs++[ts[k]],by omega,by go_num,by simp;omega,?_,?_,bV.out⟩
       ·refine adC ?_;have h:=Lu h2;rw[aG.out] at h;exact h
       ·rw[oQ.out,<-zalax,<-sJ.out];rfl
      case measure=>simp[intOf];omega):=LG h;exact aAt
     | false=>
      exact ayz):=LG h;exact aCd):=LG h;exact aBQ
    ·have ir:i=b2.length:=LM;subst ir;go_wp2
     go_roundw
     case rel=>
      refine⟨k+1,rs,by omega,by go_num,gE.out,?_,bj.out⟩;have h:=Lu sJ;rw[zalaq] at h;rw[co.out,<-h1.out];exact h
     case measure=>simp[intOf];omega):=LG h;exact aCa):=LG h;exact Tf
  ·have A{G}(h:G:=by
   subst h;exact⟨⟨_,rfl,bb.out⟩,aV.out⟩):=LG h;exact aqh):=LG h;exact aqb
section
variable {I:Nat->Prop} (a:Ad) (w:LK) (h:MZ I w a) (ab:a.ks.length<=20000)
include I a w h ab
def ahk :
  MC 84 #[LC a.p] w λe w'=>(∃ u,e=MN u/\w'.ownsRow w.heap.size 22 1 u (QW a).length ((QW a).map aP))/\LX w w':=by
 have d9:LX w (w.alloc (.cells #[LJ 5] 3)):=Qn;have ag:=hide (aby [5] MK w.heap.size a (w.alloc (.cells #[LJ 5] 3)) (MZ.later (Below.stay d9) _ h) ab (abv w 5));rw[akm] at ag;have aV:=hide d9;change Hid (MC 122 #[LC a.p,_] _ λe w'=>(∃ u,e=MN u/\w'.ownsRow _ 22 1 u (QW a).length ((QW a).map aP))/\_) at ag
 generalize QW a=ah at ag ⊢
 generalize a.p=p at ag ⊢
 clear h ab;go_enter func84,ntmps84;exact aDg
def ai3 :
  MC 65 #[LC a.p] w λe w'=>(∃ u,e=MN u/\w'.ownsRow w.heap.size 22 1 u (OJ a).length ((OJ a).map aP))/\LX w w':=by
 have d9:LX w (w.alloc (.cells #[LJ 3,LJ 4] 3)):=Qn;have ag:=hide (aby [3,4] MK w.heap.size a (w.alloc (.cells #[LJ 3,LJ 4] 3)) (MZ.later (Below.stay d9) _ h) ab (abw w 3 4));rw[ahj] at ag;have aV:=hide d9;change Hid (MC 122 #[LC a.p,_] _ λe w'=>(∃ u,e=MN u/\w'.ownsRow _ 22 1 u (OJ a).length ((OJ a).map aP))/\_) at ag
 generalize OJ a=ah at ag ⊢
 generalize a.p=p at ag ⊢
 clear h ab;go_enter func65,ntmps65;exact aDg
end
def PD (t:Ad)(old:LW)(p:Nat):Bool:=t.all.any λa=>a.p==p&&a.tx.toList==old.toList
def apO {t:Ad}(aD:t.N9.Nodup){a b:Ad}(aa:a ∈ t.all)(D:b ∈ t.all)(h:a.p=b.p):a=b:=by
 obtain⟨i,ak,rfl⟩:=zalcf.1 aa;obtain⟨j,aT,rfl⟩:=zalcf.1 D;have n8:i<(t.all.map Ad.p).length:=by rw[zalag];exact ak
 have hi:j<(t.all.map Ad.p).length:=by rw[zalag];exact aT
 rw[<-SE] at aD;have e:(t.all.map Ad.p)[i]=(t.all.map Ad.p)[j]:=by simpa using h
 have ao:i=j:=(zalga aD).1 e;subst ao;rfl
def Vz {t:Ad}(aD:t.N9.Nodup)(old:LW){a:Ad}(aa:a ∈ t.all):PD t old a.p=(a.tx.toList==old.toList):=by
 unfold PD
 cases h:(a.tx.toList==old.toList) with
 | true=>exact zaldd.2 ⟨a,aa,by simp[h]⟩
 | false=>
  rw[List.any_eq_false];intro b D
  by_cases e:b.p=a.p
  ·rw[apO aD D aa e];simp[h]
  ·simp[e]
structure Rb (w:LK)(t:Ad)(old o:LW)(cR cL lu kU:Nat):Prop where
 at':MZ (λ_=>True) w t
 nd:t.N9.Nodup
 cnt:t.cnt<=20000
 h6:w.heap[cR]? = some (NK #[LQ old] 9)
 h7:w.heap[cL]? = some (NK #[LQ o] 9)
 h21:w.heap[lu]? = some (NK #[.func (.func 82) #[] #[Mc cR 0,Mc cL 0]] 125)
 h22:w.heap[kU]? = some (NK #[.func (.func 83) #[] #[Mc lu 0,Mc kU 0]] 69)
section
variable {w L:LK} {t:Ad} {old o:LW} {cR cL lu kU:Nat} {S:List Nat}
def Rj.box (h:Rj S o w L){b:Nat}{v:LY}{eD:TypeId}(D:w.heap[b]? = some (NK #[v] eD)):L.heap[b]? = some (NK #[v] eD):=by
 rw[h.other b (lt_of_heap D) λaA=>?_]
 ·exact D
 ·obtain⟨kd,tx,m,u,e⟩:=h.nodes b aA;rw[D] at e;simp at e
def MZ.blk {I:Nat->Prop}{a:Ad}(h:MZ I w a):∃ n v,w.heap[a.p]? = some (MB a.kd a.tx n v):=by
 cases a with
 | mk p kd tx n ks=>
  rw[MZ] at h;obtain⟨_,_,⟨v,D,_⟩,_⟩:=h;exact⟨n,v,D⟩
section
variable (h:Rb w t old o cR cL lu kU)
include h
def Rb.node {a:Ad}(aa:a ∈ t.all):∃ n v,w.heap[a.p]? = some (MB a.kd a.tx n v):=(Tv h.at' a aa).blk
def akT (am:Rj S o w L){a:Ad}(aa:a ∈ t.all) :
  CallsD prog 81 #[LC a.p,Mc cL 0] .returning L λe pB w'=>pB=.returning/\(e=MN (.tuple #[])/\Rj (S++[a.p]) o w w'):=by
 obtain⟨n,v,D⟩:=h.node aa;have av:=am.now D;have h7:=am.box h.h7;have ds:L.cell? (LD cL 0)=some (LQ o):=by rw[Lib.cell_of_heap h7];rfl
 have Ih:=lt_of_heap h7;obtain⟨tx,eC⟩:∃ tx,tx=if a.p ∈ S then o else a.tx:=⟨_,rfl⟩
 have A{G}(h:G:=by
 have aF:=hide (am.snoc D)
 generalize a.p=p at *
 clear D av h7 eC
 go_enter_d func81,ntmps81
 go_wp2
 go_end0
 exact⟨rfl,aF.out⟩):=LG h;exact as4
def aaE (am:Rj S o w L)(v:LY)(al:List Ad)(c8:∀ a ∈ al,a ∈ t.all)(T:L.ownsRow 0 22 1 v al.length (al.map aP))(ab:al.length<=90000) :
  MC 82 #[v,Mc cR 0,Mc cL 0] L λe w'=>e=MN (.tuple #[])/\Rj (S++(al.map Ad.p).filter (PD t old)) o w w'/\L.heap.size<=w'.heap.size:=by
 obtain⟨va,ck,rfl⟩:=LZ T;obtain⟨m,aA⟩:∃ m,m=al.length:=⟨_,rfl⟩;have iw:m<=90000:=LM;have hZ:=hide aA;have bo:=hide T;have fh:=hide h;have ag:=hide am;have D1:=hide c8;rw[<-aA];clear h c8 aA ab;go_enter func82,ntmps82;go_wp2_with fail
 go_loopw [8] (λi wr=>∃ k:Nat,k<=m/\i=LJ k/\Rj (S++((al.take k).map Ad.p).filter (PD t old)) o w wr/\L.heap.size<=wr.heap.size/\(∀ B v bQ,L.ownsRow B 22 1 v bQ.length bQ->wr.ownsRow B 22 1 v bQ.length bQ)) (λi _=>m - (intOf i).toNat)
 case atStart=>exact⟨0,zalae _,rfl,by simpa using ag.out,Nh,λ_ _ _ h=>h⟩
 case round=>
  obtain⟨k,N,rfl,hd,bK,pf⟩:=hrel;have j6:=hide hd;have i5:=hide pf
  by_cases aC:k<m
  ·have hlt2:k<al.length:=by rw[<-hZ.out];exact aC
   have j3:al.length=(al.map aP).length:=by rw[zalag]
   have hrow:=Lu bo;rw[j3] at hrow;have hrow2:=pf _ _ _ hrow;rw[<-j3] at hrow2;obtain⟨g,cap,a0,_,_⟩:=hrow2.form LM;have A{G}(h:G:=by
   have de:=(hrow2.lt g rfl).2;have hcell:=hrow2.cellAt k LM;obtain⟨a,vC⟩:∃ a,a=al[k]:=⟨_,rfl⟩;have ej:a ∈ t.all:=by rw[vC];exact Lu D1 _ (zalao hlt2)
   have h5:wr.cell? (LD g k)=some (LC a.p):=by rw[hcell,vC];simp[hlt2]
   obtain⟨n,u,D⟩:=fh.out.node ej;have av:=hd.now D;have h6:=hd.box fh.out.h6;have h7:=hd.box fh.out.h7;have eF:wr.cell? (LD cR 0)=some (LQ old):=by rw[Lib.cell_of_heap h6];rfl
   have ds:wr.cell? (LD cL 0)=some (LQ o):=by rw[Lib.cell_of_heap h7];rfl
   have KI:=lt_of_heap h6;have Ih:=lt_of_heap h7;have hold:=Vz fh.out.nd old ej;have co:Hid (((al.take (k+1)).map Ad.p).filter (PD t old)=((al.take k).map Ad.p).filter (PD t old)++(if a.tx.toList==old.toList then [a.p] else [])):=by
    show _=_
    rw[zalac hlt2,zalam,zalcg,<-vC];simp only[zalbb,List.map_nil,zalbg,zalcu,hold]
   have eY:(k:Int)<(m:Int):=LM;obtain⟨tx,eC⟩:∃ tx,tx=if a.p ∈ S++((al.take k).map Ad.p).filter (PD t old) then o else a.tx:=⟨_,rfl⟩
   have A{G}(h:G:=by
   have xg:=hide (hd.snoc D);have E6:Hid (((tx.toList==old.toList)=false)->(a.tx.toList==old.toList)=true->Rj ((S++((al.take k).map Ad.p).filter (PD t old))++[a.p]) o w wr):=by
    intro E O
    by_cases aA:a.p ∈ S++((al.take k).map Ad.p).filter (PD t old)
    ·exact hd.same λb=>⟨λD=>by rcases zalat.1 D with D|D;exact D;rw[zalaf.1 D];exact aA,λD=>zaldc _ D⟩
    ·rw[zalah aA] at eC;rw[eC,O] at E;cases E
   have DZ:Hid (((tx.toList==old.toList)=true)->(a.tx.toList==old.toList)=false->Rj (S++((al.take k).map Ad.p).filter (PD t old)) o w (wr.setCell (LD a.p 1) (LQ o))):=by
    intro E O
    by_cases aA:a.p ∈ S++((al.take k).map Ad.p).filter (PD t old)
    ·exact(hd.snoc D).same λb=>⟨λD=>zaldc _ D,λD=>by rcases zalat.1 D with D|D;exact D;rw[zalaf.1 D];exact aA⟩
    ·rw[zalah aA] at eC;rw[eC,O] at E;cases E
   have E0:Hid (∀ B v bQ,L.ownsRow B 22 1 v bQ.length bQ->(wr.setCell (LD a.p 1) (LQ o)).ownsRow B 22 1 v bQ.length bQ):=by
    intro B v bQ af;refine L8 (I:=λb=>b≠a.p) (λb D _=>zalap wr (LD a.p 1) _ b D) (λdJ fX e=>?_) (pf B v bQ af);have hy:=pf B v bQ af
    rcases hy.2 with ⟨E,_⟩|⟨dn,cap2,cj,sd,_,jc,_⟩
    ·rw[E] at fX;cases fX
    ·rw[sd] at fX
     cases fX
     have a4:dn=a.p:=e;rw[a4,av] at jc;simp at jc
   have po:(wr.setCell (LD a.p 1) (LQ o)).heap.size=wr.heap.size:=by simp[World.setCell]
   have FB:=hide po;clear D av h6 h7 hold eC hcell j3 vC hlt2 pf po
   cases ay:(tx.toList==old.toList) with
   | true=>
    have bb:=hide ay
    generalize dq:a.p=p at *
    go_wp2_with fail
    go_region
    go_wp2
    go_roundw
    case rel=>
     refine⟨k+1,by omega,by go_num,Rj.drew ?_,by have:=Lu FB;show L.heap.size<=(wr.setCell (LD p 1) (LQ o)).heap.size;omega,λB v bQ af=>L8 (I:=λ_=>True) (λ_ _ _=>rfl) (λ_ _=>trivial) (Lu E0 B v bQ af)⟩
     rw[co.out]
     cases ac:(a.tx.toList==old.toList) with
     | true=>rw[zalak rfl,<-zalax];exact Lu xg
     | false=>rw[zalah MK,zalba];exact Lu DZ bb.out ac
    case measure=>simp[intOf];omega
   | false=>
    have bb:=hide ay
    generalize dq:a.p=p at *
    go_wp2_with fail
    go_region
    go_wp2
    go_roundw
    case rel=>
     refine⟨k+1,by omega,by go_num,Rj.drew ?_,bK,λB v bQ af=>L8 (I:=λ_=>True) (λ_ _ _=>rfl) (λ_ _=>trivial) (Lu i5 B v bQ af)⟩;rw[co.out]
     cases ac:(a.tx.toList==old.toList) with
     | true=>rw[zalak rfl,<-zalax];exact Lu E6 bb.out ac
     | false=>rw[zalah MK,zalba];exact Lu j6
    case measure=>simp[intOf];omega):=LG h;exact as4):=LG h;exact Tf
  ·have cA:k=m:=LM;subst cA;go_wp2
   go_end0
   have h:=Lu j6;rw[hZ.out,zalaq] at h;exact⟨rfl,h,bK⟩
end
def aG7:TM 82:=λ_ _=>by kernel_rfl
def aG8:TM 83:=λ_ _=>by kernel_rfl
def aku:∀ a b:List Ad,Xa (a++b)=Xa a++Xa b
 | [],b=>by rw[Xa];rfl
 | x::a,b=>by rw[zalcq,Xa,Xa,aku a b,zalax]
def asc (S:List Nat)(o:LW)(a:Ad):MF (a.ren S o).tr=MF a.tr:=by
 have E:=(a.ren S o).NC.1;have O:=a.NC.1;unfold MF;rw[E,O]
 cases a;rw[Ad.ren];rfl
section
variable (h:Rb w t old o cR cL lu kU)
include h
def Rb.isF {L:LK}{S:List Nat}(am:Rj S o w L){a:Ad}(aa:a ∈ t.all):MC 55 #[LC a.p] L λe w'=>e=MN (L9 (MF a.tr))/\w'=L:=by
 have E:=MZ.ren am a (Tv h.at' a aa);have O:=QL (a.ren S o).tr (a.ren S o).p L E.nat.nt;rw[ag2,asc] at O;exact O
def Rb.kid {a:Ad}(aa:a ∈ t.all):∃ n v,w.heap[a.p]? = some (MB a.kd a.tx n v)/\w.ownsRow 0 22 1 v a.ks.length (a.ks.map aP):=by
 obtain⟨n,v,D⟩:=h.node aa;obtain⟨b0,c3,T,_⟩:=MZ.rowA (Tv h.at' a aa);obtain⟨_,_,_,fy,_⟩:=node_cells D;rw[show w.cell? (LD a.p 3)=some v from fy] at c3;cases c3;exact⟨n,v,D,T.1⟩
def amB:∀ (m:Nat) (a:Ad),a.cnt<=m->a ∈ t.all->∀ (S:List Nat) (L:LK),Rj S o w L ->
  MC 83 #[LC a.p,Mc lu 0,Mc kU 0] L λe w'=>e=MN (.tuple #[])/\Rj (S++((Xa a.ks).map Ad.p).filter (PD t old)) o w w'/\L.heap.size<=w'.heap.size:=by
 intro m
 induction m with
 | zero=>intro a aa;have:=Ud a;omega
 | succ m aU=>
  intro a Cf aa S L am;obtain⟨n,v,D,T⟩:=h.kid aa;have av:=am.now D;have Ks:=am.row T;obtain⟨Li,ck,rfl⟩:=LZ T;obtain⟨ct,d1,d2,fy,_⟩:=node_cells av;have lz:=lt_of_heap av;have ed:a.ks.length<=20000:=by
   have E:=P8 a.ks;have O:=OA a;have ao:=TI h.cnt a aa;omega
  have i4:=hide aU;have fh:=hide h;have ag:=hide am;have bo:=hide T;have dN:Hid (∀ b ∈ a.ks,b ∈ t.all/\b.cnt<=m):=λb D=>⟨Ry aa b D,by have E:=Zl D;have O:=OA a;omega⟩
  have J6:=aG7;have J7:=aG8;clear aU D av h aa Cf ct d1 d2
  generalize a.ks=ks at *
  generalize a.p=p at *
  go_enter func83,ntmps83;go_wp2_with fail
  go_loopw [11] (λi wr=>∃ k:Nat,k<=ks.length/\i=LJ k/\Rj (S++((Xa (ks.take k)).map Ad.p).filter (PD t old)) o w wr/\L.heap.size<=wr.heap.size) (λi _=>ks.length - (intOf i).toNat)
  case atStart=>exact⟨0,zalae _,rfl,by simpa[Xa] using ag.out,Nh⟩
  case round=>
   obtain⟨k,N,rfl,hd,bK⟩:=hrel;have j6:=hide hd
   by_cases aC:k<ks.length
   ·have hrow:=hd.row bo.out;obtain⟨g,cap,a0,_,_⟩:=hrow.form LM;have A{G}(h:G:=by
    have de:=(hrow.lt g rfl).2;have hcell:=hrow.cellAt k LM;obtain⟨b,vE⟩:∃ b,b=ks[k]:=⟨_,rfl⟩;obtain⟨gs,qt⟩:b ∈ t.all/\b.cnt<=m:=by rw[vE];exact Lu dN _ (zalao aC)
    have h5:wr.cell? (LD g k)=some (LC b.p):=by rw[hcell,vE];simp[aC]
    obtain⟨aI,ss,dT⟩:=fh.out.node gs;have ge:=hd.now dT;obtain⟨dH,aW,a4,bO,_⟩:=node_cells ge;have F5:=lt_of_heap ge;have eY:(k:Int)<(ks.length:Int):=LM;have h21:=hd.box fh.out.h21;have iL:wr.cell? (LD lu 0)=some (.func (.func 82) #[] #[Mc cR 0,Mc cL 0]):=by rw[Lib.cell_of_heap h21];rfl
    have KH:=lt_of_heap h21;have co:Hid (((Xa (ks.take (k+1))).map Ad.p).filter (PD t old)=((Xa (ks.take k)).map Ad.p).filter (PD t old)++((va b).map Ad.p).filter (PD t old)):=by
     show _=_
     rw[zalac aC,aku,Xa,Xa,zalba,zalam,zalcg,<-vE]
    have sV:Hid (va b=(if b.kd==2 then [b] else [])++(if MF b.tr then [] else Xa b.ks)):=ao0 b
    -- behind ul var itself
    have sQ:Hid (∀ (w2:LK) (hu:List Nat),Rj hu o w w2->MC 55 #[LC b.p] w2 (λe w'=>e=MN (L9 (MF b.tr))/\w'=w2)):=λw2 hu O=>fh.out.isF O gs;have Az:Hid (∀ (w2:LK) (hu:List Nat),Rj hu o w w2->MC 83 #[LC b.p,Mc lu 0,Mc kU 0] w2 λe w'=>e=MN (.tuple #[])/\Rj (hu++((Xa b.ks).map Ad.p).filter (PD t old)) o w w'/\w2.heap.size<=w'.heap.size):=λw2 hu O=>Lu i4 b qt gs hu w2 O
    have wJ:Hid (MC 82 #[.slice (some (LD wr.heap.size 0)) 1 1,Mc cR 0,Mc cL 0] (wr.alloc (.cells #[LC b.p] 22)) λe w'=>e=MN (.tuple #[])/\Rj ((S++((Xa (ks.take k)).map Ad.p).filter (PD t old))++([b].map Ad.p).filter (PD t old)) o w w'/\(wr.alloc (.cells #[LC b.p] 22)).heap.size<=w'.heap.size):=by
     refine aaE fh.out (hd.grow Qn) (.slice (some (LD wr.heap.size 0)) 1 1) [b] (λa aa=>by rw[zalaf.1 aa];exact gs) ?_ MP
     exact⟨rfl,zalal ⟨wr.heap.size,1,#[LC b.p],rfl,zalae _,LP _ _,Nh,by decide,rfl,rfl⟩⟩
    have zO:Hid (∀ (w2:LK) (hu:List Nat),Rj hu o w w2->w2.cell? (LD kU 0)=some (.func (.func 83) #[] #[Mc lu 0,Mc kU 0])/\kU<w2.heap.size):=λw2 hu O=>by
     have h22:=O.box fh.out.h22;exact⟨by rw[Lib.cell_of_heap h22];rfl,lt_of_heap h22⟩
    clear hcell dT ge h21 aW a4 bO gs qt vE
    generalize fD:b.kd=kd at *
    generalize dL:b.tr=bt at *
    generalize yi:b.ks=vj at *
    have go:Hid ([b].map Ad.p=[b.p]):=rfl;rw[go.out] at wJ;have Ff:Hid (((va b).map Ad.p).filter (PD t old)=(if kd==2 then [b.p].filter (PD t old) else [])++(if MF bt then [] else ((Xa vj).map Ad.p).filter (PD t old))):=by
     show _=_
     rw[sV.out,zalam,zalcg]
     congr 1
     all_goals
      split <;> rfl
    rw[Ff.out] at co;clear fD dL yi
    generalize b.p=q at *
    cases O:(kd==2) with
    | true=>
     rw[O] at co
     cases an:MF bt with
     | true=>
      rw[an] at sQ co;clear an;go_wp2_with fail;refine cm wJ.out ?_;rintro e w2 ⟨rfl,db,dV⟩;have b9:=hide db;have fZ:=hide (Lu sQ w2 _ db);have A{G}(h:G:=by
      go_roundw
      case rel=>
       refine⟨k+1,by omega,by go_num,?_,by simp at dV;omega⟩
       rw[co.out];simpa using Lu b9
      case measure=>simp[intOf];omega):=LG h;exact aq0
     | false=>
      rw[an] at sQ co;clear an;go_wp2_with fail;refine cm wJ.out ?_;rintro e w2 ⟨rfl,db,dV⟩;have fZ:=hide (Lu sQ w2 _ db);have wK:=hide (Lu Az w2 _ db);obtain⟨im,If⟩:=Lu zO w2 _ db;have A{G}(h:G:=by
      refine cm wK.out ?_;rintro e bh ⟨rfl,jW,C0⟩;have ft:=hide jW;go_wp2
      go_roundw
      case rel=>
       refine⟨k+1,by omega,by go_num,?_,by simp at dV;omega⟩
       rw[co.out];simpa using Lu ft
      case measure=>simp[intOf];omega):=LG h;exact aq0
    | false=>
     rw[O] at co;have fZ:=hide (Lu sQ wr _ j6.out)
     cases an:MF bt with
     | true=>
      rw[an] at fZ co;clear an;have A{G}(h:G:=by
      go_roundw
      case rel=>
       refine⟨k+1,by omega,by go_num,?_,by omega⟩;rw[co.out];simpa using Lu j6
      case measure=>simp[intOf];omega):=LG h;exact aq0
     | false=>
      rw[an] at fZ co;have wK:=hide (Lu Az wr _ j6.out);obtain⟨im,If⟩:=Lu zO wr _ j6.out;clear an;have A{G}(h:G:=by
      refine cm wK.out ?_;rintro e bh ⟨rfl,jW,C0⟩;have ft:=hide jW;go_wp2
      go_roundw
      case rel=>
       refine⟨k+1,by omega,by go_num,?_,by omega⟩;rw[co.out];simpa using Lu ft
      case measure=>simp[intOf];omega):=LG h;exact aq0):=LG h;exact Tf
   ·have cA:k=ks.length:=LM;subst cA;go_wp2
    go_end0
    have h:=Lu j6;rw[zalaq] at h;exact⟨rfl,h,bK⟩
end
def cl:Code->Code
 | .seq a _=>a
 | .block _ a=>a
 | .loop a=>a
 | .cond _ a _=>a
 | c=>c
def cr:Code->Code
 | .seq _ b=>b
 | .cond _ _ b=>b
 | c=>c
def fR (p a cR cL:LY)(f:Nat->LY)(eQ:List Deferred):Act:=⟨#[p,a,f 2,f 3,f 4,f 5,cR,cL,f 8,f 9,f 10,f 11,f 12,f 13,f 14,f 15,f 16,f 17,f 18,f 19,f 20,f 21,f 22,f 23,f 24,f 25,f 26,f 27,f 28,f 29,f 30,f 31,f 32,f 33,f 34,f 35,f 36,f 37,f 38,f 39,f 40,f 41,f 42,f 43,f 44,f 45,f 46,f 47,f 48,f 49,f 50,f 51,f 52,f 53,f 54,f 55,f 56,f 57,f 58,f 59,f 60,f 61,f 62,f 63,f 64,f 65,f 66,f 67,f 68,f 69,f 70,f 71,f 72,f 73,f 74,f 75,f 76,f 77,f 78,f 79,f 80,f 81,f 82,f 83,f 84,f 85,f 86,f 87,f 88,f 89,f 90,f 91,f 92,f 93,f 94,f 95,f 96,f 97,f 98,f 99,f 100,f 101,f 102,f 103,f 104,f 105,f 106,f 107,f 108,f 109,f 110,f 111,f 112,f 113,f 114,f 115,f 116,f 117,f 118,f 119,f 120,f 121,f 122,f 123,f 124,f 125,f 126,f 127,f 128,f 129,f 130,f 131,f 132,f 133,f 134,f 135,f 136,f 137,f 138,f 139,f 140,f 141,f 142,f 143,f 144,f 145,f 146,f 147,f 148,f 149,f 150,f 151,f 152,f 153,f 154,f 155,f 156,f 157,f 158,f 159,f 160,f 161,f 162,f 163,f 164,f 165,f 166,f 167,f 168,f 169,f 170,f 171,f 172,f 173,f 174,f 175,f 176,f 177,f 178,f 179,f 180,f 181,f 182,f 183,f 184,f 185,f 186,f 187,f 188,f 189,f 190,f 191,f 192,f 193,f 194,f 195,f 196,f 197,f 198,f 199,f 200,f 201,f 202,f 203,f 204,f 205,f 206,f 207,f 208,f 209,f 210,f 211,f 212,f 213,f 214,f 215,f 216,f 217,f 218,f 219,f 220,f 221,f 222,f 223,f 224,f 225,f 226,f 227,f 228,f 229,f 230,f 231,f 232,f 233,f 234,f 235,f 236,f 237,f 238,f 239,f 240,f 241],eQ⟩
def aoW (g:Nat->LY):(List.range 242).map g=[g 0,g 1,g 2,g 3,g 4,g 5,g 6,g 7,g 8,g 9,g 10,g 11,g 12,g 13,g 14,g 15,g 16,g 17,g 18,g 19,g 20,g 21,g 22,g 23,g 24,g 25,g 26,g 27,g 28,g 29,g 30,g 31,g 32,g 33,g 34,g 35,g 36,g 37,g 38,g 39,g 40,g 41,g 42,g 43,g 44,g 45,g 46,g 47,g 48,g 49,g 50,g 51,g 52,g 53,g 54,g 55,g 56,g 57,g 58,g 59,g 60,g 61,g 62,g 63,g 64,g 65,g 66,g 67,g 68,g 69,g 70,g 71,g 72,g 73,g 74,g 75,g 76,g 77,g 78,g 79,g 80,g 81,g 82,g 83,g 84,g 85,g 86,g 87,g 88,g 89,g 90,g 91,g 92,g 93,g 94,g 95,g 96,g 97,g 98,g 99,g 100,g 101,g 102,g 103,g 104,g 105,g 106,g 107,g 108,g 109,g 110,g 111,g 112,g 113,g 114,g 115,g 116,g 117,g 118,g 119,g 120,g 121,g 122,g 123,g 124,g 125,g 126,g 127,g 128,g 129,g 130,g 131,g 132,g 133,g 134,g 135,g 136,g 137,g 138,g 139,g 140,g 141,g 142,g 143,g 144,g 145,g 146,g 147,g 148,g 149,g 150,g 151,g 152,g 153,g 154,g 155,g 156,g 157,g 158,g 159,g 160,g 161,g 162,g 163,g 164,g 165,g 166,g 167,g 168,g 169,g 170,g 171,g 172,g 173,g 174,g 175,g 176,g 177,g 178,g 179,g 180,g 181,g 182,g 183,g 184,g 185,g 186,g 187,g 188,g 189,g 190,g 191,g 192,g 193,g 194,g 195,g 196,g 197,g 198,g 199,g 200,g 201,g 202,g 203,g 204,g 205,g 206,g 207,g 208,g 209,g 210,g 211,g 212,g 213,g 214,g 215,g 216,g 217,g 218,g 219,g 220,g 221,g 222,g 223,g 224,g 225,g 226,g 227,g 228,g 229,g 230,g 231,g 232,g 233,g 234,g 235,g 236,g 237,g 238,g 239,g 240,g 241]:=by kernel_rfl
def YK {l:List LY}{i:Nat}{v:LY}(h:l[i]? = some v):l.getD i undef=v:=by
 rw[zalay,h];rfl
def ahl (l:List LY)(n:Nat)(h:l.length=n):l=(List.range n).map λi=>l.getD i undef:=by
 subst h;apply List.ext_getElem?;intro i
 by_cases ak:i<l.length
 all_goals
  simp[ak]
def Wy (ts:List LY){p a cR cL:LY}{eQ:List Deferred}(av:ts.length=242)(aJ:ts[0]? = some p)(E:ts[1]? = some a)(h6:ts[6]? = some cR)(h7:ts[7]? = some cL) :
  (⟨ts.toArray,eQ⟩:Act)=fR p a cR cL (λi=>ts.getD i undef) eQ:=by
 have h:=(ahl ts 242 av).trans (aoW _);rw[YK aJ,YK E,YK h6,YK h7] at h;exact zaldg (λx=>(⟨List.toArray x,eQ⟩:Act)) h
def aaW (Q:Exit->Act->LK->Prop)(e:Exit)(ts:List LY){p a cR cL:LY}{eQ:List Deferred}{L:LK}(av:ts.length=242)(aJ:ts[0]? = some p)(E:ts[1]? = some a)(h6:ts[6]? = some cR)(h7:ts[7]? = some cL)
  (h:Q e (fR p a cR cL (λi=>ts.getD i undef) eQ) L):Q e ⟨ts.toArray,eQ⟩ L:=by
 rw[Wy ts av aJ E h6 h7];exact h
def aEU (Q:Exit->Act->LK->Prop)(a:Act)(w:LK):Prop:=Code.wp prog (cl (cr (cr (cr (cr (Tryz.f36.body.getD .skip)))))) Q a w
def aEV (Q:Exit->Act->LK->Prop)(a:Act)(w:LK):Prop:=Code.wp prog (cl (cl (cr (cr (cl (cl (cr (cr (cl (cl (cr (cl (cr (cr (cr (cr (Tryz.f36.body.getD .skip))))))))))))))))) Q a w
def aEW (Q:Exit->Act->LK->Prop)(a:Act)(w:LK):Prop:=Code.wp prog (cl (cr (cr (cr (cr (cr (Tryz.f36.body.getD .skip))))))) Q a w
def aEX (Q:Exit->Act->LK->Prop)(a:Act)(w:LK):Prop:=Code.wp prog (cl (cr (cr (cr (cr (cr (cr (cr (cr (Tryz.f36.body.getD .skip)))))))))) Q a w
def aeQ (Q:Exit->Act->LK->Prop)(a:Act)(w:LK):Prop:=Code.wp prog (cl (cr (cr (cr (cr (cr (cr (cr (cr (cr (cr (cr (cr (cr (Tryz.f36.body.getD .skip))))))))))))))) Q a w
def aEY (Q:Exit->Act->LK->Prop)(a:Act)(w:LK):Prop:=Code.wp prog (cr (cr (cr (cr (cr (cr (Tryz.f36.body.getD .skip))))))) Q a w
def aeR (cL:Nat)(p:Nat):Deferred:={ target:=.fn (.func 81) #[Mc cL 0],args:=#[LC p] }
def aoX (cL p:Nat)(L:LK):(invoke (.fn (.func 81) #[Mc cL 0]) #[LC p]).run prog L=.ok (.enter 81 #[LC p,Mc cL 0]) L:=by kernel_rfl
def YL {w:LK}{t:Ad}{old o:LW}{cR cL lu kU:Nat}(h:Rb w t old o cR cL lu kU)(gq:Func)(tmps:Array LY)(R:Ending->LK->Prop) :
  ∀ (ah:List Ad) (S:List Nat) (L:LK),(∀ a ∈ ah,a ∈ t.all)->Rj S o w L->(∀ bJ,Rj (S++ah.map Ad.p) o w bJ->∃ v,(results gq tmps).run prog bJ=.ok v bJ/\R (MN v) bJ) ->
   Leaves prog gq tmps R (ah.map λa=>aeR cL a.p) .returning L
 | [],S,L,_,am,a7=>a7 L (by simpa using am)
 | a::ah,S,L,bm,am,a7=>by
  rw[zalbb];refine leaves_cons (by nofun) (aoX cL a.p L) ((akT h am (bm a MP)).mono ?_);rintro e pB w' ⟨rfl,rfl,tA⟩;refine YL h gq tmps R ah (S++[a.p]) w' (λb D=>bm b (zalca _ D)) tA λbJ vA=>a7 bJ ?_;rw[zalbb];simpa using vA
def Stop (P:Program)(c:Code)(Q:Exit->Act->LK->Prop)(a:Act)(w:LK):Prop:=Code.wp P c Q a w
def Uc {P:Program}{c:Code}{Q:Exit->Act->LK->Prop}{a:Act}{w:LK}(h:Stop P (.loop c) Q a w):(Code.loop c).wp P Q a w:=h
end
section
variable {L:LK} {p a cR cL:LY}
set_option linter.all false
def avY (Q:Exit->Act->LK->Prop)(f:Nat->LY)(k:Int)(xI:f 67=LJ k)
  (c':∀ di:Nat->LY,di 68=L9 (Oz k)->di 13=f 13->di 58=f 58->di 59=f 59->di 60=f 60->Q .normal (fR p a cR cL di []) L):aEV Q (fR p a cR cL f []) L:=by
 have aG:=hide c';clear c';unfold aEV;refine ad9 ?_
 cases a4:(k==2) with
 | true=>
  have N:Oz k=true:=by unfold Oz;simp only[a4,zalco,zalez,zalbn]
  exact agc
 | false=>
  cases bO:(k==3) with
  | true=>
   have N:Oz k=true:=by unfold Oz;simp only[a4,bO,zalco,zalez,zalbn]
   exact agc
  | false=>
   cases ew:(k==4) with
   | true=>
    have N:Oz k=true:=by unfold Oz;simp only[a4,bO,ew,zalco,zalez,zalbn]
    exact agc
   | false=>
    cases fA:(k==5) with
    | true=>
     have N:Oz k=true:=by unfold Oz;simp only[a4,bO,ew,fA,zalco,zalez,zalbn]
     exact agc
    | false=>
     cases qe:(k==37) with
     | true=>
      have N:Oz k=true:=by unfold Oz;simp only[a4,bO,ew,fA,qe,zalco,zalez,zalbn]
      exact agc
     | false=>
      cases hO:(k==13) with
      | true=>
       have N:Oz k=true:=by unfold Oz;simp only[a4,bO,ew,fA,qe,hO,zalco,zalez,zalbn]
       exact agc
      | false=>
       cases jS:(k==23) with
       | true=>
        have N:Oz k=true:=by unfold Oz;simp only[a4,bO,ew,fA,qe,hO,jS,zalco,zalez,zalbn]
        exact agc
       | false=>
        have N:Oz k=false:=by unfold Oz;simp only[a4,bO,ew,fA,qe,hO,jS,zalfr]
        exact agc
def aGR (Q:Exit->Act->LK->Prop)(a:Act)(w:LK):Prop:=Code.wp prog (cr (cr (cl (cl (cr (cr (cl (cl (cr (cl (cr (cr (cr (cr (Tryz.f36.body.getD .skip))))))))))))))) Q a w
def d1 (Q:Exit->Act->LK->Prop)(f:Nat->LY)(kd n:Int)(tx o:LW)(q ds:Nat)(u:LY)(xI:f 67=LJ kd)(ei:f 13=LC q)(qr:cL=Mc ds 0)
  (av:L.heap[q]? = some (MB kd tx n u)) (h7:L.heap[ds]? = some (NK #[LQ o] 9))
  (c':(Oz kd&&(tx.toList==o.toList))=false->∀ (di:Nat->LY) (bJ:LK),di 58=f 58->di 59=f 59->di 60=f 60->LX L bJ->Q .normal (fR p a cR cL di []) bJ)
  (a7:(Oz kd&&(tx.toList==o.toList))=true->∀ (di:Nat->LY) (bJ:LK),di 8=Pe->di 9=LJ 9->LX L bJ->Q .ret (fR p a cR cL di []) bJ):aGR Q (fR p a cR cL f []) L:=by
 have aG:=hide c';have bo:=hide a7;obtain⟨ct,d1,d2,fy,_⟩:=node_cells av;have lz:=lt_of_heap av;have xq:L.cell? (LD ds 0)=some (LQ o):=by rw[Lib.cell_of_heap h7];rfl
 have IZ:=lt_of_heap h7;have aV:Hid (LX L L.drew):=O4.drew;clear c' a7 av h7 ct d2 fy;refine wp_block (c:=cl (cr (cr (cl (cl (cr (cr (cl (cl (cr (cl (cr (cr (cr (cr (Tryz.f36.body.getD .skip)))))))))))))))) (zalib (x:=cl (cl (cr (cr (cl (cl (cr (cr (cl (cl (cr (cl (cr (cr (cr (cr (Tryz.f36.body.getD .skip))))))))))))))))) (y:=cr (cl (cr (cr (cl (cl (cr (cr (cl (cl (cr (cl (cr (cr (cr (cr (Tryz.f36.body.getD .skip))))))))))))))))) ?_);refine avY _ f kd xI λdi BB BA tg th rK=>?_;replace BA:=BA.trans ei
 show Code.wp prog (cr (cl (cr (cr (cl (cl (cr (cr (cl (cl (cr (cl (cr (cr (cr (cr (Tryz.f36.body.getD .skip))))))))))))))))) _ _ _
 simp only[cl,cr,Tryz.f36,zalej];clear xI ei;subst qr;unfold fR
 cases N:Oz kd with
 | false=>
  rw[N] at aG BB;go_wp2_with fail;refine aaW Q .normal _ rfl rfl rfl rfl rfl ?_;exact Lu aG MP _ _ (by first|exact tg|rfl) (by first|exact th|rfl) (by first|exact rK|rfl) O4
 | true=>
  rw[N] at BB aG bo
  cases af:(tx.toList==o.toList) with
  | false=>
   rw[af] at aG;go_wp2_with fail
   go_region
   go_wp2_with fail;refine aaW Q .normal _ rfl rfl rfl rfl rfl ?_;exact Lu aG MP _ _ (by first|exact tg|rfl) (by first|exact th|rfl) (by first|exact rK|rfl) aV.out
  | true=>
   rw[af] at bo;go_wp2_with fail
   go_region
   go_wp2_with fail;refine aaW Q .ret _ rfl rfl rfl rfl rfl ?_;exact Lu bo MP _ _ rfl rfl aV.out
