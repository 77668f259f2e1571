import Derived.Test.YtoimgcjbcbhclaaGreatDoorAz14
import Derived.Test.YtoimgcjbcbhclaaGreatDoorAz13
import Derived.Test.YtoimgcjbcbhclaaGreatDoorAz15
set_option maxRecDepth 100000
set_option maxHeartbeats 0
set_option linter.all false
namespace Go.Proofs.YtoimgcjbcbhclaaGreatDoor
open Go.RowKit Go.Proofs.Tryz
def apP:Option Nat->Int
 | some k=>k
 | none=>-1
def Tz {w w':LK}{B e sz:Nat}{v:LY}{n:Nat}{bQ:List LY}(h:w.ownsRow B e sz v n bQ)(D:LX w w'):w'.ownsRow B e sz v n bQ:=
 L8 (I:=λ_=>True) (λb _ ab=>D.block b ab) (λ_ _=>trivial) h
def anr {B F:Nat}{cp:LY}(g cap:Nat)(ps:List Nat)(del:Nat->Bool)(w:LK)
  (hrow:w.ownsRow B 22 1 (.slice (some (LD g 0)) ps.length cap) ps.length (ps.map LC)) (aA:ps.length<=90000)
  (fW:TM F)
  (oW:∀ p ∈ ps,∀ L,LX w L->MC F #[LC p,cp] L λe w'=>e=MN (L9 (del p))/\LX L w') :
  MC 222 #[.slice (some (LD g 0)) ps.length cap,.func (.func F) #[] #[cp]] w λe w'=>e=MN (LJ (apP (ps.findIdx? del)))/\LX w w':=by
 obtain⟨R,a7⟩:∃ R,R=apP (ps.findIdx? del):=⟨_,rfl⟩;rw[<-a7];have bo:=hide a7;have f2:=hide oW;have fa:=hide hrow;obtain⟨aR,aN⟩:∃ aR,aR=ps.length:=⟨_,rfl⟩;have b3:=hide aN;rw[<-aN] at aA ⊢;clear a7 oW aN;go_enter func222,ntmps222;go_wp2_with fail
 go_loopw [8] (λi wr=>∃ m:Nat,m<=aR/\i=LJ m/\(∀ j (aT:j<ps.length),j<m->del ps[j]=false)/\LX w wr) (λi _=>aR+1 - (intOf i).toNat)
 case atStart=>exact⟨0,zalae _,rfl,λj _ aT=>absurd aT (zalep _),O4⟩
 case round=>
  obtain⟨m,CF,rfl,eA,D⟩:=hrel;have jx:=hide eA;clear eA
  by_cases aC:m<aR
  ·have iw:m<ps.length:=by rw[<-b3.out];exact aC
   have pf:=Tz fa.out D;have de:=(pf.lt g rfl).2;have c0:wr.cell? (LD g m)=some (LC ps[m]):=by
    rw[pf.cellAt m (by rw[<-b3.out];omega),zalbx,zalai iw];rfl
   have ag:=hide (f2.out ps[m] (zalao iw) wr D);have cy:Hid (∀ c,del ps[m]=c->if c then R=m else ∀ j (aT:j<ps.length),j<m+1->del ps[j]=false):=by
    intro c am
    cases c with
    | true=>
     rw[zalak rfl];have E:ps.findIdx? del=some m:=zalhc.2 ⟨iw,am,λj aT=>by rw[jx.out j LM aT];decide⟩
     rw[bo.out,E];rfl
    | false=>
     rw[zalah MK];intro j aT hi
     by_cases e:j=m
     ·subst e;exact am
     ·exact jx.out j aT LM
   generalize jb:del ps[m]=c at ag
   have jP:=hide (cy.out c jb)
   generalize ps[m]=p at c0 ag
   clear jb iw cy
   cases c with
   | true=>
    go_wp2_with fail;refine NJ ?_;rintro e w2 ⟨rfl,a5⟩;have bj:=hide (D.trans (a5.mono D.size));have rR:R=(m:Int):=Lu jP;subst rR;go_wp2;go_ret;exact⟨rfl,bj.out⟩
   | false=>
    go_wp2_with fail;refine NJ ?_;rintro e w2 ⟨rfl,a5⟩;have bj:=hide (D.trans (a5.mono D.size));go_wp2
    go_roundw
    case rel=>exact⟨m+1,by omega,by go_num,jP.out,bj.out⟩
    case measure=>simp[intOf];omega
  ·have rR:R = -1:=by
    rw[bo.out];have E:ps.findIdx? del=none:=zalia.2 λx af=>by
     obtain⟨j,aT,rfl⟩:=zalcf.1 af;exact jx.out j aT (by rw[<-b3.out] at aT;omega)
    rw[E];rfl
   have aV:=hide D;subst rR;go_wp2;go_ret;exact⟨rfl,aV.out⟩
def Si (del:Nat->Bool)(ps:List Nat):List Nat:=ps.filter λp=>!del p
def XP {del:Nat->Bool}{ps:List Nat}{m:Nat}(h:m<ps.length):Si del (ps.take (m+1))=Si del (ps.take m)++(if del ps[m] then [] else [ps[m]]):=by
 unfold Si;rw[zalac h,zalcg]
 congr 1
 cases aD:del ps[m] <;> simp[aD]
section
variable {del:Nat->Bool} {ps:List Nat} {k:Nat} (h:ps.findIdx? del=some k)
include del ps k h
def Zz:k<ps.length/\Si del (ps.take (k+1))=ps.take k:=by
 obtain⟨N,E,O⟩:=zalhc.1 h;refine⟨N,?_⟩;rw[XP N,E,zalak rfl,zalba];unfold Si;rw[List.filter_eq_self];intro x af;obtain⟨j,aT,rfl⟩:=zalcf.1 af;rw[zalbe] at aT;rw[zalhf];have:=O j LM;simpa using this
def ant:∀ m,k+1<=m->m<=ps.length->(Si del (ps.take m)).length+1<=m:=by
 obtain⟨N,an⟩:=Zz h;intro m
 induction m with
 | zero=>intro E;omega
 | succ m aU=>
  intro E O
  by_cases e:k=m
  ·subst e;rw[an,zalbe];omega
  ·have:=aU LM LM;rw[XP LM,zalab];have:(if del ps[m] then [] else [ps[m]]).length<=1:=by split <;> simp
   omega
end
def gT {g:Nat}{a b c:LK}(h:a.grownBy b (some g))(k:b.grownBy c (some g)):a.grownBy c (some g):=⟨k.os.trans h.os,k.tape.trans h.tape,k.output.trans h.output,zalan h.size k.size,λj aT av=>(k.block j (zalau aT h.size) av).trans (h.block j aT av)⟩
def afl {w:LK}{B:Nat}{e:TypeId}{g n cap m:Nat}{bQ:List LY}(h:w.ownsRow B e 1 (.slice (some (LD g 0)) n cap) n bQ)(aA:m<=n):w.ownsRow B e 1 (.slice (some (LD g 0)) m cap) m (bQ.take m):=by
 have E:=h.1
 rcases h.2 with ⟨cH,_⟩|⟨dJ,cap',cj,cH,D,hg,av,af,W,aH⟩
 ·simp at cH
 ·simp only[zalcb,zalbw,zalft,zalhy,true_and] at cH;obtain⟨rfl,rfl⟩:=cH;refine⟨by rw[zalbe,E];omega,.inr ⟨g,cap,cj,rfl,D,hg,zalan aA av,af,W,?_⟩⟩
  rw[<-aH,zalhv]
  congr 1
  omega
def Ym {B:Nat}{e:TypeId}{g n cap:Nat}:∀ (b2:List LY) (o:Nat) (w:LK) (bQ:List LY),w.ownsRow B e 1 (.slice (some (LD g 0)) n cap) n bQ ->
  ∃ mD,(w.setCells g o b2).ownsRow B e 1 (.slice (some (LD g 0)) n cap) n mD/\mD.take o=bQ.take o/\w.grownBy (w.setCells g o b2) (some g)
 | [],o,w,bQ,h=>⟨bQ,h,rfl,⟨rfl,rfl,rfl,Nh,λ_ _ _=>rfl⟩⟩
 | z::b2,o,w,bQ,h=>by
  obtain⟨e8,bC⟩:=h.stored o z;obtain⟨mD,E,O,ao⟩:=Ym b2 (o+1) _ _ e8;refine⟨mD,E,?_,gT bC ao⟩;have aM:=zaldg (List.take o) O;rw[zalhv,zalhv,zalhr (Nat.le_succ o),List.take_set_of_le Nh] at aM;exact aM
def gB {g:Nat}{a b:LK}(D:LX a b):a.grownBy b (some g):=⟨D.os,D.tape,D.output,D.size,λj aT _=>D.block j aT⟩
def anm {B F:Nat}{cp:LY}(g cap:Nat)(ps:List Nat)(del:Nat->Bool)(w:LK)
  (hrow:w.ownsRow B 22 1 (.slice (some (LD g 0)) ps.length cap) ps.length (ps.map LC)) (aA:ps.length<=90000)
  (fW:TM F)
  (oW:∀ p ∈ ps,∀ L,w.grownBy L (some g)->MC F #[LC p,cp] L λe w'=>e=MN (L9 (del p))/\LX L w') :
  MC 144 #[.slice (some (LD g 0)) ps.length cap,.func (.func F) #[] #[cp]] w λe w'=>(∃ v,e=MN v/\w'.ownsRow B 22 1 v (Si del ps).length ((Si del ps).map LC))/\w.grownBy w' (some g):=by
 have eE:=hide (anr g cap ps del w hrow aA fW (λp ae L D=>oW p ae L (gB D)));have f2:=hide oW;have fa:=hide hrow;obtain⟨aR,aN⟩:∃ aR,aR=ps.length:=⟨_,rfl⟩;have b3:=hide aN;rw[<-aN] at eE fa aA ⊢;have hcap:aR<=cap:=by
  rcases fa.out.2 with ⟨cH,_⟩|⟨dJ,cap',cj,cH,_,_,av,_⟩
  ·simp at cH
  ·simp only[zalcb,zalbw,zalft,zalhy,true_and] at cH;obtain⟨rfl,rfl⟩:=cH;exact av
 clear oW aN
 cases an:ps.findIdx? del with
 | none=>
  rw[an] at eE;have hall:Si del ps=ps:=by
   unfold Si;rw[List.filter_eq_self];intro x af;have:=zalia.1 an x af;simp[this]
  rw[hall,<-b3.out];clear an hall;have hl:((-1:Int) == -1)=true:=rfl;go_enter func144,ntmps144;go_wp2_with fail;refine cm eE.out ?_;rintro e w1 ⟨rfl,D⟩;have aV:=hide D
  show _
  unfold apP;go_wp2;go_ret;exact⟨⟨_,rfl,Tz fa.out aV.out⟩,gB aV.out⟩
 | some k=>
  rw[an] at eE;obtain⟨Cw,qx⟩:=Zz an;have a1:=hide (ant an);have D4:=hide qx;rw[<-b3.out] at Cw;have hl:((k:Int) == -1)=false:=by rw[zalaj];omega
  have aW:apP (some k)=(k:Int):=rfl;rw[aW] at eE;clear an qx aW;go_enter func144,ntmps144;go_wp2_with fail;refine cm eE.out ?_;rintro e w1 ⟨rfl,D⟩;have nw:=hide (gB (g:=g) D);have EW:=hide (Tz fa.out D);go_wp2_with fail
  go_loopw [5,6] (λi j wr=>∃ (m:Nat) (R:List Nat),k+1<=m/\m<=aR/\i=LJ ((Si del (ps.take m)).length:Nat)/\j=LJ m/\R.length=aR/\R.take (Si del (ps.take m)).length=Si del (ps.take m)/\R.drop m=ps.drop m/\w.grownBy wr (some g)/\wr.ownsRow B 22 1 (.slice (some (LD g 0)) aR cap) aR (R.map LC)) (λ_ j _=>aR+1 - (intOf j).toNat)
  case atStart=>
   refine⟨k+1,ps,Nh,Cw,?_,by go_num,b3.out.symm,?_,rfl,nw.out,EW.out⟩
   all_goals
    rw[D4.out,zalbe];congr 1;rw[<-b3.out];omega
  case round=>
   obtain⟨m,R,qD,CF,rfl,rfl,B0,qm,BZ,cS,hown⟩:=hrel;have bm:=a1.out m qD (by rw[<-b3.out];exact CF)
   obtain⟨l,ab⟩:∃ l,l=(Si del (ps.take m)).length:=⟨_,rfl⟩;have cQ:=hide ab;rw[<-ab] at bm qm ⊢;have de:g<wr.heap.size:=(hown.lt g rfl).2;have HOWN:=hide hown;have uK:=hide cS;have xf:=hide qm;have rp:=hide BZ;have rq:=hide B0;clear ab qm BZ B0
   by_cases aC:m<aR
   ·have iw:m<ps.length:=by rw[<-b3.out];exact aC
    have yP:m<R.length:=by rw[rq.out];exact aC
    have rR:R[m]=ps[m]:=by
     have E:=zaldg (λx=>x[0]?) rp.out;simp only[zalgz,Nat.add_zero] at E;rw[zalai yP,zalai iw] at E;exact zalbo E
    have c0:wr.cell? (LD g m)=some (LC ps[m]):=by
     rw[hown.cellAt m LM,zalbx,zalai yP,rR];rfl
    have ag:=hide (f2.out ps[m] (zalao iw) wr uK.out);have co:=hide (XP (del:=del) iw);have z1:Hid (R.drop (m+1)=ps.drop (m+1)):=by
     have E:=zaldg (List.drop 1) rp.out;rw[zalhw,zalhw] at E;exact E
    generalize jb:del ps[m]=c at ag co
    generalize ps[m]=p at c0 ag co
    clear jb rR yP iw
    cases c with
    | true=>
     go_wp2_with fail;refine NJ ?_;rintro e w2 ⟨rfl,a5⟩;have pN:=hide (gT uK.out (gB a5));have gE:=hide (Tz HOWN.out a5);go_wp2
     go_roundw
     case rel=>
      have h:=Lu co;simp only[zaleh,zalba] at h;refine⟨m+1,R,by omega,by omega,by rw[h,<-cQ.out],by go_num,rq.out,by rw[h,<-cQ.out];exact xf.out,z1.out,pN.out,gE.out⟩
     case measure=>simp[intOf];omega
    | false=>
     go_wp2_with fail;refine NJ ?_;rintro e w2 ⟨rfl,a5⟩;have pN:=hide (gT uK.out (gB a5));have iN:=Tz HOWN.out a5;have yL:l<aR:=LM;have c2:∃ u,w2.cell? (LD g l)=some u:=by
      rw[iN.cellAt l LM];exact⟨_,zalai (by rw[zalag,rq.out];exact yL)⟩
     obtain⟨u2,c2⟩:=c2;have gp:=iN.frozenAt l;have l2:=(iN.lt g rfl).2;obtain⟨ql,dc⟩:=iN.stored l (LC p);have kG:=hide (gT pN.out dc);have h2:=hide ql;have n9:(l:Int)<(aR:Int):=LM;go_wp2
     go_roundw
     case rel=>
      have h:=Lu co;simp only[zalct,zalfg] at h;have hlen:(Si del (ps.take (m+1))).length=l+1:=by rw[h,zalab,<-cQ.out];rfl
      refine⟨m+1,R.set l p,by omega,by omega,by rw[hlen];go_num,by go_num,by rw[List.length_set];exact rq.out,?_,?_,kG.out,by rw[List.map_set];exact h2.out⟩
      ·rw[hlen,h,List.take_add_one,List.take_set_of_le Nh,xf.out,List.getElem?_set_self (by rw[rq.out];exact yL)];rfl
      ·rw[List.drop_set_of_lt LM];exact Lu z1
     case measure=>simp[intOf];omega
   ·have Hv:m=aR:=LM;subst Hv;have yL:l<m:=LM;have hm:0<m - l:=LM;have DV:Hid (∀ j,j<m - l->(wr.cell? (LD g (l+j))).isSome=true):=λj aT=>by
     rw[hown.cellAt (l+j) LM,zalai (by rw[zalag,rq.out];omega)];rfl
    have fZ:Hid (∀ j,j<m - l->wr.frozen? (LD g (l+j))=false):=λj _=>hown.frozenAt (l+j);have EZ:=hide (Lib.run_clear_slice (P:=prog) wr 46 22 0 Pe zalbk (λ_=>by kernel_rfl) rfl rfl g l (m - l) (cap - l) hm DV.out fZ.out);have B4:Si del (ps.take m)=Si del ps:=by rw[b3.out,zalaq]
    have Fb:=hide B4;have Kj:(l:Int)<=(m:Int):=LM;clear B4;go_wp2_with fail;rw[EZ.out];go_simp;go_wp2;go_ret;obtain⟨mD,hy,v',H7⟩:=Ym (List.replicate (m - l) Pe) l wr _ HOWN.out;have W:=afl hy (m:=l) LM;refine⟨⟨_,rfl,?_⟩,gT uK.out H7⟩;rw[v',<-zaldl,xf.out] at W;have e:=Lu Fb;rw[<-e];have a4:=Lu cQ;rw[<-a4];exact W
section
variable (w:LK) (p tb:Nat) (aQ:Option Addr) (st dk:Bool)
include w p tb aQ st dk
def tlD (kd:Int)(dj:Option Addr)(kn cY:Nat)(Q:LK->Prop)(c0:w.cell? (LD p 0)=some (LJ kd))(c3:w.cell? (LD p 3)=some (.slice dj kn cY))(KS:(kd==23)=false)(e1:(kd==1)=false)(kr:(kd==6)=false)(KR:(kd==13)=false)(pw:(kd==9)=false)(iz:(kd==5)=false)(KT:(kd==37)=false)(KU:(kd==40)=false)(bB:∀ X,LX w X->MC 118 #[LC p] X λe w'=>e=MN (L9 dk)/\w'=X)(h9:∀ X,LX w X->MC 127 #[MX tb,.slice dj kn cY,Pv (.pointer aQ) (st||dk)] X λe w'=>e=MN (.tuple #[])/\Q w') :
  MC 68 #[MX tb,LC p,Pv (.pointer aQ) st] w λe w'=>e=MN (.tuple #[])/\Q w':=by
 have bF:=cell_lt c0;have cK:=hide c3;have dm:=hide bB;have gY:=hide h9;clear bB h9
 cases st with
 | true=>
  rw[zalco] at gY;have A{G}(h:G:=by
  have A{G}(h:G:=by
  have A{G}(h:G:=by
  have A{G}(h:G:=by
  have A{G}(h:G:=by
  refine ug 5 (Pv (.pointer aQ) true) rfl (zalad ⟨by kernel_rfl,λX aB=>by have aJ:=Md aB fj.out;have E:=Md aB ea.out;go_simp⟩) aE ?_
  exact aDB):=LG h;exact aqU):=LG h;exact aB3):=LG h;exact aud):=LG h;exact apU):=LG h;exact azN
 | false=>
  rw[zalbn] at gY;have A{G}(h:G:=by
  have A{G}(h:G:=by
  have ea:Hid (w2.cell? (LD w.heap.size 1)=some (L9 dk)):=by show _=_;rw[cell_of cU.out];rfl
  have A{G}(h:G:=by
  have A{G}(h:G:=by
  refine ug 5 (Pv (.pointer aQ) dk) rfl (zalad ⟨by kernel_rfl,λX aB=>by have aJ:=Md aB fj.out;have E:=Md aB ea.out;go_simp⟩) aE ?_
  exact aDB):=LG h;exact aqU):=LG h;exact aB3):=LG h;exact apU):=LG h;exact zst
def aG4 (Q:LK->Prop)(c0:w.cell? (LD p 0)=some (LJ 40))(bB:∀ X,LX w X->MC 118 #[LC p] X λe w'=>e=MN (L9 dk)/\w'=X)(ac:∀ X,LX w X->Q X) :
  MC 68 #[MX tb,LC p,Pv (.pointer aQ) st] w λe w'=>e=MN (.tuple #[])/\Q w':=by
 have bF:=cell_lt c0;have dm:=hide bB;have aG:=hide ac;clear bB ac
 cases st with
 | true=>
  have A{G}(h:G:=by
  exact Ug (v:=.tuple #[]) ⟨rfl,Lu aG _ bj.out⟩):=LG h;exact azN
 | false=>
  have A{G}(h:G:=by
  exact Ug (v:=.tuple #[]) ⟨rfl,Lu aG _ bj.out⟩):=LG h;exact zst
end
def tl9 (w:LK)(p tb cn bC:Nat)(aQ:Option Addr)(st dk:Bool)(g kn cY:Nat)(I:Nat->Prop)(A4 Q:LK->Prop)(c0:w.cell? (LD p 0)=some (LJ 9))(c3:w.cell? (LD p 3)=some (.slice (some (LD g 0)) kn cY))(ct:w.cell? (LD g 0)=some (LC cn))(d1:w.cell? (LD g 1)=some (LC bC))(yI:2<=kn)(lE:I p)(tp:I g)
  (bB:∀ X,LX w X->MC 118 #[LC p] X λe w'=>e=MN (L9 dk)/\w'=X)
  (mw:∀ X,LX w X->MC 68 #[MX tb,LC cn,Pv (.pointer aQ) (st||dk)] X λe w'=>e=MN (.tuple #[])/\Fm (λb=>I b\/(w.heap.size<=b/\b<X.heap.size)) X w'/\A4 w')
  (h9:∀ X Y b,A4 X->LX X Y->X.heap.size<=b->Y.heap[b]? = some (UN 0 QJ true (.pointer aQ))->MC 68 #[MX tb,LC bC,Pv (MX b) (st||dk)] Y λe w'=>e=MN (.tuple #[])/\Q w') :
  MC 68 #[MX tb,LC p,Pv (.pointer aQ) st] w λe w'=>e=MN (.tuple #[])/\Q w':=by
 have bF:=cell_lt c0;have de:=cell_lt ct;have hm:¬ kn=0:=LM;have eH:¬ (kn:Int)<=1:=LM;have cK:=hide c3;have uG:=hide ct;have js:=hide d1;have rg:=hide lE;have Eh:=hide tp;have dm:=hide bB;have ka:=hide mw;have gY:=hide h9;clear bB h9 mw c3 ct d1 yI lE tp
 cases st with
 | true=>
  rw[zalco] at gY ka;have A{G}(h:G:=by
  have em:=hide (Md bj.out cK.out);have uI:=hide (Md bj.out uG.out);have jt:=hide (Md bj.out js.out);have A{G}(h:G:=by
  have A{G}(h:G:=by
  refine uc 7 (Pv (.pointer aQ) true) rfl (zalad ⟨by kernel_rfl,λX aB=>by have aJ:=Md aB fj.out;have E:=Md aB ea.out;go_simp⟩) aE ?_
  have A{G}(h:G:=by
  have sX:Hid (bn.cell? (LD w.heap.size 1)=some (L9 true)):=(tG.cell (zalal ⟨Nh,lM⟩) lM).trans (Md aE ea.out);have A{G}(h:G:=by
  refine uc 7 (Pv (.pointer aQ) true) rfl (zalad ⟨by kernel_rfl,λX aB=>by have aJ:=Md aB vg.out;have E:=Md aB sX.out;go_simp⟩) dK ?_
  refine uh 8 (.agg #[LJ 0,QJ,L9 true,Pe]) dK ?_;refine Qh 9 λK U=>?_;go_simp;refine cm (Ur aQ true 0 none 0 0 true none dA) ?_;exact aEc):=LG h;exact aAc):=LG h;exact aAM):=LG h;exact aAI):=LG h;exact af0):=LG h;exact zsx
 | false=>
  rw[zalbn] at gY ka;have A{G}(h:G:=by
  have em:=hide (Md bj.out cK.out);have uI:=hide (Md bj.out uG.out);have jt:=hide (Md bj.out js.out);have A{G}(h:G:=by
  have A{G}(h:G:=by
  refine uc 7 (Pv (.pointer aQ) dk) rfl (zalad ⟨by kernel_rfl,λX aB=>by have aJ:=Md aB fj.out;have E:=Md aB ea.out;go_simp⟩) aE ?_
  have A{G}(h:G:=by
  have sX:Hid (bn.cell? (LD w.heap.size 1)=some (L9 dk)):=(tG.cell (zalal ⟨Nh,lM⟩) lM).trans (Md aE ea.out);have A{G}(h:G:=by
  refine uc 7 (Pv (.pointer aQ) dk) rfl (zalad ⟨by kernel_rfl,λX aB=>by have aJ:=Md aB vg.out;have E:=Md aB sX.out;go_simp⟩) dK ?_
  refine uh 8 (.agg #[LJ 0,QJ,L9 true,Pe]) dK ?_;refine Qh 9 λK U=>?_;go_simp;refine cm (Ur aQ dk 0 none 0 0 true none dA) ?_;exact aEc):=LG h;exact aAc):=LG h;exact aAM):=LG h;exact aAI):=LG h;exact af0):=LG h;exact zsr
structure Stk (c:PC)(w:LK)(k:Int)(i:Nat)(L:LK):Prop where
 ps:Ps c L i 0 (-1)
 nd:L.heap[w.heap.size]? = some (MB k LH 0 (.slice none 0 0))
 ap:Ap c.P w.heap.size w L
section
variable {c:PC} {w:LK}
include c w
def Stk.below {k:Int}{i:Nat}{L bJ:LK}(h:Stk c w k i L)(D:LX L bJ):Stk c w k i bJ:=⟨h.ps.later D,(D.block _ (lt_of_heap h.nd)).trans h.nd,h.ap.next (Ap.of D)⟩
def Stn.kind {i:Nat}{L:LK}(h:Stn c w i L)(gK:c.lo<=w.heap.size)(k:Int):Stk c w k i (L.setCell (LD w.heap.size 0) (LJ k)):=
 ⟨h.ps.ap ((zalbd w.heap.size L).setCell (p:=(LD w.heap.size 0)) Nh _) gK,by rw[heap_set h.nd];rfl,h.ap.setCell (p:=(LD w.heap.size 0)) (zalad Nh) _⟩
def Stk.kind {k0:Int}{i:Nat}{L:LK}(h:Stk c w k0 i L)(gK:c.lo<=w.heap.size)(k:Int):Stk c w k i (L.setCell (LD w.heap.size 0) (LJ k)):=
 ⟨h.ps.ap ((zalbd w.heap.size L).setCell (p:=(LD w.heap.size 0)) Nh _) gK,by rw[heap_set h.nd];rfl,h.ap.setCell (p:=(LD w.heap.size 0)) (zalad Nh) _⟩
def Stk.stepped {k:Int}{i:Nat}{L:LK}(h:Stk c w k i L)(fT:c.P<w.heap.size)(ab:i+1<c.l.length):Stk c w k (i+1) (L.setCell (LD c.P 1) (LJ ((i:Int)+1))):=by
 have av:((i:Int)+1)=(((i+1:Nat)):Int):=LM;rw[av];exact⟨h.ps.step ab,by rw[zalap _ _ _ _ (by first|exact Nat.ne_of_gt fT|exact zalgc fT)];exact h.nd,h.ap.setCell (p:=(LD c.P 1)) (zalal rfl) _⟩
end
section
variable {c:PC} {F:OQ} (ai:ZW c F) (aN:∃ k,VW c.l k F) (U:ZK F) (w:LK) (d i:Nat) (r:PR Tr) (aD:d<=30)
include c F ai aN U w d i r aD
def ajf (an:fx c.l i=QO)(W:r=if ¬ fx c.l (i+1)=Nb then (MO c.l F.vl d (i+1)).bind λv az=>(MG c.l Nb az).bind λ_ aX=>.ok (.mk 10 LH 0 [v]) aX else (MG c.l Nb (i+1)).bind λ_ aX=>.ok (.mk 10 LH 0 []) aX)(ay:r≠.out)(h:Ps c w i 0 (-1)) :
  MC 111 #[NW c,LJ (d:Int)] w (Oj c w (NV w.heap.size) ZN r):=by
 have A{G}(h:G:=by
 have A{G}(h:G:=by
 have A{G}(h:G:=by
 have aG:=hide W;clear W;have A{G}(h:G:=by
 have A{G}(h:G:=by
 have ag:=hide (OG c Dz i QO MK an vd.out.ps);go_wp2_with fail;refine NJ ?_;rintro e zH ⟨rfl,ae,aa⟩;have p2:=hide (vd.out.on a1.out ae aa);clear ay aN;have mG:=hide (p2.out.kind dl.out 10);have am:=NP c _ (i+1) Nb MK mG.out.ps;have aI:=p2.out.nd;have A{G}(h:G:=by
 clear aI
 by_cases af:fx c.l (i+1)=Nb
 ·rw[zalaz af] at am;have ag:=hide am;rw[zalah (λh=>h af)] at aG;clear af;have A{G}(h:G:=by
  have bS:=hide fu.out.ap;have b3:Hid (NV w.heap.size gR (.mk 10 LH 0 []) (LC w.heap.size)):=aaw Nh fu.out.nd YO LU.nil;have b9:=hide (O9 c gR (i+1) Nb MK fu.out.ps);have bY:=aG;go_wp2_with fail;refine Ul ?_;intro e wz ae
  cases bG:MG c.l Nb (i+1) with
  | out=>rw[bG] at bY;exact absurd bY.out bb.out
  | bad er pl=>
   exact arn
  | ok x a8=>
   rw[bG] at ae bY;have ac:r=.ok (.mk 10 LH 0 []) a8:=Lu bY;exact aro):=LG h;exact aqW
 ·rw[zalaw af] at am;have ag:=hide am;rw[zalak af] at aG;clear af;have A{G}(h:G:=by
  cases T:MO c.l F.vl d (i+1) with
  | out=>rw[T] at aG;exact absurd aG.out bb.out
  | bad er pl=>
   have ag:=hide (bN.out.vl gR d (i+1) _ aD T.symm (by nofun) fu.out.ps);have A{G}(h:G:=by
   refine NJ ?_;rintro e cs ⟨⟨v,rfl,q,rfl⟩,⟨j,cv⟩,he,aa⟩;have A{G}(h:G:=by
   have aV:Hid (Below w.heap.size cs ((cs.setCell (LD w.heap.size 3) (.slice (some (LD cs.heap.size 0)) 1 1)).alloc (.cells #[LC q] 22))):=((zalbd w.heap.size cs).setCell (p:=(LD w.heap.size 3)) Nh _).alloc OM _;exact avx):=LG h;exact aBp):=LG h;exact aqT
  | ok t j=>
   have ag:=hide (bN.out.vl gR d (i+1) _ aD T.symm (by nofun) fu.out.ps);rw[T] at aG;have ac:r=(MG c.l Nb j).bind λ_ aX=>.ok (.mk 10 LH 0 [t]) aX:=Lu aG;have A{G}(h:G:=by
   have A{G}(h:G:=by
   have A{G}(h:G:=by
   have bk:=hide (cv.ap aV.out dl.out);have b3:Hid (NV w.heap.size ((cs.setCell (LD w.heap.size 3) (.slice (some (LD cs.heap.size 0)) 1 1)).alloc (.cells #[LC q] 22)) (.mk 10 LH 0 [t]) (LC w.heap.size)):=Zr Nh (lt_of_heap fu.out.nd) (set1 cs w.heap.size _) MP aa.size (by rw[heap_set aI];rfl) (LU.cons av LU.nil) rfl #[LC q] rfl (by simp[maxLen])
   have A{G}(h:G:=by
   cases bG:MG c.l Nb j with
   | out=>rw[bG] at bY;exact absurd bY.out bb.out
   | bad er pl=>
    exact arn
   | ok x a8=>
    rw[bG] at ae bY;have ac:r=.ok (.mk 10 LH 0 [t]) a8:=Lu bY;exact aro):=LG h;exact auS):=LG h;exact az0):=LG h;exact aBp):=LG h;exact auR):=LG h;exact aqW):=LG h;exact XZ):=LG h;exact at1):=LG h;exact zsb):=LG h;exact aBa):=LG h;exact afY):=LG h;exact af2
def amK (an:fx c.l i=QN)(W:r=(Px c.l F d (i+1)).bind λv az=>(MO c.l F.st d az).bind λs aX=>.ok (.mk 8 LH 0 [v,s]) aX)(ay:r≠.out)(h:Ps c w i 0 (-1)) :
  MC 111 #[NW c,LJ (d:Int)] w (Oj c w (NV w.heap.size) ZN r):=by
 have A{G}(h:G:=by
 have A{G}(h:G:=by
 have fE:¬ fx c.l i=tIf:=by rw[an];decide
 have A{G}(h:G:=by
 rw[zalaz an] at am;have br{G}(h:G:=by
 have aG:=hide W;clear ay W aN;have ab:=Sj nP.out.ps.base.ends nP.out.ps.lt an MK;have k3:=nP.out.ps.base.len;have mG:=hide (nP.out.kind dl.out 8);have am:=NP c _ i QU MK mG.out.ps;rw[zalaw (by rw[an];decide)] at am
 have ag:=hide am;have aI:=nP.out.nd;have A{G}(h:G:=by
 clear aI;have A{G}(h:G:=by
 have dg:=fu.out.ps.c1;have pE:=fu.out.ps.fz 1;have a7:=fu.out.ps.SB;have jC:c.P<w.heap.size:=Lu a1;have aI:=fu.out.nd;have A{G}(h:G:=by
 clear aI;have e3:=hide (fu.out.stepped a1.out ab)
 cases T:Px c.l F d (i+1) with
 | out=>rw[T] at aG;exact absurd aG.out bb.out
 | bad er pl=>
  exact aCR
 | ok t j=>
  have br{G}(h:G:=by
  have bY:Hid (r=(MO c.l F.st d j).bind λs aX=>.ok (.mk 8 LH 0 [t,s]) aX):=Lu aG;have A{G}(h:G:=by
  clear c0 c1 c2 c3 dx lx h4 ey dg pE
  cases T:MO c.l F.st d j with
  | out=>rw[T] at bY;exact absurd bY.out bb.out
  | bad er pl=>
   exact aC9
  | ok s a8=>
   have A{G}(h:G:=by
   have ac:r=.ok (.mk 8 LH 0 [t,s]) a8:=Lu bY;subst ac;clear T;go_wp2_with fail;refine Ul ?_;rintro e cs ⟨⟨v,rfl,dM,rfl,gy⟩,bE,cI⟩;have A{G}(h:G:=by
   have A{G}(h:G:=by
   have b3:Hid (NV w.heap.size ((cs.setCell (LD w.heap.size 3) (.slice (some (LD cs.heap.size 0)) 2 2)).alloc (.cells #[LC q,LC dM] 22)) (.mk 8 LH 0 [t,s]) (LC w.heap.size)):=Zr Nh vh.out (set1 cs w.heap.size _) MP (zalan jz.out cI.size) (by rw[heap_set aI];rfl) zu rfl #[LC q,LC dM] rfl (by simp[maxLen])
   clear aI;go_wp2;go_ret;exact⟨⟨_,rfl,b3.out⟩,bk.out,bS.out⟩):=LG h;exact auz):=LG h;exact an2):=LG h;exact an6):=LG h;exact aug):=LG h;exact ztz):=LG h;exact XZ):=LG h;exact aqW):=LG h;exact XZ):=LG h;exact atV):=LG h;exact zsc):=LG h;exact azT):=LG h;exact af2
def ao8 (an:fx c.l i=QU)(W:r=(Px c.l F d (i+1)).bind λv az=>(MO c.l F.st d az).bind λs aX=>.ok (.mk 9 LH 0 [v,s]) aX)(ay:r≠.out)(h:Ps c w i 0 (-1)) :
  MC 111 #[NW c,LJ (d:Int)] w (Oj c w (NV w.heap.size) ZN r):=by
 have A{G}(h:G:=by
 have A{G}(h:G:=by
 have A{G}(h:G:=by
 rw[zalaw jI] at am;have br{G}(h:G:=by
 have am:=NP c bn i QU MK nP.out.ps;rw[zalaz an] at am;have ag:=hide am;go_wp2_with fail;refine NJ ?_;rintro e cM ⟨rfl,D⟩;have jy:=hide (nP.out.below D);have aG:=hide W;clear ay W aN;have ab:=Sj jy.out.ps.base.ends jy.out.ps.lt an MK;have k3:=jy.out.ps.base.len;have mG:=hide (jy.out.kind dl.out 8);have am:=NP c _ i QU MK mG.out.ps;rw[zalaz an] at am;have ag:=hide am;have aI:=jy.out.nd;have A{G}(h:G:=by
 clear aI;have A{G}(h:G:=by
 have dg:=fu.out.ps.c1;have pE:=fu.out.ps.fz 1;have a7:=fu.out.ps.SB;have jC:c.P<w.heap.size:=Lu a1;have aI:=fu.out.nd;have A{G}(h:G:=by
 clear aI;have e3:=hide ((fu.out.kind dl.out 9).stepped a1.out ab)
 cases T:Px c.l F d (i+1) with
 | out=>rw[T] at aG;exact absurd aG.out bb.out
 | bad er pl=>
  exact aCR
 | ok t j=>
  have br{G}(h:G:=by
  have bY:Hid (r=(MO c.l F.st d j).bind λs aX=>.ok (.mk 9 LH 0 [t,s]) aX):=Lu aG;have A{G}(h:G:=by
  clear c0 c1 c2 c3 dx lx h4 ey dg pE
  cases T:MO c.l F.st d j with
  | out=>rw[T] at bY;exact absurd bY.out bb.out
  | bad er pl=>
   exact aC9
  | ok s a8=>
   have A{G}(h:G:=by
   have ac:r=.ok (.mk 9 LH 0 [t,s]) a8:=Lu bY;subst ac;clear T;go_wp2_with fail;refine Ul ?_;rintro e cs ⟨⟨v,rfl,dM,rfl,gy⟩,bE,cI⟩;have A{G}(h:G:=by
   have A{G}(h:G:=by
   have b3:Hid (NV w.heap.size ((cs.setCell (LD w.heap.size 3) (.slice (some (LD cs.heap.size 0)) 2 2)).alloc (.cells #[LC q,LC dM] 22)) (.mk 9 LH 0 [t,s]) (LC w.heap.size)):=Zr Nh vh.out (set1 cs w.heap.size _) MP (zalan jz.out cI.size) (by rw[heap_set aI];rfl) zu rfl #[LC q,LC dM] rfl (by simp[maxLen])
   clear aI;go_wp2;go_ret;exact⟨⟨_,rfl,b3.out⟩,bk.out,bS.out⟩):=LG h;exact auz):=LG h;exact an2):=LG h;exact an6):=LG h;exact aug):=LG h;exact ztz):=LG h;exact XZ):=LG h;exact aqW):=LG h;exact XZ):=LG h;exact atV):=LG h;exact zsc):=LG h;exact afY):=LG h;exact af2
end
structure Stx (c:PC)(w:LK)(k:Int)(tx:LW)(i:Nat)(L:LK):Prop where
 ps:Ps c L i 0 (-1)
 nd:L.heap[w.heap.size]? = some (MB k tx 0 (.slice none 0 0))
 ap:Ap c.P w.heap.size w L
section
variable {c:PC} {w:LK} {k:Int}
include c w k
def Stx.below {tx:LW}{i:Nat}{L bJ:LK}(h:Stx c w k tx i L)(D:LX L bJ):Stx c w k tx i bJ:=⟨h.ps.later D,(D.block _ (lt_of_heap h.nd)).trans h.nd,h.ap.next (Ap.of D)⟩
def Stk.on {i j:Nat}{L bJ:LK}(h:Stk c w k i L)(fT:c.P<w.heap.size)(ae:Ps c bJ j 0 (-1))(aa:Ap c.P L.heap.size L bJ):Stk c w k j bJ:=⟨ae,(aa.block _ (lt_of_heap h.nd) LM).trans h.nd,h.ap.next aa⟩
def Stx.on {tx:LW}{i j:Nat}{L bJ:LK}(h:Stx c w k tx i L)(fT:c.P<w.heap.size)(ae:Ps c bJ j 0 (-1))(aa:Ap c.P L.heap.size L bJ):Stx c w k tx j bJ:=⟨ae,(aa.block _ (lt_of_heap h.nd) LM).trans h.nd,h.ap.next aa⟩
def Stk.text {i:Nat}{L:LK}(h:Stk c w k i L)(gK:c.lo<=w.heap.size)(tx:LW):Stx c w k tx i (L.setCell (LD w.heap.size 1) (LQ tx)):=
 ⟨h.ps.ap ((zalbd w.heap.size L).setCell (p:=(LD w.heap.size 1)) Nh _) gK,by rw[heap_set h.nd];rfl,h.ap.setCell (p:=(LD w.heap.size 1)) (zalad Nh) _⟩
end
def dcs:List (LW × Int):=[(Oo,2),(Ov,3),(MS,4)]
def dcK (s:LW):Int:=(Np dcs s).getD 0
section
variable (s:LW)
include s
def as8:Np [(Oo,2),(Ov,3),(MS,4)] s=Np dcs s:=akZ
def as9:Np [(Oo,2),(MS,4),(Ov,3)] s=Np dcs s:=akZ
def ata:Np [(Ov,3),(Oo,2),(MS,4)] s=Np dcs s:=akZ
def atb:Np [(Ov,3),(MS,4),(Oo,2)] s=Np dcs s:=akZ
def atc:Np [(MS,4),(Oo,2),(Ov,3)] s=Np dcs s:=akZ
def atd:Np [(MS,4),(Ov,3),(Oo,2)] s=Np dcs s:=akZ
end
def ak0 (L:LK):∃ lS aw lT zo zp zq zr zs zt t7 t8 t9 ua ub ud:Array MapEntry,
  (Instr.makeMap 89 none).run prog L=.ok (.map (some L.heap.size)) (L.alloc (.map #[] 0))
  /\ (Instr.mapUpdate 89 (.map (some L.heap.size)) (LQ Oo) (LJ 2)).run prog (L.alloc (.map #[] 0))=.ok () (L.alloc (.map lS 1))
  /\ (Instr.mapUpdate 89 (.map (some L.heap.size)) (LQ Ov) (LJ 3)).run prog (L.alloc (.map #[] 0))=.ok () (L.alloc (.map aw 1))
  /\ (Instr.mapUpdate 89 (.map (some L.heap.size)) (LQ MS) (LJ 4)).run prog (L.alloc (.map #[] 0))=.ok () (L.alloc (.map lT 1))
  /\ (Instr.mapUpdate 89 (.map (some L.heap.size)) (LQ Ov) (LJ 3)).run prog (L.alloc (.map lS 1))=.ok () (L.alloc (.map zo 2))
  /\ (Instr.mapUpdate 89 (.map (some L.heap.size)) (LQ MS) (LJ 4)).run prog (L.alloc (.map lS 1))=.ok () (L.alloc (.map zp 2))
  /\ (Instr.mapUpdate 89 (.map (some L.heap.size)) (LQ Oo) (LJ 2)).run prog (L.alloc (.map aw 1))=.ok () (L.alloc (.map zq 2))
  /\ (Instr.mapUpdate 89 (.map (some L.heap.size)) (LQ MS) (LJ 4)).run prog (L.alloc (.map aw 1))=.ok () (L.alloc (.map zr 2))
  /\ (Instr.mapUpdate 89 (.map (some L.heap.size)) (LQ Oo) (LJ 2)).run prog (L.alloc (.map lT 1))=.ok () (L.alloc (.map zs 2))
  /\ (Instr.mapUpdate 89 (.map (some L.heap.size)) (LQ Ov) (LJ 3)).run prog (L.alloc (.map lT 1))=.ok () (L.alloc (.map zt 2))
  /\ (Instr.mapUpdate 89 (.map (some L.heap.size)) (LQ MS) (LJ 4)).run prog (L.alloc (.map zo 2))=.ok () (L.alloc (.map t7 3))
  /\ (Instr.mapUpdate 89 (.map (some L.heap.size)) (LQ Ov) (LJ 3)).run prog (L.alloc (.map zp 2))=.ok () (L.alloc (.map t8 3))
  /\ (Instr.mapUpdate 89 (.map (some L.heap.size)) (LQ MS) (LJ 4)).run prog (L.alloc (.map zq 2))=.ok () (L.alloc (.map t9 3))
  /\ (Instr.mapUpdate 89 (.map (some L.heap.size)) (LQ Oo) (LJ 2)).run prog (L.alloc (.map zr 2))=.ok () (L.alloc (.map ua 3))
  /\ (Instr.mapUpdate 89 (.map (some L.heap.size)) (LQ Ov) (LJ 3)).run prog (L.alloc (.map zs 2))=.ok () (L.alloc (.map ub 3))
  /\ (Instr.mapUpdate 89 (.map (some L.heap.size)) (LQ Oo) (LJ 2)).run prog (L.alloc (.map zt 2))=.ok () (L.alloc (.map ud 3))
  /\ (∀ s,(Instr.lookup 89 (.map (some L.heap.size)) (LQ s) false).run prog (L.alloc (.map t7 3))=.ok (LJ (dcK s)) (L.alloc (.map t7 3)))
  /\ (∀ s,(Instr.lookup 89 (.map (some L.heap.size)) (LQ s) false).run prog (L.alloc (.map t8 3))=.ok (LJ (dcK s)) (L.alloc (.map t8 3)))
  /\ (∀ s,(Instr.lookup 89 (.map (some L.heap.size)) (LQ s) false).run prog (L.alloc (.map t9 3))=.ok (LJ (dcK s)) (L.alloc (.map t9 3)))
  /\ (∀ s,(Instr.lookup 89 (.map (some L.heap.size)) (LQ s) false).run prog (L.alloc (.map ua 3))=.ok (LJ (dcK s)) (L.alloc (.map ua 3)))
  /\ (∀ s,(Instr.lookup 89 (.map (some L.heap.size)) (LQ s) false).run prog (L.alloc (.map ub 3))=.ok (LJ (dcK s)) (L.alloc (.map ub 3)))
  /\ (∀ s,(Instr.lookup 89 (.map (some L.heap.size)) (LQ s) false).run prog (L.alloc (.map ud 3))=.ok (LJ (dcK s)) (L.alloc (.map ud 3))):=
 ⟨mapOf (NY [(Oo,2)]),mapOf (NY [(Ov,3)]),mapOf (NY [(MS,4)]),mapOf (NY [(Oo,2),(Ov,3)]),mapOf (NY [(Oo,2),(MS,4)]),mapOf (NY [(Ov,3),(Oo,2)]),mapOf (NY [(Ov,3),(MS,4)]),mapOf (NY [(MS,4),(Oo,2)]),mapOf (NY [(MS,4),(Ov,3)]),mapOf (NY [(Oo,2),(Ov,3),(MS,4)]),mapOf (NY [(Oo,2),(MS,4),(Ov,3)]),mapOf (NY [(Ov,3),(Oo,2),(MS,4)]),mapOf (NY [(Ov,3),(MS,4),(Oo,2)]),mapOf (NY [(MS,4),(Oo,2),(Ov,3)]),mapOf (NY [(MS,4),(Ov,3),(Oo,2)]),
  mkMap 89 L,
  NU 89 3 L (NY []) Oo _ 0 _ _ rfl rfl rfl zalbj (by decide +kernel),
  NU 89 3 L (NY []) Ov _ 0 _ _ rfl rfl rfl zalbj (by decide +kernel),
  NU 89 3 L (NY []) MS _ 0 _ _ rfl rfl rfl zalbj (by decide +kernel),
  NU 89 3 L (NY [(Oo,2)]) Ov _ 1 _ _ rfl rfl rfl zalbj (by decide +kernel),
  NU 89 3 L (NY [(Oo,2)]) MS _ 1 _ _ rfl rfl rfl zalbj (by decide +kernel),
  NU 89 3 L (NY [(Ov,3)]) Oo _ 1 _ _ rfl rfl rfl zalbj (by decide +kernel),
  NU 89 3 L (NY [(Ov,3)]) MS _ 1 _ _ rfl rfl rfl zalbj (by decide +kernel),
  NU 89 3 L (NY [(MS,4)]) Oo _ 1 _ _ rfl rfl rfl zalbj (by decide +kernel),
  NU 89 3 L (NY [(MS,4)]) Ov _ 1 _ _ rfl rfl rfl zalbj (by decide +kernel),
  NU 89 3 L (NY [(Oo,2),(Ov,3)]) MS _ 2 _ _ rfl rfl rfl zalbj (by decide +kernel),
  NU 89 3 L (NY [(Oo,2),(MS,4)]) Ov _ 2 _ _ rfl rfl rfl zalbj (by decide +kernel),
  NU 89 3 L (NY [(Ov,3),(Oo,2)]) MS _ 2 _ _ rfl rfl rfl zalbj (by decide +kernel),
  NU 89 3 L (NY [(Ov,3),(MS,4)]) Oo _ 2 _ _ rfl rfl rfl zalbj (by decide +kernel),
  NU 89 3 L (NY [(MS,4),(Oo,2)]) Ov _ 2 _ _ rfl rfl rfl zalbj (by decide +kernel),
  NU 89 3 L (NY [(MS,4),(Ov,3)]) Oo _ 2 _ _ rfl rfl rfl zalbj (by decide +kernel),
  λs=>(SX L.heap.size 3 [(Oo,2),(Ov,3),(MS,4)] s _ (LP _ _)).trans (by rw[as8 s];rfl),
  λs=>(SX L.heap.size 3 [(Oo,2),(MS,4),(Ov,3)] s _ (LP _ _)).trans (by rw[as9 s];rfl),
  λs=>(SX L.heap.size 3 [(Ov,3),(Oo,2),(MS,4)] s _ (LP _ _)).trans (by rw[ata s];rfl),
  λs=>(SX L.heap.size 3 [(Ov,3),(MS,4),(Oo,2)] s _ (LP _ _)).trans (by rw[atb s];rfl),
  λs=>(SX L.heap.size 3 [(MS,4),(Oo,2),(Ov,3)] s _ (LP _ _)).trans (by rw[atc s];rfl),
  λs=>(SX L.heap.size 3 [(MS,4),(Ov,3),(Oo,2)] s _ (LP _ _)).trans (by rw[atd s];rfl)⟩
def Yn (c:PC)(w L:LK):Prop:=L.heap[c.P]? = w.heap[c.P]?/\L.heap[c.tb]? = w.heap[c.tb]?
section
variable {c:PC} {w L:LK} (h:Yn c w L)
include c w L h
def Yn.cell (o:Nat):L.cell? (LD c.P o)=w.cell? (LD c.P o):=zalar (w:=w) h.1
def Yn.tok (o:Nat):L.cell? (LD c.tb o)=w.cell? (LD c.tb o):=zalar (w:=w) h.2
def Yn.alloc (ae:c.P<L.heap.size)(aH:c.tb<L.heap.size)(o:Obj):Yn c w (L.alloc o):=⟨(zalaa L o _ ae).trans h.1,(zalaa L o _ aH).trans h.2⟩
def Yn.set {aR o:Nat}{v:LY}(ae:c.P≠aR)(aH:c.tb≠aR):Yn c w (L.setCell (LD aR o) v):=⟨(zalap L (LD aR o) v _ ae).trans h.1,(zalap L (LD aR o) v _ aH).trans h.2⟩
end
def aFt {G:Array MapEntry->Prop}{goal:Prop}(E:(∀ m,G m)->goal)(O:∀ m,G m):goal:=E O
def Stn.decl {c:PC}{w:LK}{i:Nat}{L fl:LK}(h:Stn c w i L)(gK:c.lo<=w.heap.size)(aJ:fl=L.drew)(o:Obj)(k:Int):Stk c w k i ((fl.setCell (LD w.heap.size 0) (LJ k)).alloc o):=by
 subst aJ;exact((h.below (zalbd L.heap.size L).drew).kind gK k).below (O4.alloc Nh o)
