import Derived.Test.YtoimgcjbcbhclaaGreatDoorAz11
import Derived.Test.YtoimgcjbcbhclaaGreatDoorAz12
import Derived.Laws.OwnMore
import Derived.Lib.AppendZerosOnto
import Derived.Lib.Walk
import Derived.Lib.SliceRun
import Derived.Test.YtoimgcjbcbhclaaGreatDoorAz6
set_option maxRecDepth 100000
set_option maxHeartbeats 0
set_option linter.all false
namespace Go.Proofs.YtoimgcjbcbhclaaGreatDoor
open Go.RowKit Go.Proofs.Tryz
def abD {c:PC}{F:OQ}(ai:ZW c F)(aN:∃ k,VW c.l k F)(U:ZK F)(w:LK)(d i:Nat)(r:PR Tr)(aD:d<=30)(W:r=Vh c.l F d i)(ay:r≠.out)(h:Ps c w i 0 (-1)) :
  MC 297 #[NW c,LJ (d:Int)] w (Oj c w (NV w.heap.size) ZN r):=by
 unfold Vh at W
 by_cases E:(MJ c.l i).kd=1
 ·rw[zalak E] at W;subst W;exact ahp w d i E h
 ·rw[zalah E] at W
  by_cases ao:(MJ c.l i).kd=3
  ·rw[zalak ao] at W;subst W;exact ai6 w d i ao h
  ·rw[zalah ao] at W
   by_cases aM:(MJ c.l i).kd=4
   ·rw[zalak aM] at W;subst W;exact ai7 w d i aM h
   ·rw[zalah aM] at W
    by_cases ae:fx c.l i=NZ
    ·rw[zalak ae] at W;exact ai8 ai w d i r aD E ao aM ae W ay h
    ·rw[zalah ae] at W
     by_cases an:fx c.l i=MI
     ·rw[zalak an] at W;exact ai9 ai aN U w d i r aD E ao aM ae an W ay h
     ·rw[zalah an] at W
      by_cases D:fx c.l i=Nc
      ·rw[zalak D] at W;exact aja ai w d i r aD E ao aM ae an D W ay h
      ·rw[zalah D] at W
       by_cases ab:(MJ c.l i).kd=2/\0<abm (MJ c.l i).tx
       ·rw[zalak ab] at W;subst W;exact ajb w d i E ao aM ae an D ab.1 ab.2 h
       ·rw[zalah ab] at W;subst W;exact amC w d i E ao aM ae an D ab h
def aeT {P:Program}{w:LK}(base:Nat)(t eD e:TypeId)(i:TypeInfo)(size:Nat)(aH:P.underlying t=some (.slice e))(ak:P.info? e=some i)
  (v:LY) (n:Nat) (bQ:List LY) (hown:w.ownsRow base e size v n bQ) (ad:Option Addr) (k:Nat) :
  (Builtin.append_ #[t,t] eD #[v,.slice ad 0 k]).run P w=.ok v w:=ax7
def Wx {P:Program}{w:LK}{ops:Array Oper}{rest:List Oper}{o:Oper}{a:Act}{Q:Exit->Act->LK->Prop}(m3:o.guard=none)(s x:Operand)(t:TypeId)
  (ay:o.op=.call { callee:=.builtin .append,args:=#[s,x],argTypes:=#[t,t] })
  (base:Nat) (e:TypeId) (i:TypeInfo) (size:Nat) (aH:P.underlying t=some (.slice e)) (ak:P.info? e=some i)
  (v:LY) (n:Nat) (bQ:List LY) (W:a.eval s=v) (hown:w.ownsRow base e size v n bQ) (ad:Option Addr) (m k:Nat) (aA:m=0) (af:a.eval x=.slice ad m k)
  (h:wpList P ops Q rest (a.put o.dst v) w):wpList P ops Q (o::rest) a w:=by
 subst aA;refine wpList_plain m3 λK U=>?_;have hrun:=aeT (P:=P) (w:=w) base t o.type e i size aH ak v n bQ hown ad k;unfold Oper.wp;simp[execOp,ay,resolve,invoke,builtin,W,af,hrun,Result.andThen];exact U _ _ h
def ao5 {B:Nat}{w:LK}{t:Tr}{q:Nat}(h:NV B w t (LC q)):Nj (λb=>B<=b) w t q:=azi
def aar (w:LK)(q:Nat){B:Nat}(bA:B<=w.heap.size):(w.alloc (.cells #[LC q] 22)).ownsRow B 22 1 (.slice (some (LD w.heap.size 0)) 1 1) 1 [LC q]:=zalhe w #[LC q] 1 bA MK rfl
def adn {B:Nat}{w:LK}{g n cap:Nat}{ps:List Nat}(h:w.ownsRow B 22 1 (.slice (some (LD g 0)) n cap) n (ps.map LC))(o:Obj):∀ j u,(ps.map LC)[j]? = some u->(w.alloc o).cell? (((LD g 0):Addr).add j)=some u:=by
 intro j u aT;have O:=h.alloc o;have ab:j<n * 1:=by
  rw[<-h.1];exact(zalcy.1 aT).1
 have ao:=O.cellAt j ab;rw[aT] at ao;have aM:((LD g 0):Addr).add j=(LD g j):=by simp[Addr.add];exact Eq.symm
 rw[aM];exact ao
def aob {w:LK}{b n k:Nat}(e:(Value.slice (some (LD w.heap.size 0)) n k).ownBlock=some b):w.heap.size<=b:=by
 have a4:w.heap.size=b:=by simpa[Value.ownBlock] using e
 omega
def ar2 {w:LK}{b n k:Nat}(ab:b<w.heap.size):(Value.slice (some (LD w.heap.size 0)) n k).ownBlock≠some b:=by
 intro e;have a4:w.heap.size=b:=by simpa[Value.ownBlock] using e
 omega
def abE (ps:List Nat):∀ u ∈ ps.map LC,u.oneCell'=true:=by
 intro u aS;obtain⟨p,_,rfl⟩:=zalcn.1 aS;rfl
def amE (L:LK)(aR:Nat)(aN:aR=L.heap.size):∃ bZ cf:Array MapEntry,
  (Instr.makeMap 89 none).run prog L=.ok (.map (some aR)) (L.alloc (.map #[] 0))
  /\ (Instr.mapUpdate 89 (.map (some aR)) (LQ Z8) (LJ 32)).run prog (L.alloc (.map #[] 0))=.ok () (L.alloc (.map bZ 1))
  /\ (Instr.mapUpdate 89 (.map (some aR)) (LQ SG) (LJ 33)).run prog (L.alloc (.map bZ 1))=.ok () (L.alloc (.map cf 2))
  /\ (Instr.mapUpdate 89 (.map (some aR)) (LQ SH) (LJ 34)).run prog (L.alloc (.map cf 2))=.ok () (L.alloc (.map WL 3))
  /\ (Instr.range 89 (.map (some aR))).run prog (L.alloc (.map WL 3))=.ok (Mc (aR+1) 0) ((L.alloc (.map WL 3)).alloc (.mapIter (some aR) 3 #[] 3)):=by
 subst aN;exact ao2 L
def amF {e:MapEntry}(h:e ∈ WL.toList):∃ s kd,e.key=LQ s/\e.val=LJ kd/\s≠LH/\Np uns s=some kd:=by
 rcases ar0 h with ⟨E,O⟩|⟨E,O⟩|⟨E,O⟩
 all_goals
  exact⟨_,_,E,O,by decide,by decide +kernel⟩
structure Sgn (c:PC)(w:LK)(d i:Nat)(seen:Array Nat)(L:LK):Prop where
 itr:Itr (w.heap.size+1+1) seen L
 ps:Ps c L i 0 (-1)
 box:aak c w.heap.size (w.heap.size+1) d L
 ap:Ap c.P w.heap.size w L
 no:∀ e ∈ WL.toList,seen.contains e.born=true->e.key≠LQ (fx c.l i)
section
variable {c:PC} {w:LK} {d i:Nat} {seen:Array Nat}
include c w d i seen
def Sgn.all {L:LK}(h:Sgn c w d i seen L)(aJ:(leftOf WL seen).size=0):SA 1 (fx c.l i)=none:=by
 have hall:∀ e ∈ WL.toList,e.key≠LQ (fx c.l i):=by
  intro e he
  by_cases am:seen.contains e.born=true
  ·exact h.no e he am
  ·exfalso;have:e ∈ (leftOf WL seen).toList:=by
    unfold leftOf;rw[zalgu,zalcc];exact⟨he,by simpa using am⟩
   have E:(leftOf WL seen).toList=[]:=zalbr.1 (by rw[zalek];exact aJ)
   rw[E] at this;cases this
 have ab:WL.toList=[⟨LQ Z8,LJ 32,0⟩,⟨LQ SG,LJ 33,1⟩,⟨LQ SH,LJ 34,2⟩]:=rfl;rw[ab] at hall;have e1:¬ fx c.l i=Z8:=λa2=>hall _ (zalgy) (by rw[a2]);have e2:¬ fx c.l i=SG:=λa2=>hall _ (zalca _ zalgy) (by rw[a2]);have fE:¬ fx c.l i=SH:=λa2=>hall _ (zalca _ (zalca _ zalgy)) (by rw[a2]);have:=asI (fx c.l i);have aW:Np uns (fx c.l i)=none:=by
  unfold Np uns;simp[e1,e2,fE]
 rw[aW] at this
 cases W:SA 1 (fx c.l i) with
 | none=>rfl
 | some s=>rw[W] at this;cases this
def Sgn.step {L X:LK}{e:MapEntry}(h:Sgn c w d i seen L)(af:Itr (w.heap.size+1+1) (seen.push e.born) X)(D:∀ k,k≠w.heap.size+1+1+1->X.heap[k]? = L.heap[k]?)(ay:X.os=L.os)(aH:X.tape=L.tape)(aS:X.output=L.output)(b5:X.heap.size=L.heap.size)(gK:c.lo<=w.heap.size) :
  Itr (w.heap.size+1+1) (seen.push e.born) X/\Ps c X i 0 (-1)/\aak c w.heap.size (w.heap.size+1) d X/\Ap c.P w.heap.size w X:=by
 have bA:∀ B,B<=w.heap.size+1+1->Below B L X:=λB bA=>⟨ay,aH,aS,by omega,λk N=>D k LM⟩;exact⟨af,h.ps.ap (bA w.heap.size LM) gK,⟨h.box.p.below (bA _ Nh) LM,h.box.n.below (bA _ Nh) LM⟩,h.ap.trans (Ap.of (bA w.heap.size LM))⟩
end
def amG (c:PC)(w:LK)(d i:Nat)(h:Ps c w i 0 (-1)):Sgn c w d i #[] ((((w.alloc (ab3 c)).alloc (ab4 d)).alloc (.map WL 3)).alloc (.mapIter (some (w.heap.size+1+1)) 3 #[] 3)):=by
 have fT:=h.SB;refine⟨⟨?_,?_⟩,(((h.alloc _).alloc _).alloc _).alloc _,⟨⟨?_,by omega⟩,⟨?_,by omega⟩⟩,((((Ap.refl c.P w.heap.size w).alloc Nh _).alloc MP _).alloc OM _).alloc OM _,λe _ am=>by simp at am⟩
 ·exact V3 MP
 ·rw[zalaa _ _ _ MP];exact V3 MP
 ·rw[zalaa _ _ _ (by simp <;> omega),zalaa _ _ _ (by simp <;> omega),zalaa _ _ _ MP];exact V3 rfl
 ·rw[zalaa _ _ _ (by simp <;> omega),zalaa _ _ _ MP];exact V3 MP
def ahs {c:PC}{F:OQ}(ai:ZW c F)(aN:∃ k,VW c.l k F)(U:ZK F)(w:LK)(d i:Nat)(r:PR Tr)(aD:d<=30)(W:r=Um c.l F d i)(ay:r≠.out)(h:Ps c w i 0 (-1)) :
  MC 288 #[NW c,LJ (d:Int)] w (Oj c w (NV w.heap.size) ZN r):=by
 have a1:=hide h.SB;have dl:=hide h.base.size;have bb:=hide ay;have aF:=hide W;have dm:=hide (amG c w d i h);have bN:=hide ai;have e4:=hide aN;have hr:=hide U;obtain⟨bZ,cf,dH,aW,a4,bO,ew⟩:=amE ((w.alloc (ab3 c)).alloc (ab4 d)) (w.heap.size+1+1) MP;clear h W ay aN;go_enter func288,ntmps288;go_wp2_with fail;clear dH aW a4 bO ew
 go_loopg [] 3 (λk wr=>∃ seen,(leftOf WL seen).size<=k/\Sgn c w d i seen wr)
 case atStart=>exact⟨#[],by decide +kernel,dm.out⟩
 case round=>
  obtain⟨seen,dE,du⟩:=hrel
  rcases ao3 du.itr 0 with ⟨aJ,k4⟩|⟨e,he,X,k4,fW,Cu,D,CL,eC,C',Dn⟩
  ·have eA:=du.all aJ;have go:=hide du;have ac:r=Wl c.l F d i:=by have:=Lu aF;unfold Um at this;rw[eA] at this;exact this
   unfold Wl at ac;have aG:=hide ac;have k0:=du.box.p.cell;have a9:=du.box.n.cell;clear ac eA dE aJ
   cases T:Vh c.l F d i with
   | out=>rw[T] at aG;exact absurd aG.out bb.out
   | bad er pl=>
    have es:=hide (abD bN.out e4.out hr.out wr d i _ aD T.symm (by nofun) go.out.ps);have A{G}(h:G:=by
    refine zlw ?_;rintro e w1 ⟨⟨v,rfl,q,rfl⟩,⟨j,cv⟩,he,fo⟩;have cD:=hide cv;have b7:=hide (go.out.ap.next fo);have k0:=(go.out.box.ap fo).p.cell;have a9:=(go.out.box.ap fo).n.cell;have b9:=hide (Qq he cv);clear k4;go_wp2_with fail;refine ahU ?_;go_wp2_with fail;refine Ul ?_;exact avf):=LG h;exact aqT
   | ok cg iW=>
    have es:=hide (abD bN.out e4.out hr.out wr d i _ aD T.symm (by nofun) go.out.ps);rw[T] at aG;have dw:Hid (PO c.l F d F.fuel cg iW=r):=aG.out.symm;clear T;go_wp2_with fail;refine zlw ?_;rintro e w1 ⟨⟨v,rfl,q,rfl,eH⟩,cv,fo⟩;have cD:=hide cv;have dO:Hid (NV w.heap.size w1 cg (LC q)):=NV.mono ⟨q,rfl,eH⟩ go.out.ap.size;have b7:=hide (go.out.ap.next fo);have ba:=hide (go.out.box.ap fo);clear k4 k0 a9;go_wp2_with fail
    go_loopg [7] F.fuel (λk v wr=>((∃ t j,PO c.l F d k t j=r/\NV w.heap.size wr t v/\Ps c wr j 0 (-1))
     \/ (∃ er pl,r=.bad er pl/\er≠0/\(∃ j,Ps c wr j er (pl:Int))/\ZN v))/\Ap c.P w.heap.size w wr/\aak c w.heap.size (w.heap.size+1) d wr)
    case atStart=>exact⟨zalad ⟨cg,iW,dw.out,dO.out,cD.out⟩,b7.out,ba.out⟩
    case round=>
     obtain⟨hrel,dq,hB⟩:=hrel;have k0:=hB.p.cell;have bS:=hide dq;have eW:=hide hB;obtain⟨a6,b4,bL,bM,bP⟩:=zalbl info22
     rcases hrel with ⟨t,j,ac,hF,cF⟩|⟨er,pl,ac,he,⟨j,cF⟩,q',rfl⟩
     ·obtain⟨k,rfl⟩:∃ k,gk=k+1:=aqF
      obtain⟨bC,rfl,av⟩:=hF;have b3:Hid (NV w.heap.size wr t (LC bC)):=⟨bC,rfl,av⟩;have nI:=hide cF;have es:=hide (Q9 cF);unfold PO at ac
      by_cases hf:fx c.l j=afn
      ·rw[zalak hf] at ac;have aG:=hide ac;have b9:=hide (OG c wr j afn MK hf cF);clear ac hf;have A{G}(h:G:=by
       refine Ul ?_;rintro e aq ⟨rfl,df,da⟩;have b1:=hide (bS.out.next da);have bV:=hide (eW.out.ap da);have gU:=hide (NV.later b3.out da a1.out);have cK:=hide (RJ c aq (j+1) df);clear k0;have k0:=bV.out.p.cell;go_wp2_with fail;refine WB ?_;intro e bh ae;clear k0
       cases T:nameP c.l (j+1) with
       | out=>rw[T] at aG;exact absurd aG.out.symm bb.out
       | bad er pl=>
        rw[T] at ae aG;have gH:Hid (r=.bad er pl):=aG.out.symm;obtain⟨⟨v,rfl,s,rfl⟩,⟨lQ,cJ⟩,he,dS⟩:=ae;have e':=hide cJ;have dd:=hide (b1.out.next dS);have fK:=hide (bV.out.ap dS);clear cJ T;go_wp2
        go_roundg k
        case measure=>omega
        case rel=>exact⟨zalal ⟨er,pl,gH.out,he,⟨lQ,(e'.out.alloc _).alloc _⟩,_,rfl⟩,(dd.out.alloc dd.out.size _).alloc (by have:=dd.out.size;simp;omega) _,fK.out.ap (((Ap.refl c.P bh.heap.size bh).alloc Nh _).alloc MP _)⟩
       | ok s lQ=>
        rw[T] at ae aG;have gH:Hid (PO c.l F d k (.mk 36 s 0 [t]) lQ=r):=Lu aG;obtain⟨⟨v,rfl,rfl⟩,cJ,dS⟩:=ae;have e':=hide cJ;have dd:=hide (b1.out.next dS);have fK:=hide (bV.out.ap dS);have h0:=hide (ao5 (NV.later gU.out dS a1.out));clear cJ T;go_wp2
        go_roundg k
        case measure=>omega
        case rel=>exact⟨zalad ⟨_,lQ,gH.out,(Vp (LU.cons h0.out LU.nil) dd.out.size (by simp[maxLen]) #[LC bC] rfl 1 rfl 36 s 0 _ rfl).nv,(e'.out.alloc _).alloc _⟩,(dd.out.alloc dd.out.size _).alloc (by have:=dd.out.size;simp;omega) _,fK.out.ap (((Ap.refl c.P bh.heap.size bh).alloc Nh _).alloc MP _)⟩):=LG h;exact Yx
      ·rw[zalah hf] at ac;have b9:=hide (OZ c wr j afn MK hf cF);have aG:=hide ac;clear ac hf;have A{G}(h:G:=by
       refine Ul ?_;rintro e aq ⟨rfl,bx⟩;have dr:=hide (nI.out.later bx);have b1:=hide (bS.out.next (Ap.of bx));have bV:=hide (eW.out.ap (Ap.of bx));have gU:=hide (NV.later b3.out (Ap.of (R:=c.P) bx) a1.out);clear k0;have k0:=bV.out.p.cell
       by_cases iO:fx c.l j=NZ
       ·rw[zalak iO] at aG;have cK:=hide (OG c aq j NZ MK iO dr.out);clear iO;go_wp2_with fail;refine WB ?_;rintro e bh ⟨rfl,cJ,dS⟩;have e':=hide cJ;have dd:=hide (b1.out.next dS);have fK:=hide (bV.out.ap dS);have h0:=hide (NV.later gU.out dS a1.out);clear cJ k0;have k0:=fK.out.p.cell;have lK:max w.heap.size (w.heap.size+1)+1<=bh.heap.size:=by have:=fK.out.n.lt;omega
        have EA:=hide lK;clear lK
        cases T:aem c.l F d (j+1) with
        | out=>rw[T] at aG;exact absurd aG.out.symm bb.out
        | bad er pl=>
         have A{G}(h:G:=by
         have gH:Hid (r=.bad er pl):=aG.out.symm;clear T;go_wp2_with fail;refine Yi ?_;rintro e bn ⟨⟨v,rfl,zps,sf,ko⟩,⟨si,yU⟩,he,qp⟩;obtain⟨DG,zc,rfl⟩:=NH ko;have ie:=hide yU;have eg:=hide (dd.out.next qp);have d5:=hide (fK.out.ap qp);have sZ:=hide ko;have bK:=eg.out.size;clear k0
         by_cases hz0':zps.length=0
         ·have jz:=hide hz0';clear hz0';have A{G}(h:G:=by
          go_roundg k
          case measure=>omega
          case rel=>exact⟨zalal ⟨er,pl,gH.out,he,⟨si,(ie.out.alloc _).alloc _⟩,_,rfl⟩,(eg.out.alloc eg.out.size _).alloc (by have:=eg.out.size;simp;omega) _,d5.out.ap (((Ap.refl c.P bn.heap.size bn).alloc Nh _).alloc MP _)⟩):=LG h;exact aBU
         ·obtain⟨g,cap,a0,g2,de⟩:=sZ.out.form LM
          injection a0 with tY _ og
          subst tY og
          go_wp2_with (at_builtin;refine wpList_append_lies _ rfl _ _ 46 rfl w.heap.size 22 a6 Pe 1 8 zalbk b4 bL bM bP rfl MK _ 1 [LC bC] rfl (aar bn bC bK) (LD g 0) zps.length _ (zps.map LC) rfl MP (adn sZ.out _) (abE zps) LM (by unfold maxLen;omega) LM OM (bn.heap.size+1) MP ?_)
          have A{G}(h:G:=by
          clear fX;go_wp2
          go_roundg k
          case measure=>omega
          case rel=>exact⟨zalal ⟨er,pl,gH.out,he,⟨si,(ie.out.later nX.out).alloc _⟩,_,rfl⟩,(eg.out.next (Ap.of nX.out)).alloc (by have:=eg.out.size;have:=nX.out.size;omega) _,(d5.out.ap (Ap.of nX.out)).ap ((Ap.refl c.P cM.heap.size cM).alloc Nh _)⟩):=LG h;exact aCi):=LG h;exact aB7
        | ok ts si=>
         have A{G}(h:G:=by
         have gH:Hid (PO c.l F d k (.mk 35 LH 0 (t::ts)) si=r):=Lu aG;clear T;go_wp2_with fail;refine Yi ?_;rintro e bn ⟨⟨v,rfl,e7,Hq⟩,yU,qp⟩;have kJ:=hide (ao5 (NV.later h0.out qp a1.out));obtain⟨ps,ko,bd⟩:=e7;obtain⟨DG,zc,rfl⟩:=NH ko;have hlen:=LU.length _ _ bd;have Fc:Hid (LU (λb=>w.heap.size<=b) bn ([t]++ts) ([bC]++ps)):=aje h0.out qp a1.out dd.out.size bd;have ie:=hide yU;have eg:=hide (dd.out.next qp);have d5:=hide (fK.out.ap qp);have sZ:=hide ko
         have bK:=eg.out.size;have sf:ps.length<=8:=LM;clear k0 Hq
         by_cases hz0':ps.length=0
         ·have od:ts=[]:=zalbr.1 LM;subst od;have jz:=hide hz0';clear hlen hz0' sf;have A{G}(h:G:=by
          go_roundg k
          case measure=>omega
          case rel=>exact⟨zalad ⟨_,si,gH.out,(Vp (LU.cons kJ.out LU.nil) eg.out.size (by simp[maxLen]) #[LC bC] rfl 1 rfl 35 LH 0 _ rfl).nv,(ie.out.alloc _).alloc _⟩,(eg.out.alloc eg.out.size _).alloc (by have:=eg.out.size;simp;omega) _,d5.out.ap (((Ap.refl c.P bn.heap.size bn).alloc Nh _).alloc MP _)⟩):=LG h;exact aBU
         ·obtain⟨g,cap,a0,g2,de⟩:=sZ.out.form LM
          injection a0 with tY _ og
          subst tY og;clear hlen
          go_wp2_with (at_builtin;refine wpList_append_lies _ rfl _ _ 46 rfl w.heap.size 22 a6 Pe 1 8 zalbk b4 bL bM bP rfl MK _ 1 [LC bC] rfl (aar bn bC bK) (LD g 0) ps.length _ (ps.map LC) rfl MP (adn sZ.out _) (abE ps) LM (by unfold maxLen;omega) LM OM (bn.heap.size+1) MP ?_)
          have A{G}(h:G:=by
          have lk:Hid (KV w.heap.size cM ([t]++ts) (.slice (some (LD dJ 0)) (1+ps.length) cap')):=ajQ (v:=.slice (some (LD bn.heap.size 0)) 1 1) (ps:=[bC]) (LU.mono (λb D ab=>⟨D,ar2 ab⟩) _ _ Fc.out) (by rw[zalam];exact hown') OM hgrow fX
          clear fX;go_wp2
          go_roundg k
          case measure=>omega
          case rel=>exact⟨zalad ⟨_,si,gH.out,(aE2 lk.out (by have:=eg.out.size;have:=nX.out.size;omega) 35 LH 0).nv,(ie.out.later nX.out).alloc _⟩,(eg.out.next (Ap.of nX.out)).alloc (by have:=eg.out.size;have:=nX.out.size;omega) _,(d5.out.ap (Ap.of nX.out)).ap ((Ap.refl c.P cM.heap.size cM).alloc Nh _)⟩):=LG h;exact aCi):=LG h;exact aB7
       ·rw[zalah iO] at aG;have ac:r=.ok t j:=aG.out.symm;subst ac;have cK:=hide (OZ c aq j NZ MK iO dr.out);clear iO;go_wp2_with fail;refine WB ?_;rintro e bh ⟨rfl,hP⟩;have e':=hide (dr.out.later hP);have dd:=hide (b1.out.next (Ap.of hP));have h0:=hide (NV.later gU.out (Ap.of (R:=c.P) hP) a1.out);go_wp2;go_ret;exact⟨⟨_,rfl,h0.out⟩,e'.out,dd.out⟩):=LG h;exact Yx
     ·have es:=hide (Qq he cF);have cD:=hide cF;subst ac;have A{G}(h:G:=by
      go_ret;exact⟨⟨_,rfl,_,rfl⟩,⟨j,cD.out⟩,he,bS.out⟩):=LG h;exact Yx
  ·obtain⟨wp,kd,N,a0,lN,h8⟩:=amF (abz he).1;rw[N,a0] at k4 fW;obtain⟨bC,dM,iE,oq⟩:=du.step Cu D CL eC C' Dn dl.out;have k0:=iE.p.cell;have a9:=iE.n.cell;have Em:=hide (amD seen e he);have xc:=hide dM;have eW:=hide iE;have wC:=hide oq;have l7:=hide bC;have go:=hide du;have cG:=hide he;have pQ:=hide N;have ny:=hide dE;clear Cu D CL eC C' Dn bC dM iE oq du he N a0 dE
   by_cases af:fx c.l i=wp
   ·have es:=hide (OG c X i wp lN af xc.out);have pi:∃ sg,SA 1 (fx c.l i)=some sg/\sg.kd=kd:=by
     have:=asI (fx c.l i);rw[af,h8] at this;rw[af]
     cases W:SA 1 wp with
     | none=>rw[W] at this;cases this
     | some sg=>rw[W] at this;injection this with E;exact⟨sg,rfl,E.symm⟩
    obtain⟨sg,C2,C3⟩:=pi;have ac:r=(MO c.l F.sg d (i+1)).bind λt az=>.ok (.mk kd LH 0 [t]) az:=by
     have:=Lu aF;unfold Um at this;rw[C2] at this;rw[<-C3];exact this
    unfold MO at ac;have aG:=hide ac;clear ac C2 C3 af h8 lN
    by_cases hc:d=30
    ·rw[zalak hc] at aG;have ac:r=.bad 4 (MJ c.l (i+1)).pl:=Lu aG;subst ac;have tC:decide ((30:Int)<(d:Int)+1)=true:=zalaz LM;clear hc;go_wp2_with fail;refine zlw ?_;rintro ha aq ⟨rfl,df,da⟩;have b1:=hide (wC.out.next da);have k0:=(eW.out.ap da).p.cell;have a9:=(eW.out.ap da).n.cell;have b9:=hide (QI c aq (i+1) 4 MK df);clear k4 fW;go_wp2_with fail;refine Ul ?_;rintro ha bh ⟨⟨v,rfl,q,rfl⟩,cJ,ys,dS⟩;have e':=hide cJ;have dd:=hide (b1.out.next dS);clear cJ;go_wp2;go_ret
     exact⟨⟨_,rfl,_,rfl⟩,e'.out,ys,dd.out⟩
    ·rw[zalah hc] at aG;have iO:d+1<=30:=LM;have tC:decide ((30:Int)<(d:Int)+1)=false:=zalaw LM;have hcast:(((d+1:Nat):Nat):Int)=(d:Int)+1:=LM;have zZ:=hide hcast;clear hc hcast;go_wp2_with fail;refine zlw ?_;rintro ha aq ⟨rfl,df,da⟩;have dr:=hide df;have b1:=hide (wC.out.next da);have k0:=(eW.out.ap da).p.cell;have a9:=(eW.out.ap da).n.cell;clear k4 fW
     cases T:F.sg (d+1) (i+1) with
     | out=>rw[T] at aG;exact absurd aG.out bb.out
     | bad er pl=>
      have db:=bN.out.sg aq (d+1) (i+1) _ iO T.symm (by nofun) dr.out;rw[zZ.out] at db;have b9:=hide db;rw[T] at aG;have ac:r=.bad er pl:=Lu aG;subst ac;clear T db;go_wp2_with fail;refine Ul ?_;rintro ha bh ⟨⟨v,rfl,q,rfl⟩,⟨lQ,cJ⟩,ys,dS⟩;have e':=hide cJ;have dd:=hide (b1.out.next dS);clear cJ;go_wp2;go_ret;exact⟨⟨_,rfl,_,rfl⟩,⟨lQ,(e'.out.alloc _).alloc _⟩,ys,(dd.out.alloc dd.out.size _).alloc (by have:=dd.out.size;simp;omega) _⟩
     | ok t a8=>
      have db:=bN.out.sg aq (d+1) (i+1) _ iO T.symm (by nofun) dr.out;rw[zZ.out] at db;have b9:=hide db;rw[T] at aG;have ac:r=.ok (.mk kd LH 0 [t]) a8:=Lu aG;subst ac;clear T db;go_wp2_with fail;refine Ul ?_;rintro ha bh ⟨⟨v,rfl,q,rfl,ho⟩,cJ,dS⟩;have e':=hide cJ;have dd:=hide (b1.out.next dS);have h0:Hid (Nj (λb=>w.heap.size<=b) bh t q):=Nj.mono (λb D _=>zalan b1.out.size D) _ _ ho;clear cJ;go_wp2;go_ret
      exact⟨⟨_,rfl,(Vp (LU.cons h0.out LU.nil) dd.out.size (by simp[maxLen]) #[LC q] rfl 1 rfl kd LH 0 _ rfl).nv⟩,(e'.out.alloc _).alloc _,(dd.out.alloc dd.out.size _).alloc (by have:=dd.out.size;simp;omega) _⟩
   ·have es:=hide (OZ c X i wp lN af xc.out);have cy:=hide af;clear af h8 lN;go_wp2_with fail;refine zlw ?_;rintro ha aq ⟨rfl,bx⟩;have bV:=hide bx;clear k4 fW k0 a9;go_wp2
    go_roundg ((leftOf WL (seen.push e.born)).size)
    case measure=>exact zalau Em.out ny.out
    case rel=>
     have bx:=Lu bV;have ak:=Lu l7;refine⟨seen.push e.born,Nh,⟨⟨(bx.block _ (lt_of_heap ak.it)).trans ak.it,(bx.block _ (lt_of_heap ak.mp)).trans ak.mp⟩,xc.out.later bx,eW.out.ap (Ap.of bx),wC.out.next (Ap.of bx),?_⟩⟩;intro a4 Ck db cq;rw[Array.contains_push] at db
     cases ac:(a4.born==e.born) with
     | false=>
      rw[ac,zalfr] at db;exact go.out.no a4 Ck db cq
     | true=>
      have kY:a4=e:=by
       have key:∀ a ∈ WL.toList,∀ b ∈ WL.toList,(a.born==b.born)=true->a=b:=by
        have ab:WL.toList=[⟨LQ Z8,LJ 32,0⟩,⟨LQ SG,LJ 33,1⟩,⟨LQ SH,LJ 34,2⟩]:=rfl;rw[ab];intro a aa b D GL;simp only[zalas,zalcw,zalfb] at aa D
        rcases aa with rfl|rfl|rfl <;> rcases D with rfl|rfl|rfl <;> first|rfl | (exact absurd GL MK)
       exact key a4 Ck e (abz cG.out).1 ac
      rw[kY,pQ.out] at cq
      injection cq with qC
      exact Lu cy qC.symm
def afi (n:Nat)(av:n<=100000)(w:LK) :
  MC 273 #[QJ,LJ (n:Int)] w λe w'=>(∃ v,e=MN v/\w'.ownsRow w.heap.size 22 1 v 0 [])/\LX w w':=by
 obtain⟨a6,b4,bL,bM,bP⟩:=zalbl info22
 by_cases aJ:n=0
 ·subst aJ;go_enter func273,ntmps273
  go_wp2
  go_ret;exact⟨⟨_,rfl,rfl,zalad ⟨rfl,rfl⟩⟩,O4⟩
 ·have E:¬ ((n:Int)<0):=LM;have aM:(n:Int) > 0:=LM;have hold:(Builtin.firstCells a6.size 0 QJ).run prog w.drew=.ok ([]:List LY).toArray w.drew:=run_firstCells_none w.drew a6.size 0 0 0;have gf:∀ eD,(Builtin.append_ #[46,3] eD #[QJ,LJ (n:Int)]).run prog w =
    .ok (.slice (some (LD w.heap.size 0)) (0+n) (grownCap w (0+n) 0 22)) (w.drew.alloc (.cells (([]:List LY).toArray++Builtin.zeroCells (Value.pointer none).cells n++Builtin.zeroCells (Value.pointer none).cells (grownCap w (0+n) 0 22 - (0+n))) 22)):=λeD=>
   Lib.run_append_grow_zeros w 46 3 eD 22 a6 Pe .i64 .i64 zalbk underlying3 b4 bL none 0 0 [] hold n LM (by rw[bM];decide) LM LM (by rw[bP];omega) (by rw[bP];exact growslice_fits LM LM)
  have Gv:0+n<=grownCap w (0+n) 0 22:=grownCap_ge w _ _ _;have vr:=grownCap_le_maxLen w (0+n) 0 22 (by unfold maxLen;omega)
  obtain⟨G,i9⟩:∃ G,G=grownCap w (0+n) 0 22:=⟨_,rfl⟩;rw[<-i9] at gf Gv vr;have hG63:G<=9223372036854775807:=by unfold maxLen at vr;omega
  have wT:=hide vr;clear hold i9 vr;go_enter func273,ntmps273
  go_wp2_with (at_builtin;refine Lib.wpList_append_run _ rfl _ _ _ _ rfl _ _ rfl rfl _ _ (gf _) ?_)
  all_goals
   go_ret;refine⟨⟨_,rfl,rfl,zalal ⟨w.heap.size,G,_,rfl,Nh,LP _ _,zalae _,wT.out,?_,rfl⟩⟩,(O4.drew.alloc Nh _)⟩;simp[size_zeroCells];omega
def Vx (dz:List (List Tr)):Nat:=(dz.map List.length).sum
section
variable {dz:List (List Tr)} {k:Nat} (N:k<dz.length)
include dz k N
def akS:Vx (dz.take (k+1))=Vx (dz.take k)+dz[k].length:=by
 unfold Vx;exact aw3
def ajA:Vx (dz.take k)+dz[k].length<=Vx dz:=by
 have h:=zaldg Vx (zalcd k dz);rw[zalbs N] at h;unfold Vx at h ⊢;simp only[zalam,zalbb,zalhs,zalie] at h;omega
end
def ano (dz:List (List Tr)):dz.flatten.length=Vx dz:=by unfold Vx;rw[List.length_flatten]
def PE (I:Nat->Prop)(B:Nat)(w:LK)(v:LY)(ts:List Tr):Prop:=∃ ps:List Nat,w.ownsRow B 22 1 v ps.length (ps.map LC)/\QK I w ts ps
def QM {w:LK}{B B' e sz:Nat}{v:LY}{n:Nat}{bQ:List LY}(h:w.ownsRow B e sz v n bQ)(bA:B'<=B):w.ownsRow B' e sz v n bQ:=by
 obtain⟨E,O|⟨g,cap,cj,ao,aM,bw⟩⟩:=h
 ·exact⟨E,zalad O⟩
 ·exact⟨E,zalal ⟨g,cap,cj,ao,zalan bA aM,bw⟩⟩
def QK.mono {I J:Nat->Prop}{w:LK}(c7:∀ b,I b->b<w.heap.size->J b):∀ (ts:List Tr) (ps:List Nat),QK I w ts ps->QK J w ts ps
 | [],_,h=>h
 | _::ts,_,⟨p,d8,e,E,O⟩=>⟨p,d8,e,Nj.mono c7 _ p E,QK.mono c7 ts d8 O⟩
section
variable {I:Nat->Prop}
include I
def PE.ayf {B:Nat}{w:LK}{v:LY}{ts:List Tr}(h:PE I B w v ts):U5 B w v ts:=by
 obtain⟨ps,E,O⟩:=h;exact⟨ps,E,QK.mono (λ_ _ _=>trivial) _ _ O⟩
def PE.low {B B':Nat}{w:LK}{v:LY}{ts:List Tr}(h:PE I B w v ts)(bA:B'<=B):PE I B' w v ts:=by
 obtain⟨ps,E,O⟩:=h;exact⟨ps,QM E bA,O⟩
def PE.later {B:Nat}{w w':LK}{v:LY}{ts:List Tr}(h:PE I B w v ts)(D:LX w w'):PE I B w' v ts:=axS
def PE.form {B:Nat}{w:LK}{v:LY}{ts:List Tr}(h:PE I B w v ts):∃ a cap,v=.slice a ts.length cap:=h.ayf.form
def PE.cell {B:Nat}{w:LK}{v:LY}{ts:List Tr}(h:PE I B w v ts)(k:Nat)(N:k<ts.length):∃ g cap p,v=.slice (some (LD g 0)) ts.length cap/\g<w.heap.size/\w.cell? (LD g k)=some (LC p)/\Nj I w ts[k] p:=axT
def Nj.atA {w:LK}{t:Tr}{p:Nat}(h:Nj I w t p):p<w.heap.size/\w.cell? (LD p 0)=some (LJ t.kd)/\w.cell? (LD p 1)=some (LQ t.tx)/\∃ u,w.cell? (LD p 3)=some u/\PE I 0 w u t.kids:=axU
def alp (t:Tr)(p:Nat)(w:LK)(h:Nj I w t p):MC 257 #[LC p] w λe w'=>(∃ u,e=MN u/\PE I 0 w u t.kids)/\w'=w:=by
 obtain⟨bF,_,_,u,c3,T⟩:=Nj.atA h;exact axW
def XA (F:Nat)(f:Tr->Bool)(fW:TM F)(ai:∀ t p L,VA L t p->MC F #[LC p] L λe w'=>e=MN (L9 (f t))/\w'=L)(t:Tr)(p:Nat)(w:LK)(h:Nj I w t p)(ab:t.kids.length<=90000) :
  MC 214 #[LC p,fnV F] w λe w'=>(∃ u,e=MN u/\PE I w.heap.size w' u (t.kids.filter f))/\LX w w':=by
 obtain⟨a6,b4,bL,bM,bP⟩:=zalbl info22;have dN:=hide (alp t p w h);have A{G}(h:G:=by
 go_loopw [5,11] (λo i wr=>∃ (k:Nat) (bf:List Nat),k<=ts.length/\i=LJ k/\wr.ownsRow w1.heap.size 22 1 o bf.length (bf.map LC)/\QK I w1 ((ts.take k).filter f) bf/\LX w1 wr) (λ_ i _=>ts.length - (intOf i).toNat)
 case atStart=>exact⟨0,[],zalae _,rfl,⟨rfl,zalad ⟨rfl,rfl⟩⟩,QK.nil,O4⟩
 case round=>
  have A{G}(h:G:=by
  have cZ:=hide hbel;obtain⟨aQ,cc,rfl⟩:=NH hown;have eZ:=QK.length _ _ hE
  by_cases aC:k<ts.length
  ·obtain⟨g,cap,q,a0,hg,dZ,hm⟩:=bo.out.cell k aC;have A{G}(h:G:=by
   have A{G}(h:G:=by
   have ag:=hide (Lu bN ts[k] q wr (hm.nt.later cZ.out));exact axX):=LG h;exact axY):=LG h;exact Tf
  ·exact axZ):=LG h;exact aqb):=LG h;exact ax0
def aax (t:Tr)(p:Nat)(w:LK)(h:Nj I w t p)(ab:t.kids.length<=90000) :
  MC 196 #[LC p] w λe w'=>(∃ u,e=MN u/\PE I w.heap.size w' u (Tj t))/\LX w w':=by
 have ag:=hide (XA 258 Uz atw XU t p w h ab);clear h;go_enter func196,ntmps196;exact aqc
def YR (t:Tr)(p:Nat)(w:LK)(h:Nj I w t p)(ab:t.kids.length<=90000) :
  MC 126 #[LC p] w λe w'=>(∃ u,e=MN u/\PE I w.heap.size w' u (O0 t))/\LX w w':=by
 have ag:=hide (XA 215 Rn atx Y4 t p w h ab);clear h;go_enter func126,ntmps126;exact aqc
def Zw {B:Nat}(g:Nat)(ci:List LY)(dz:List (List Tr))(w:LK)(ab:ci.length=dz.length)(av:ci.length<=4)(de:g<w.heap.size)(am:∀ j (aT:j<ci.length),w.cell? (LD g j)=some ci[j])(T:∀ j (aT:j<ci.length) (hi:j<dz.length),PE I B w ci[j] dz[j])(aH:Vx dz<=90000)(n:Nat)(qE:n=ci.length) :
  MC 216 #[.slice (some (LD g 0)) n n] w λe w'=>(∃ v,e=MN v/\PE I w.heap.size w' v dz.flatten)/\LX w w':=by
 have A{G}(h:G:=by
 go_loopw [3,11] (λs i wr=>∃ k:Nat,k<=ci.length/\i=LJ k/\s=LJ (Vx (dz.take k):Nat)/\wr=w) (λ_ i _=>ci.length - (intOf i).toNat)
 case atStart=>exact⟨0,zalae _,rfl,rfl,rfl⟩
 case round=>
  obtain⟨k,N,rfl,rfl,hw⟩:=hrel;obtain rfl:w=wr:=hw.symm;clear hw
  by_cases aC:k<ci.length
  ·have hlt2:k<dz.length:=by have:=Lu cQ;omega
   have c1:=ag.out k aC;obtain⟨a,c,aS⟩:=(bo.out k aC hlt2).form;rw[aS] at c1;have dE:=ajA hlt2;have dQ:=hide (akS hlt2)
   generalize dz[k].length=m at c1 dE dQ
   generalize Vx (dz.take k)=S at dE dQ ⊢
   exact axd
  ·have cA:k=ci.length:=LM;subst cA;have eb:Vx (dz.take ci.length)=Vx dz:=by rw[cQ.out,zalaq]
   have f3:=hide (afi (Vx dz) LM w);have A{G}(h:G:=by
   go_loopw [6,27] (λo i wr=>∃ (k:Nat) (ps:List Nat),k<=ci.length/\i=LJ k/\wr.ownsRow w.heap.size 22 1 o ps.length (ps.map LC)/\QK I w (dz.take k).flatten ps/\LX w wr) (λ_ i _=>ci.length - (intOf i).toNat)
   case atStart=>exact⟨0,[],zalae _,rfl,ll.out,QK.nil,ba.out⟩
   case round=>
    obtain⟨k,ps,N,rfl,hown,iQ,jU⟩:=hrel;have bb:=hide hown;have hK:=hide iQ;have aV:=hide jU;have bF:ps.length=Vx (dz.take k):=by rw[QK.length _ _ iQ,ano]
    obtain⟨px,py,rfl⟩:=LZ hown
    by_cases aC:k<ci.length
    ·have hlt2:k<dz.length:=by have:=Lu cQ;omega
     have c1:=ag.out k aC;have dE:=ajA hlt2;have fC:(dz.take (k+1)).flatten=(dz.take k).flatten++dz[k]:=by rw[zalac hlt2,List.flatten_append,List.flatten_singleton]
     have kF:=hide fC;clear fC;obtain⟨bf,ac,ef⟩:=bo.out k aC hlt2;have eZ:=QK.length _ _ ef;have A{G}(h:G:=by
     clear c1 bF eZ dE
     by_cases b5:bf.length=0
     ·have A{G}(h:G:=by
      go_roundw
      case rel=>
       refine⟨k+1,ps,by omega,by go_num,bb.out,?_,aV.out⟩;have r8:bf=[]:=zalbr.1 fH.out;have h:=QK.append u'.out _ _ hK.out;rw[r8,zalba] at h;rw[kF.out];exact h
      case measure=>simp[intOf];omega):=LG h;exact axe
     ·have A{G}(h:G:=by
      go_roundw
      case rel=>
       refine⟨k+1,ps++bf,by omega,by go_num,by rw[zalab,zalam];exact h2.out,?_,bV.out⟩
       rw[kF.out];exact QK.append u'.out _ _ hK.out
      case measure=>simp[intOf];omega):=LG h;exact axf):=LG h;exact axg
    ·have cA:k=ci.length:=LM;subst cA;go_wp2;go_ret;refine⟨⟨_,rfl,ps,bb.out,?_⟩,aV.out⟩;have h:=QK.later (λb _ ab=>aV.out.block b ab) _ _ hK.out;rw[cQ.out,zalaq] at h;exact h):=LG h;exact axh):=LG h;exact axi
end
def xE {α:Type}(a:α):∃ x,x=a:=⟨a,rfl⟩
def xH {α:Type}(a:α):∃ x,Hid (x=a):=⟨a,rfl⟩
abbrev aP (e:Ad):LY:=LC e.p
def Rl (I:Nat->Prop)(B:Nat)(w:LK)(v:LY)(al:List Ad):Prop:=w.ownsRow B 22 1 v al.length (al.map aP)/\OU I w al
def OU.of {I:Nat->Prop}{w:LK}:∀ (al:List Ad),(∀ a ∈ al,MZ I w a)->OU I w al
 | [],_=>by rw[OU];trivial
 | x::al,h=>by rw[OU];exact⟨h x MP,OU.of al λa aa=>h a (by simp[aa])⟩
section
variable {I:Nat->Prop}
include I
def Rl.later {B:Nat}{w w':LK}{v:LY}{al:List Ad}(h:Rl I B w v al)(D:LX w w'):Rl I B w' v al:=⟨L8 (I:=λ_=>True) (λb _ ab=>D.block b ab) (λ_ _=>trivial) h.1,OU.later (Below.stay D) _ h.2⟩
def Rl.form {B:Nat}{w:LK}{v:LY}{al:List Ad}(h:Rl I B w v al):∃ a cap,v=.slice a al.length cap:=LZ h.1
def Rl.cell {B:Nat}{w:LK}{v:LY}{al:List Ad}(h:Rl I B w v al)(k:Nat)(N:k<al.length):∃ g cap,v=.slice (some (LD g 0)) al.length cap/\g<w.heap.size/\w.cell? (LD g k)=some (LC (al[k]).p)/\MZ I w al[k]:=by
 obtain⟨g,cap,rfl,_,_⟩:=h.1.form LM;refine⟨g,cap,rfl,(h.1.lt g rfl).2,?_,OU.mem al h.2 _ (zalao _)⟩;rw[h.1.cellAt k LM];simp[N]
def Rl.low {B B':Nat}{w:LK}{v:LY}{al:List Ad}(h:Rl I B w v al)(bA:B'<=B):Rl I B' w v al:=⟨QM h.1 bA,h.2⟩
def MZ.rowA {w:LK}{a:Ad}(h:MZ I w a):∃ v,w.cell? (LD a.p 3)=some v/\Rl I 0 w v a.ks/\a.p<w.heap.size:=by
 cases a with
 | mk p kd tx n ks=>
  rw[MZ] at h;obtain⟨_,ae,⟨v,D,T⟩,N⟩:=h;obtain⟨c0,c1,_,c3,_⟩:=node_cells D;refine⟨v,c3,⟨?_,N⟩,lt_of_heap D⟩;have E:=T.1;rw[zalag,zaley] at E;exact E
def alo (a:Ad)(w:LK)(h:MZ I w a):MC 257 #[LC a.p] w λe w'=>(∃ u,e=MN u/\Rl I 0 w u a.ks)/\w'=w:=by
 obtain⟨u,c3,T,bF⟩:=MZ.rowA h;obtain⟨eq,uc,rfl⟩:=T.form;obtain⟨p,ae⟩:=xE a.p;rw[<-ae] at c3 bF ⊢;clear h ae;go_enter func257,ntmps257;go_wp2;go_ret;exact⟨⟨_,rfl,T⟩,rfl⟩
def Xz (F:Nat)(f:Tr->Bool)(fW:TM F)(ai:∀ t p L,VA L t p->MC F #[LC p] L λe w'=>e=MN (L9 (f t))/\w'=L)(a:Ad)(w:LK)(h:MZ I w a)(ab:a.ks.length<=90000) :
  MC 214 #[LC a.p,fnV F] w λe w'=>(∃ u,e=MN u/\Rl I w.heap.size w' u (a.ks.filter λk=>f k.tr))/\LX w w':=by
 obtain⟨a6,b4,bL,bM,bP⟩:=zalbl info22;have dN:=alo a w h;have bN:=hide ai;clear h ai
 generalize od:a.ks=ts at dN ab
 obtain⟨p,ae⟩:=xE a.p;rw[<-ae] at dN ⊢;clear od ae a;go_enter func214,ntmps214;go_wp2_with fail;refine cm dN ?_;rintro e w1 ⟨⟨u,rfl,T⟩,rfl⟩;obtain⟨va,ck,rfl⟩:=T.form;go_wp2_with fail
 go_loopw [5,11] (λo i wr=>∃ (k:Nat) (bf:List Ad),k<=ts.length/\i=LJ k/\wr.ownsRow w1.heap.size 22 1 o bf.length (bf.map aP)/\bf=((ts.take k).filter λk=>f k.tr)/\LX w1 wr) (λ_ i _=>ts.length - (intOf i).toNat)
 case atStart=>exact⟨0,[],zalae _,rfl,⟨rfl,zalad ⟨rfl,rfl⟩⟩,rfl,O4⟩
 case round=>
  obtain⟨k,bf,N,rfl,hown,hE,hbel⟩:=hrel;have bb:=hown;have h1:=hide hE;obtain⟨aQ,cc,rfl⟩:=NH hown;have eZ:bf.length<=k:=by
   rw[hE];have:=zalci (λk=>f k.tr) (ts.take k);rw[zalbe] at this;omega
  clear hE
  by_cases aC:k<ts.length
  ·obtain⟨g,cap,a0,hg,dZ,hm⟩:=T.cell k aC;have A{G}(h:G:=by
   obtain⟨q,aG⟩:=xH ((ts[k]).p);rw[<-aG.out] at dZ;have am:wr.cell? (LD g k)=some (LC q):=by rw[hbel.cell (p:=(LD g k)) hg];exact dZ
   have eY:(k:Int)<(ts.length:Int):=LM;have bK:=hbel.size;have ag:=Lu bN ts[k].tr q wr (by rw[aG.out];exact hm.nat.nt.later hbel)
   have co:=hide (zalac aC);have cS:g<wr.heap.size:=LM;have pU:=hide (Me bb);clear dZ
   cases a2:f ts[k].tr with
   | true=>
    rw[a2] at ag;have fh:=hide a2;clear a2;go_wp2_with fail;refine cm ag ?_;rintro e w2 ⟨rfl,rfl⟩
    go_wp2_with (at_builtin;refine wpList_append_lies _ rfl _ _ 46 rfl w1.heap.size 22 a6 Pe 1 8 zalbk b4 bL bM bP rfl MK _ _ _ rfl (bb.alloc _) (LD w2.heap.size 0) 1 1 [LC q] rfl rfl (VR w2 q _ rfl) (Yk q) MK (by unfold maxLen;omega) LM OM (w2.heap.size+1) MP ?_)
    intro dJ cap' aq hown' hgrow fX _;have bV:=hbel.trans (((zalbd w1.heap.size w2).alloc bK (.cells #[LC q] 22)).grown hgrow OM (λb D=>(Lu pU b D).2));clear fX;go_wp2
    go_roundw
    case rel=>
     refine⟨k+1,bf++[ts[k]],by omega,by go_num,?_,?_,bV⟩
     ·refine adC ?_;have h:=hown';rw[aG.out] at h;exact h
     ·rw[co.out,zalcg,<-h1.out];simp only[zalbg,fh.out,zalcu,zaleh]
    case measure=>simp[intOf];omega
   | false=>
    rw[a2] at ag;have fh:=hide a2;clear a2;go_wp2_with fail;refine cm ag ?_;rintro e w2 ⟨rfl,rfl⟩;go_wp2
    go_roundw
    case rel=>
     refine⟨k+1,bf,by omega,by go_num,bb,?_,hbel⟩;rw[co.out,zalcg,<-h1.out];simp only[zalbg,fh.out,zalcu,zalct,zalfg,zalba]
    case measure=>simp[intOf];omega):=LG h;exact Tf
  ·have A{G}(h:G:=by
   subst h;exact⟨⟨_,rfl,bb,OU.of _ λx af=>MZ.later (Below.stay hbel) _ (OU.mem _ T.2 x (zalcc.1 af).1)⟩,hbel⟩):=LG h;exact aqh
end
section
variable {I:Nat->Prop} (a:Ad) (w:LK) (h:MZ I w a) (ab:a.ks.length<=90000)
include I a w h ab
def ah0 :
  MC 196 #[LC a.p] w λe w'=>(∃ u,e=MN u/\Rl I w.heap.size w' u (a.ks.filter λk=>Uz k.tr))/\LX w w':=by
 have ag:=Xz 258 Uz atw XU a w h ab;clear h;go_enter func196,ntmps196;exact aye
def akX :
  MC 126 #[LC a.p] w λe w'=>(∃ u,e=MN u/\Rl I w.heap.size w' u (a.ks.filter λk=>Rn k.tr))/\LX w w':=by
 have ag:=Xz 215 Rn atx Y4 a w h ab;clear h;go_enter func126,ntmps126;exact aye
end
mutual
def vn:Tr->List Tr
 | .mk kd tx n ks=>(if kd==2 then [.mk kd tx n ks] else [])++(if kd==5||kd==37 then [] else vns ks)
def vns:List Tr->List Tr
 | []=>[]
 | t::ts=>vn t++vns ts
end
def asj (t:Tr):vn t=(if t.kd==2 then [t] else [])++(if MF t then [] else vns t.kids):=by
 cases t with
 | mk kd tx n ks=>rw[vn];rfl
mutual
def awV:∀ t:Tr,(vn t).map Tr.tx=vw t
 | .mk kd tx n ks=>by
  rw[vn,vw,zalam]
  congr 1
  ·split <;> rfl
  ·split
   ·rfl
   ·exact ahW ks
def ahW:∀ ts:List Tr,(vns ts).map Tr.tx=WO ts
 | []=>by rw[vns,WO];rfl
 | t::ts=>by rw[vns,WO,zalam,awV t,ahW ts]
end
mutual
def ady:∀ t:Tr,(vn t).length<=t.count
 | .mk kd tx n ks=>by
  rw[vn,zalab,count_mk];have h:=ajw ks;have E:(if kd==2 then [Tr.mk kd tx n ks] else []).length<=1:=by split <;> simp
  have O:(if kd==5||kd==37 then [] else vns ks).length<=Tr.counts ks:=by split <;> simp[h]
  omega
def ajw:∀ ts:List Tr,(vns ts).length<=Tr.counts ts
 | []=>by rw[vns];simp
 | t::ts=>by
  rw[vns,zalab,L6];have E:=ady t;have O:=ajw ts;omega
end
def vrF (l:List Tr)(a:Ad):List Tr × Bool:=(l++(if a.kd==2 then [a.tr] else []),!MF a.tr)
mutual
def asl:∀ (a:Ad) (l:List Tr),wk vrF l a=l++vn a.tr
 | .mk p kd tx n ks,l=>by
  rw[wk,asj];have aW:(vrF l (.mk p kd tx n ks)).2 = !MF (Ad.mk p kd tx n ks).tr:=rfl;have a4:(vrF l (.mk p kd tx n ks)).1=l++(if (Ad.mk p kd tx n ks).tr.kd==2 then [(Ad.mk p kd tx n ks).tr] else []):=rfl;have bO:(Ad.mk p kd tx n ks).tr.kids=Ad.U4 ks:=rfl
  by_cases h:MF (Ad.mk p kd tx n ks).tr=true
  ·rw[aW,h,zalah MK,zalak rfl,a4,zalba]
  ·rw[aW,zalak (by simpa using h),zalah h,ani ks,a4,bO,zalax]
def ani:∀ (al:List Ad) (l:List Tr),VP vrF l al=l++vns (Ad.U4 al)
 | [],l=>by rw[VP,Ad.U4,vns,zalba]
 | a::al,l=>by rw[VP,Ad.U4,vns,asl a l,ani al,zalax]
end
structure akN (I:Nat->Prop)(b:Nat)(l:List Tr)(w:LK):Prop where
 sz:b+1<=w.heap.size
 own:∃ v ps,w.heap[b]? = some (NK #[v] 46)/\w.ownsRow (b+1) 22 1 v ps.length (ps.map LC)/\QK I w l ps
def UL {I:Nat->Prop}{t:Ad}{w:LK}(aH:MZ I w t):MC 130 #[LC t.p] w λe w'=>e=MN (L9 (MF t.tr))/\w'=w:=by
 obtain⟨_,bF,c0,_,_⟩:=aH.cells;obtain⟨aW,_,_⟩:=t.NC;unfold MF;rw[aW]
 generalize t.p=p at bF c0 ⊢
 generalize t.kd=kd at c0 ⊢
 clear aW;go_enter func130,ntmps130
 cases bw:(kd==5) with
 | true=>
  go_wp2;go_ret;exact⟨rfl,rfl⟩
 | false=>
  go_wp2;go_ret;exact⟨rfl,rfl⟩
def ahX {I:Nat->Prop}{b:Nat}{l:List Tr}{t:Ad}{w:LK}(cz:∀ x,I x->x<b)(e6:akN I b l w)(aH:MZ I w t)(ab:l.length<=90000) :
  MC 274 #[LC t.p,Mc b 0] w λe w'=>e=MN (L9 (vrF l t).2)/\akN I b (vrF l t).1 w'/\Ap b (b+1) w w':=by
 obtain⟨a6,b4,bL,bM,bP⟩:=zalbl info22;obtain⟨g3,bF,c0,_,_⟩:=aH.cells;have aN:=aH.nat;obtain⟨aW,_,_⟩:=t.NC;obtain⟨bK,v,ps,D,hown,iQ⟩:=e6;have cF:ps.length<=90000:=by rw[QK.length _ _ iQ];exact ab
 obtain⟨aQ,cc,rfl⟩:=LZ hown;have eK:w.cell? (LD b 0)=some (.slice aQ ps.length cc):=by rw[Lib.cell_of_heap D];rfl
 have aZ:w.frozen? (LD b 0)=false:=Lib.frozen_of_heap D 0;unfold vrF;simp only
 cases O:(t.kd==2) with
 | false=>
  have bN:=hide (UL aH);have eh:Hid (akN I b l w):=⟨bK,_,ps,D,hown,iQ⟩
  generalize MF t.tr=xv at bN ⊢
  generalize t.p=p at bF c0 bN g3 ⊢
  generalize t.kd=kd at c0 O
  clear D eK aZ aW;exact awW
 | true=>
  have oI:=hide cz;clear cz;have ra:=hide (λ(L:LK) (h:MZ I L t)=>UL h);have dQ:=hide aH;have b3:=hide aN;have hK:=hide iQ;have bb:=hide hown;have aV:=hide D;have g8:=hide (Me hown);have d':∀ g,(Value.slice aQ ps.length cc).ownBlock=some g->g≠b:=λg hg=>by have:=(Me hown g hg).2;omega
  have kK:=hide d'
  generalize MF t.tr=xv at ra ⊢
  obtain⟨x,af⟩:∃ x,x=t.tr:=⟨_,rfl⟩;rw[<-af] at b3 ⊢;obtain⟨p,ae⟩:∃ p,p=t.p:=⟨_,rfl⟩;rw[<-ae] at bF c0 b3 g3 ra ⊢
  generalize t.kd=kd at c0 O
  clear D aW af ae d';go_enter func274,ntmps274;have br{G}(h:G:=by
  have bx:aq.heap[b]? = some (NK #[.slice aQ ps.length cc] 46):=awX
  have ct:aq.cell? (LD b 0)=some (.slice aQ ps.length cc):=by rw[Lib.cell_of_heap bx];rfl
  have f0:aq.frozen? (LD b 0)=false:=Lib.frozen_of_heap bx 0;have oV:Ap b (b+1) w (aq.setCell (LD b 0) (.slice (some (LD dJ 0)) (ps.length+1) cap')):=BJ.setCell (p:=(LD b 0)) (zalal rfl) _;have g2:b+1<=dJ:=(Me hown' dJ rfl).2;have bB:Pq I w (aq.setCell (LD b 0) (.slice (some (LD dJ 0)) (ps.length+1) cap')):=λk N ab=>oV.block k (by have:=Lu oI k N;omega) (by have:=Lu oI k N;omega)
  have kQ:Hid (akN I b (l++[x]) (aq.setCell (LD b 0) (.slice (some (LD dJ 0)) (ps.length+1) cap'))):=by
   refine⟨by have:=oV.size;omega,.slice (some (LD dJ 0)) (ps.length+1) cap',ps++[p],?_,?_,QK.append (QK.cons (Nj.later bB _ _ b3.out) QK.nil) _ _ (QK.later bB _ _ hK.out)⟩
   ·simp[World.setCell,zalfc,bx]
   ·have bw:aq.ownsRow (b+1) 22 1 (.slice (some (LD dJ 0)) (ps.length+1) cap') (ps++[p]).length ((ps++[p]).map LC):=by
     rw[zalab,zalam];exact hown'
    exact awY
  have qZ:Hid (MZ I (aq.setCell (LD b 0) (.slice (some (LD dJ 0)) (ps.length+1) cap')) t):=MZ.later bB _ dQ.out;exact awZ):=LG h;exact zto
def asn:TM 274:=λ_ _=>by kernel_rfl
def akA {I:Nat->Prop}(t:Ad)(w:LK)(aH:MZ I w t)(am:t.cnt<=20000) :
  MC 217 #[LC t.p] w λe w'=>(∃ u,e=MN u/\PE I w.heap.size w' u (vn t.tr))/\LX w w':=by
 have A{G}(h:G:=by
 have e6:akN (λb=>I b/\b<w.heap.size) w.heap.size [] w2:=by
  refine⟨by rw[bW];simp,QJ,[],by rw[bW];exact LP _ _,⟨rfl,zalad ⟨rfl,rfl⟩⟩,QK.nil⟩
 have ag:=hide (ajx 274 (Mc w.heap.size 0) (λb=>I b/\b<w.heap.size) (Ap w.heap.size (w.heap.size+1)) (akN (λb=>I b/\b<w.heap.size) w.heap.size) vrF (λl ts=>l.length+Ad.cnts ts<=20000) asn (λL=>by kernel_rfl)
  (λ_ _ _ h k=>h.trans k) (λw w' h=>⟨λb D _=>h.block b (zalew D.2) (zalgc D.2),h.size⟩)
  (λl t ts h=>by
   rw[Ad.cnts] at h;have E:=OA t;have O:(vrF l t).1.length<=l.length+1:=by unfold vrF;simp only[zalab];split <;> simp
   rw[Vw]
   split
   ·omega
   ·rw[Ad.cnts];omega)
  (λl t ts w' h cz bv=>ahX (λ_ af=>af.2) cz bv LM)
  t.cnt t Nh LM [] [] w2 (by rw[Ad.cnts,Ad.cnts];simp;omega) e6
  (MZ.later (I:=λb=>I b/\b<w.heap.size) (λb D ab=>a5.block b D.2) _ (MZ.mono (λb D ab=>⟨D,ab⟩) _ aH)))
 rw[asl,zalbq] at ag;rw[bW] at ag
 generalize vn t.tr=ah at ag ⊢
 generalize t.p=p at ag ⊢
 clear am;go_enter func217,ntmps217;go_wp2_with fail;refine NJ ?_;rintro e aq ⟨rfl,og,_,da⟩;obtain⟨wa,v,ps,bx,hown3,CA⟩:=og;have A{G}(h:G:=by
 clear bx;go_wp2;go_ret;exact⟨⟨_,rfl,ps,QM bb.out LM,QK.mono (λ_ D _=>D.1) _ _ cQ.out⟩,oB.out⟩):=LG h;exact aw0):=LG h;exact asZ
mutual
def va:Ad->List Ad
 | .mk p kd tx n ks=>(if kd==2 then [.mk p kd tx n ks] else [])++(if kd==5||kd==37 then [] else Xa ks)
def Xa:List Ad->List Ad
 | []=>[]
 | t::ts=>va t++Xa ts
end
def ao0 (t:Ad):va t=(if t.kd==2 then [t] else [])++(if MF t.tr then [] else Xa t.ks):=by
 cases t with
 | mk p kd tx n ks=>rw[va];rfl
mutual
def aoq:∀ t:Ad,(va t).map Ad.tr=vn t.tr
 | .mk p kd tx n ks=>by
  rw[va,Ad.tr,vn,zalam]
  congr 1
  ·split <;> rfl
  ·split
   ·rfl
   ·exact apo ks
def apo:∀ ts:List Ad,(Xa ts).map Ad.tr=vns (Ad.U4 ts)
 | []=>by rw[Xa,Ad.U4,vns];rfl
 | t::ts=>by rw[Xa,Ad.U4,vns,zalam,aoq t,apo ts]
end
def as5 (t:Ad):(va t).length<=t.cnt:=by
 have h:=ady t.tr;rw[<-aoq t,zalag,t.ND] at h;exact h
def vrA (l:List Ad)(a:Ad):List Ad × Bool:=(l++(if a.kd==2 then [a] else []),!MF a.tr)
mutual
def apq:∀ (a:Ad) (l:List Ad),wk vrA l a=l++va a
 | .mk p kd tx n ks,l=>by
  rw[wk,ao0];have aW:(vrA l (.mk p kd tx n ks)).2 = !MF (Ad.mk p kd tx n ks).tr:=rfl;have a4:(vrA l (.mk p kd tx n ks)).1=l++(if (Ad.mk p kd tx n ks).kd==2 then [(Ad.mk p kd tx n ks)] else []):=rfl;have bO:(Ad.mk p kd tx n ks).ks=ks:=rfl
  by_cases h:MF (Ad.mk p kd tx n ks).tr=true
  ·rw[aW,h,zalah MK,zalak rfl,a4,zalba]
  ·rw[aW,zalak (by simpa using h),zalah h,akt ks,a4,bO,zalax]
def akt:∀ (al:List Ad) (l:List Ad),VP vrA l al=l++Xa al
 | [],l=>by rw[VP,Xa,zalba]
 | a::al,l=>by rw[VP,Xa,apq a l,akt al,zalax]
end
structure ab6 (I:Nat->Prop)(b:Nat)(l:List Ad)(w:LK):Prop where
 sz:b+1<=w.heap.size
 own:∃ v,w.heap[b]? = some (NK #[v] 46)/\w.ownsRow (b+1) 22 1 v l.length (l.map aP)
 ats:OU I w l
section
variable {I:Nat->Prop}
include I
def OU.snoc {w:LK}{l:List Ad}{a:Ad}(h:OU I w l)(aa:MZ I w a):OU I w (l++[a]):=
 OU.of _ λx af=>by
  rcases zalat.1 af with af|af
  ·exact OU.mem _ h x af
  ·rw[zalaf.1 af];exact aa
def ajm {b:Nat}{l:List Ad}{t:Ad}{w:LK}(cz:∀ x,I x->x<b)(e6:ab6 I b l w)(aH:MZ I w t)(ab:l.length<=90000) :
  MC 274 #[LC t.p,Mc b 0] w λe w'=>e=MN (L9 (vrA l t).2)/\ab6 I b (vrA l t).1 w'/\Ap b (b+1) w w':=by
 obtain⟨a6,b4,bL,bM,bP⟩:=zalbl info22;obtain⟨g3,bF,c0,_,_⟩:=aH.cells;have A{G}(h:G:=by
 unfold vrA;simp only
 cases O:(t.kd==2) with
 | false=>
  have bN:=hide (UL aH);have eh:Hid (ab6 I b l w):=⟨bK,⟨_,D,hown⟩,iQ⟩;have dH:l++(if false=true then [t] else [])=l:=by simp
  rw[dH]
  generalize MF t.tr=xv at bN ⊢
  generalize t.p=p at bF c0 bN g3 ⊢
  generalize t.kd=kd at c0 O
  generalize av:l.length=n at eK cF
  clear D aZ dH av;exact awW
 | true=>
  have oI:=hide cz;clear cz;have ra:=hide (λ(L:LK) (h:MZ I L t)=>UL h);have A{G}(h:G:=by
  have dH:l++(if true=true then [t] else [])=l++[t]:=by simp
  rw[dH]
  generalize MF t.tr=xv at ra ⊢
  obtain⟨p,ae⟩:∃ p,p=t.p:=⟨_,rfl⟩;have bk:=hide ae;rw[<-ae] at bF c0 g3 ra ⊢
  generalize t.kd=kd at c0 O
  obtain⟨n,av⟩:∃ n,n=l.length:=⟨_,rfl⟩;have pR:=hide av;rw[<-av] at eK cF bb aV g8 kK;clear D ae d' dH av;go_enter func274,ntmps274;have A{G}(h:G:=by
  have qZ:Hid (MZ I (aq.setCell (LD b 0) (.slice (some (LD dJ 0)) (n+1) cap')) t):=MZ.later bB _ dQ.out;exact awZ):=LG h;exact az3):=LG h;exact aA8):=LG h;exact aA6
def akY (t:Ad)(w:LK)(aH:MZ I w t)(am:t.cnt<=20000) :
  MC 217 #[LC t.p] w λe w'=>(∃ u,e=MN u/\Rl I w.heap.size w' u (va t))/\LX w w':=by
 have A{G}(h:G:=by
 have e6:ab6 (λb=>I b/\b<w.heap.size) w.heap.size [] w2:=ay9
 have ag:=hide (ajx 274 (Mc w.heap.size 0) (λb=>I b/\b<w.heap.size) (Ap w.heap.size (w.heap.size+1)) (ab6 (λb=>I b/\b<w.heap.size) w.heap.size) vrA (λl ts=>l.length+Ad.cnts ts<=20000) asn (λL=>by kernel_rfl)
  (λ_ _ _ h k=>h.trans k) (λw w' h=>⟨λb D _=>h.block b (zalew D.2) (zalgc D.2),h.size⟩)
  (λl t ts h=>by
   rw[Ad.cnts] at h;have E:=OA t;have O:(vrA l t).1.length<=l.length+1:=by unfold vrA;simp only[zalab];split <;> simp
   rw[Vw]
   split
   ·omega
   ·rw[Ad.cnts];omega)
  (λl t ts w' h cz bv=>ajm (λ_ af=>af.2) cz bv LM)
  t.cnt t Nh LM [] [] w2 (by rw[Ad.cnts,Ad.cnts];simp;omega) e6
  (MZ.later (I:=λb=>I b/\b<w.heap.size) (λb D ab=>a5.block b D.2) _ (MZ.mono (λb D ab=>⟨D,ab⟩) _ aH)))
 rw[apq,zalbq] at ag;rw[bW] at ag
 generalize va t=ah at ag ⊢
 generalize t.p=p at ag ⊢
 clear am;go_enter func217,ntmps217;exact aDZ):=LG h;exact asZ
end
def declT (t:Tr):List Tr:=
 if t.kd=1 then O0 t
 else if t.kd=5\/t.kd=37 then (match t.kids with|pr::b6::_=>[pr.kids,vn b6,Tj b6,O0 b6].flatten|_=>[])
 else if t.kd=6 then [Tj t,O0 t].flatten
 else if t.kd=13 then [t] else []
def MZ.row {I:Nat->Prop}{w:LK}{a:Ad}(h:MZ I w a):∃ v,w.cell? (LD a.p 3)=some v/\PE I 0 w v a.tr.kids:=by
 obtain⟨_,_,_,_,v,c3,T,_⟩:=h.cells;refine⟨v,c3,a.ks.map Ad.p,Qr T,?_⟩;have ae:=h.parts;rw[a.NC.2.2];have key:∀ al:List Ad,(∀ k ∈ al,MZ I w k)->QK I w (al.map Ad.tr) (al.map Ad.p):=by
  intro al
  induction al with
  | nil=>intro _;exact QK.nil
  | cons k al aU=>intro N;exact QK.cons (N k MP).nat (aU λx af=>N x (by simp[af]))
 exact key _ ae
section
variable {I:Nat->Prop} {a:Ad} {w:LK} (aH:MZ I w a)
include I a w aH
def akw (N:a.kd=1)(am:a.cnt<=20000) :
  MC 131 #[LC a.p] w λe w'=>(∃ v,e=MN v/\PE I w.heap.size w' v (O0 a.tr))/\LX w w':=by
 obtain⟨_,bF,c0,_,_⟩:=aH.cells;have ex:a.tr.kids.length<=90000:=awF
 have ag:=hide (YR a.tr a.p w aH.nat ex);rw[N] at c0
 generalize O0 a.tr=ah at ag ⊢
 exact awG
def akx (N:a.kd=6)(am:a.cnt<=20000) :
  MC 131 #[LC a.p] w λe w'=>(∃ v,e=MN v/\PE I w.heap.size w' v [Tj a.tr,O0 a.tr].flatten)/\LX w w':=by
 obtain⟨_,bF,c0,_,_⟩:=aH.cells;have ex:a.tr.kids.length<=20000:=awF
 have hD:=Xp a.tr;have gx:=Rk a.tr;have ag:=hide (aax a.tr a.p w aH.nat LM);have b9:=hide (λ(L:LK) (D:LX w L)=>YR a.tr a.p L (Nj.later (Below.stay D) _ _ aH.nat) LM);rw[N] at c0
 generalize O0 a.tr=ah at b9 gx ⊢
 generalize Tj a.tr=M at ag hD ⊢
 generalize a.p=p at bF c0 ag b9 ⊢
 have hsum:Vx [M,ah]<=90000:=by simp[Vx];omega
 have A{G}(h:G:=by
 have ft:=hide (Zw (I:=I) (B:=0) w2.heap.size [.slice aQ M.length cc,.slice px ah.length py] [M,ah] (w2.alloc (.cells #[.slice aQ M.length cc,.slice px ah.length py] 46)) rfl MP MP
  (λj aT=>by
   rw[Lib.cell_of_heap (LP _ _)]
   match j,aT with
   | 0,_=>rfl
   | 1,_=>rfl)
  (λj aT hi=>by
   match j,aT,hi with
   | 0,_,_=>exact cd.out.later bx
   | 1,_,_=>exact bX.out.later bx) hsum 2 rfl)
 exact awH):=LG h;exact awI
def ahR (N:a.kd=13) :
  MC 131 #[LC a.p] w λe w'=>(∃ v,e=MN v/\PE I w.heap.size w' v [a.tr])/\LX w w':=by
 obtain⟨_,bF,c0,_,_⟩:=aH.cells;have aN:=aH.nat;rw[N] at c0
 generalize a.p=p at bF c0 aN ⊢
 have b3:=hide aN;clear N;go_enter zalht,zalhi;go_wp2;go_ret;refine⟨⟨_,rfl,[p],⟨rfl,zalal ⟨w.heap.size,1,#[LC p],rfl,Nh,LP _ _,Nh,by decide,rfl,rfl⟩⟩,QK.cons (Nj.later (Below.stay ?_) _ _ b3.out) QK.nil⟩,?_⟩
 all_goals
  exact Qn
def aky (E:a.kd≠1)(bw:a.kd≠5)(BH:a.kd≠37)(h6:a.kd≠6)(ei:a.kd≠13) :
  MC 131 #[LC a.p] w λe w'=>(∃ v,e=MN v/\PE I w.heap.size w' v [])/\LX w w':=by
 have A{G}(h:G:=by
 exact⟨⟨_,rfl,[],⟨rfl,zalad ⟨rfl,rfl⟩⟩,QK.nil⟩,O4⟩):=LG h;exact awJ
end
section
variable {I:Nat->Prop}
include I
def MZ.two {w:LK}{a x y:Ad}{ks:List Ad}(h:MZ I w a)(N:a.ks=x::y::ks):∃ g cap,w.cell? (LD a.p 3)=some (.slice (some (LD g 0)) (ks.length+1+1) cap)/\g<w.heap.size/\w.cell? (LD g 0)=some (LC x.p)/\w.cell? (LD g 1)=some (LC y.p)/\MZ I w x/\MZ I w y:=by
 obtain⟨_,_,_,_,v,c3,T,_⟩:=h.cells;rw[N] at T;obtain⟨g,cap,rfl,am⟩:=OB T MP;refine⟨g,cap,?_,(Me T g rfl).1,?_,?_,h.parts x (by rw[N];simp),h.parts y (by rw[N];simp)⟩
 ·rw[c3];simp
 ·have:=am 0 MP;simpa using this
 ·have:=am 1 MP;simpa using this
def akz {a x y:Ad}{ks:List Ad}{w:LK}(aH:MZ I w a)(N:a.kd=5\/a.kd=37)(bd:a.ks=x::y::ks)(am:a.cnt<=20000) :
  MC 131 #[LC a.p] w λe w'=>(∃ v,e=MN v/\PE I w.heap.size w' v [x.tr.kids,vn y.tr,Tj y.tr,O0 y.tr].flatten)/\LX w w':=by
 obtain⟨_,bF,c0,_,_⟩:=aH.cells;obtain⟨g,cap,c3,de,fN,fc,af,hy⟩:=aH.two bd;obtain⟨_,j3,_,_,_⟩:=af.cells;obtain⟨DD,pD,t2⟩:=af.row;have m1:x.cnt+y.cnt<=20000:=by
  have E:=OA a;rw[bd,Ad.cnts,Ad.cnts] at E;omega
 have Cx:x.tr.kids.length<=x.cnt:=by
  have E:=NG x.tr.kids;have O:=x.ND;have ao:x.tr.count=1+Tr.counts x.tr.kids:=by cases x.tr with|mk kd tx n ks=>exact count_mk _ _ _ _
  omega
 have yJ:y.tr.kids.length<=y.cnt:=by
  have E:=NG y.tr.kids;have O:=y.ND;have ao:y.tr.count=1+Tr.counts y.tr.kids:=by cases y.tr with|mk kd tx n ks=>exact count_mk _ _ _ _
  omega
 have hD:=Xp y.tr;have gx:=Rk y.tr;have k3:=ady y.tr;rw[y.ND] at k3;have kE:=hide (λ(L:LK) (D:LX w L)=>akA y L (MZ.later (λb _ ab=>D.block b ab) _ hy) LM);have fZ:=hide (λ(L:LK) (D:LX w L)=>aax y.tr y.p L (Nj.later (Below.stay D) _ _ hy.nat) LM);have jK:=hide (λ(L:LK) (D:LX w L)=>YR y.tr y.p L (Nj.later (Below.stay D) _ _ hy.nat) LM);have hsum:Vx [x.tr.kids,vn y.tr,Tj y.tr,O0 y.tr]<=90000:=by simp[Vx];omega
 have sW:=hide t2;obtain⟨lY,lZ,v8⟩:=t2.form
 generalize x.tr.kids=K at sW hsum v8 ⊢
 generalize O0 y.tr=ah at jK hsum ⊢
 generalize Tj y.tr=M at fZ hsum ⊢
 generalize vn y.tr=V at kE hsum ⊢
 have A{G}(h:G:=by
 rcases N with N|N
 all_goals
  rw[N] at c0;clear N;go_enter zalht,zalhi;go_wp2_with fail
  go_region
  go_wp2_with fail;obtain⟨w1,c9⟩:∃ w1,w1=w.drew:=⟨_,rfl⟩;have gI:LX w w1:=by rw[c9];exact O4.drew
  rw[<-c9];clear c9 fN fc c0 c3 pD;have aE:LX w w1.drew:=gI.drew;refine wp_region_held (S:=λY=>LX w Y) Nw ?_;change wpAnyH _ _ _ _ _ _ _ _ (World.drew _);refine wh 0 (LC na) aE ?_;refine wh 1 (LC na) aE ?_;refine wh 2 (Mc na 3) aE ?_;refine wh 3 (.slice lY K.length lZ) aE ?_ (hy:=zalad ⟨by kernel_rfl,λY dC=>by have a2:=(dC.cell (p:=(LD na 3)) j3).trans AZ.out;go_simp⟩)
  refine wh 4 (LC gO) aE ?_;refine wh 6 (LC gO) aE ?_;refine wh 8 (LC gO) aE ?_;refine UK 5 λfk U=>?_;go_simp;refine cm (kE.out w1.drew aE) ?_;rintro e w2 ⟨⟨u,rfl,T⟩,D⟩;have eN:LX w w2:=aE.trans (D.mono aE.size);have p4:=hide (T.low (zalae _));obtain⟨va,ck,rfl⟩:=T.form;refine U.out _ _ eN (λ_=>?_);clear fk U;refine UK 7 λfk U=>?_;go_simp;refine cm (fZ.out w2 eN) ?_;rintro e aq ⟨⟨u,rfl,T⟩,D⟩;have eo:LX w aq:=eN.trans (D.mono eN.size);have hL:=hide (T.low (zalae _))
  have nW:=hide (p4.out.later D);obtain⟨lS,lT,rfl⟩:=T.form;refine U.out _ _ eo (λ_=>?_);clear fk U;refine UK 9 λfk U=>?_;go_simp;refine cm (jK.out aq eo) ?_;rintro e bh ⟨⟨u,rfl,T⟩,D⟩;have fe:LX w bh:=eo.trans (D.mono eo.size);have w3:=hide (T.low (zalae _));have sI:=hide (hL.out.later D);have kQ:=hide (nW.out.later D);obtain⟨qQ,qR,rfl⟩:=T.form;refine U.out _ _ fe (λ_=>?_);clear fk U;refine UK 10 λfk U=>?_;go_simp
  have ec:LX bh (bh.alloc (.cells #[.slice lY K.length lZ,.slice va V.length ck,.slice lS M.length lT,.slice qQ ah.length qR] 46)):=Qn;have dK:=fe.trans (ec.mono fe.size);refine U.out _ _ dK (λ_=>?_);clear fk U;have gS:=hide (Zw (I:=I) (B:=0) bh.heap.size [.slice lY K.length lZ,.slice va V.length ck,.slice lS M.length lT,.slice qQ ah.length qR] [K,V,M,ah] (bh.alloc (.cells #[.slice lY K.length lZ,.slice va V.length ck,.slice lS M.length lT,.slice qQ ah.length qR] 46)) rfl MP MP
   (λj aT=>by
    rw[Lib.cell_of_heap (LP _ _)]
    match j,aT with
    | 0,_=>rfl
    | 1,_=>rfl
    | 2,_=>rfl
    | 3,_=>rfl)
   (λj aT hi=>by
    match j,aT,hi with
    | 0,_,_=>exact sW.out.later dK
    | 1,_,_=>exact kQ.out.later ec
    | 2,_,_=>exact sI.out.later ec
    | 3,_,_=>exact w3.out.later ec) hsum 4 rfl)
  rw[<-cy.out] at gS;refine UK 11 λfk U=>?_;go_simp;refine cm gS.out ?_;rintro e cM ⟨⟨u,rfl,T⟩,D⟩;have gb:=dK.trans (D.mono dK.size);have kM:=hide (T.low dK.size);obtain⟨uj,wo,rfl⟩:=T.form;refine U.out _ _ gb (λ_=>?_);clear fk U;refine wh 12 (.slice uj X.length wo) gb ?_;refine wpAnyH_done Nw ?_ _;go_simp;have jy:=hide gb;go_wp2;go_ret;exact⟨⟨_,rfl,kM.out⟩,jy.out⟩):=LG h;exact awK
def akB {a:Ad}{w:LK}(aH:MZ I w a)(an:MF a.tr=true->∃ x y ks,a.ks=x::y::ks)(am:a.cnt<=20000) :
  MC 131 #[LC a.p] w λe w'=>(∃ v,e=MN v/\PE I w.heap.size w' v (declT a.tr))/\LX w w':=by
 obtain⟨aW,_,bO⟩:=a.NC;unfold declT;rw[aW]
 by_cases E:a.kd=1
 ·rw[zalak E];exact akw aH E am
 ·rw[zalah E]
  by_cases bw:a.kd=5\/a.kd=37
  ·rw[zalak bw,bO];obtain⟨x,y,ks,N⟩:=an (by unfold MF;rw[aW];rcases bw with h|h <;> rw[h] <;> rfl)
   rw[N];exact akz aH bw N am
  ·rw[zalah bw]
   by_cases h6:a.kd=6
   ·rw[zalak h6];exact akx aH h6 am
   ·rw[zalah h6]
    by_cases ei:a.kd=13
    ·rw[zalak ei];exact ahR aH ei
    ·rw[zalah ei];exact aky aH E (λh=>bw (zalad h)) (λh=>bw (zalal h)) h6 ei
end
abbrev XD:List UInt8:=[101,118,97,108]
abbrev acZ:List UInt8:=[97,114,103,117,109,101,110,116,115]
def agf (aj:List LW)(s:LW):Bool:=!(s.toList==XD)&&(!(s.toList==acZ)&&nameB aj s)
def XE (aj:List LW)(s:LW)(w:LK)(W:s.size<=maxLen)
  (av:aj.length=19) (t:TypeId) (fr:Nat × Nat) (hg:w.heap[6]? = some (.cells (aj.map Value.string).toArray t fr)) :
  MC 136 #[LQ s] w λe w'=>e=MN (L9 (agf aj s))/\LX w w':=by
 have ag:=hide (λ(L:LK) (D:LX w L)=>aix aj s L W av t fr (by rw[D.block 6 (lt_of_heap hg)];exact hg))
 have aV:Hid (agf aj s=(!(s.toList==XD)&&(!(s.toList==acZ)&&nameB aj s))):=rfl
 generalize agf aj s=R at aV ⊢
 clear hg av
 cases E:(s.toList==XD) with
 | true=>
  have O:(!true&&(!(s.toList==acZ)&&nameB aj s))=false:=rfl;rw[E,O] at aV;go_enter func136,ntmps136;go_wp2;go_ret;exact⟨Oy aV.out.symm,O4⟩
 | false=>
  cases ao:(s.toList==acZ) with
  | true=>
   have O:(!false&&(!true&&nameB aj s))=false:=rfl;rw[E,ao,O] at aV;go_enter func136,ntmps136;go_wp2;go_ret;exact⟨Oy aV.out.symm,O4⟩
  | false=>
   have O:(!false&&(!false&&nameB aj s))=nameB aj s:=rfl;rw[E,ao,O] at aV
   generalize nameB aj s=IS at aV ag
   go_enter func136,ntmps136;go_wp2_with fail;refine cm (ag.out _ O4) ?_;rintro e w1 ⟨rfl,D⟩;have ba:=hide D;go_wp2;go_ret;exact⟨Oy aV.out.symm,ba.out⟩
def Oz (k:Int):Bool:=k==2||(k==3||(k==4||(k==5||(k==37||(k==13||k==23)))))
def agh {I:Nat->Prop}{t:Ad}{w:LK}(aH:MZ I w t):MC 139 #[LC t.p] w λe w'=>e=MN (L9 (Oz t.kd))/\w'=w:=by
 obtain⟨_,bF,c0,_,_⟩:=aH.cells;unfold Oz
 generalize t.p=p at bF c0 ⊢
 generalize t.kd=kd at c0 ⊢
 cases E:(kd==2) <;> cases O:(kd==3) <;> cases ao:(kd==4) <;> cases aM:(kd==5) <;> cases bw:(kd==37) <;> cases h6:(kd==13) <;> cases h7:(kd==23)
 all_goals first
  | (exfalso;simp_all;done)
  | (go_enter func139,ntmps139;go_wp2;go_ret;exact⟨rfl,rfl⟩)
def Vg (k:Int)(s:LW):Bool:=k==9||(k==23&&s.toList==XD)
def aiy {I:Nat->Prop}{t:Ad}{w:LK}(aH:MZ I w t):MC 141 #[LC t.p] w λe w'=>e=MN (L9 (Vg t.kd t.tx))/\w'=w:=by
 obtain⟨_,bF,c0,c1,_⟩:=aH.cells;unfold Vg
 generalize t.p=p at bF c0 c1 ⊢
 generalize t.kd=kd at c0 ⊢
 generalize t.tx=tx at c1 ⊢
 cases E:(kd==9) <;> cases O:(kd==23) <;> cases ao:(tx.toList==XD)
 all_goals
  go_enter func141,ntmps141;go_wp2;go_ret;exact⟨rfl,rfl⟩
