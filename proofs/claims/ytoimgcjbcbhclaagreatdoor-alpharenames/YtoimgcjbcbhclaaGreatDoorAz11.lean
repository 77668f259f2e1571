import Derived.Test.YtoimgcjbcbhclaaGreatDoorAz9
import Derived.Laws.IdiomRangeMap
import Derived.Maps.RangeRun
set_option maxRecDepth 100000
set_option maxHeartbeats 0
set_option linter.all false
namespace Go.Proofs.YtoimgcjbcbhclaaGreatDoor
open Go.RowKit Go.Proofs.Tryz
def PY:List Tr->LW
 | .mk a9 _ _ (.mk bD gl _ _::_)::_=>if a9=15/\bD=18/\gl=Z9 then Nq else LH
 | _=>LH
def ZX (n:Int)(kd:Int)(ts:List Tr):Qg (.mk kd LH n ts)=.mk kd (PY ts) n ts:=by
 unfold Qg PY
 split <;> rename_i h
 ·simp only[Tr.mk.injEq] at h;obtain⟨rfl,rfl,rfl,rfl⟩:=h;rfl
 ·split
  ·rename_i O
   exact absurd rfl (h _ _ _ _ _ _ _ _ _ _ _ _)
  ·rfl
def ahx {t:Tr}{r:List Tr}(h:t.kd≠15):PY (t::r)=LH:=by
 unfold PY
 split
 ·rename_i k1
  simp only[zalfh] at k1;obtain⟨rfl,_⟩:=k1;rw[zalah (λa2=>h a2.1)]
 ·rfl
def ZY {t bD:Tr}{r e8:List Tr}(N:t.kids=bD::e8)(h:bD.kd≠18\/bD.tx≠Z9):PY (t::r)=LH:=by
 cases t with
 | mk a b c eQ=>
  simp only[Tr.kids] at N;subst N
  cases bD with
  | mk fS a' c2 d2=>
   simp only[Tr.kd,Tr.tx] at h;simp only[PY];rw[zalah];rintro⟨_,O,ao⟩
   rcases h with h|h
   ·exact h O
   ·exact h ao
def ahy {t bD:Tr}{r e8:List Tr}(E:t.kd=15)(N:t.kids=bD::e8)(O:bD.kd=18)(ao:bD.tx=Z9):PY (t::r)=Nq:=by
 cases t with
 | mk a b c eQ=>
  simp only[Tr.kids] at N;subst N
  cases bD with
  | mk fS a' c2 d2=>
   simp only[Tr.kd,Tr.tx] at E O ao;simp only[PY];rw[zalak ⟨E,O,ao⟩]
def abI {B:Nat}{w:LK}{ts:List Tr}{v:LY}(N:KV B w ts v)(af:∀ t ∈ ts,t.kd=15->∃ v r,t.kids=v::r)(ab:ts.length<=100000) :
  MC 112 #[v] w λe w'=>e=MN (LQ (PY ts))/\w'=w:=by
 cases ts with
 | nil=>
  obtain⟨a,cap,rfl⟩:=N.shape;clear af ab;go_enter func112,ntmps112;go_wp2;go_ret;exact⟨rfl,rfl⟩
 | cons t r=>
  obtain⟨ps,T,bd⟩:=N;have hlen:=LU.length _ _ bd;obtain⟨g,cap,rfl,am⟩:=OB T (by rw[hlen];simp)
  have dZ:=am 0 (by rw[hlen];simp)
  obtain⟨p,d8,rfl,av,_⟩:=bd.parts;simp only[zaldn] at dZ;rw[hlen];have hD:(0:Int)<((t::r).length:Int):=by simp
  obtain⟨u,bf,D,hrow,hkids⟩:=av.opens;obtain⟨f0,_,_,dR,_⟩:=node_cells D;obtain⟨ah,bm⟩:∃ ah,ah=(t::r).length:=⟨_,rfl⟩;rw[<-bm] at hD ⊢;have hR:decide ((ah:Int) > 0)=true:=by simpa using hD
  by_cases eX:t.kd=15
  ·obtain⟨bD,e8,cq⟩:=af t MP eX;rw[cq] at hkids;have hlen2:=LU.length _ _ hkids;obtain⟨dn,cap2,rfl,gv⟩:=OB hrow (by rw[hlen2];simp)
   have GQ:=gv 0 (by rw[hlen2];simp)
   obtain⟨iC,Du,rfl,gy,_⟩:=hkids.parts;simp only[zaldn] at GQ;have jf:(0:Int)<(((iC::Du).length:Nat):Int):=by simp
   obtain⟨u2,_,a5,_,_⟩:=gy.opens;obtain⟨dH,aW,_,_,_⟩:=node_cells a5;rw[eX] at f0;obtain⟨xm,tt⟩:∃ xm,xm=(iC::Du).length:=⟨_,rfl⟩;rw[<-tt] at dR jf;clear tt
   by_cases jT:bD.kd=18
   ·rw[jT] at dH
    by_cases aS:bD.tx=Z9
    ·have bB:=ahy (r:=r) eX cq jT aS;have xp:(bD.tx.toList==[117,115,101,32,115,116,114,105,99,116])=true:=RX (b:=Z9) rfl aS;have dm:=hide bB;clear bB cq af am gv D a5 hlen hlen2 bm ab aS jT eX;exact aqp
    ·have bB:=ZY (r:=r) cq (zalal aS);have xp:(bD.tx.toList==[117,115,101,32,115,116,114,105,99,116])=false:=RY (b:=Z9) rfl aS;have dm:=hide bB;clear bB cq af am gv D a5 hlen hlen2 bm ab aS jT eX;exact aqp
   ·have bB:=ZY (r:=r) cq (zalad jT);have Bc:(bD.kd==18)=false:=zalaj.2 jT;have dm:=hide bB;clear bB cq af am gv D a5 hlen hlen2 bm ab jT eX;exact aqp
  ·have bB:=ahx (r:=r) eX;have Bb:(t.kd==15)=false:=zalaj.2 eX;have dm:=hide bB;clear bB af am D hlen bm ab eX;exact aqp
def abJ (body:Bool)(r:PR Tr):PR Tr:=if body then r.bind λt j=>.ok (Qg t) j else r
def adq (body:Bool)(er:Int)(p:Nat):abJ body (.bad er p)=.bad er p:=by cases body <;> rfl
def adr (body:Bool):abJ body .out=.out:=by cases body <;> rfl
def aE3 (c:PC)(s:LW)(i:Nat)(w:LK)(w1:LK):Prop:=
 ((∃ j,MG c.l s i=.ok () j/\Ps c w1 j 0 (-1))\/(∃ er pl,MG c.l s i=.bad er pl/\er≠0/\∃ j,Ps c w1 j er (pl:Int)))/\Ap c.P w.heap.size w w1
def av2 {c:PC}{s:LW}{i:Nat}{w w1:LK}{e:Ending}(h:Oj c w (λ_ (_:Unit) v=>ZU v) ZU (MG c.l s i) e w1):e=MN (.tuple #[])/\aE3 c s i w w1:=by
 cases T:MG c.l s i with
 | out=>
  exfalso;unfold MG Qo at T
  split at T <;> cases T
 | ok x j=>
  rw[T] at h;obtain⟨⟨v,rfl,rfl⟩,O,ao⟩:=h;exact⟨rfl,zalad ⟨j,T,O⟩,ao⟩
 | bad er pl=>
  rw[T] at h;obtain⟨⟨v,rfl,rfl⟩,O,he,ao⟩:=h;exact⟨rfl,zalal ⟨er,pl,T,he,O⟩,ao⟩
def Q9 {c:PC}{w:LK}{i:Nat}(h:Ps c w i 0 (-1)):MC 110 #[NW c] w λe w'=>e=MN (L9 true)/\w'=w:=UD c w i 0 (-1) h
def Qq {c:PC}{w:LK}{i:Nat}{er pl:Int}(he:er≠0)(h:Ps c w i er pl):MC 110 #[NW c] w λe w'=>e=MN (L9 false)/\w'=w:=by
 have:=UD c w i er pl h;rw[zalaj.2 he] at this;exact this
def anX {α:Type}{p:α->Prop}{l:List α}{x:α}(h:∀ t ∈ l,p t)(af:p x):∀ t ∈ l++[x],p t:=by
 intro t aH
 rcases zalat.1 aH with E|E
 ·exact h t E
 ·rw[zalaf.1 E];exact af
def PL {c:PC}{F:OQ}(ai:ZW c F)(aN:∃ k,VW c.l k F)(U:ZK F)(body:Bool)(w:LK)(d i:Nat)(r:PR Tr)(Ci:d<=30)(W:r=abJ body (MV c.l F d i))(ay:r≠.out)(h:Ps c w i 0 (-1)) :
  MC 186 #[NW c,LJ (d:Int),L9 body] w (Oj c w (NV w.heap.size) ZN r):=by
 obtain⟨a6,b4,bL,bM,bP⟩:=zalbl info22;have ag:=hide (O9 c w i Nc MK h);have a1:=hide h.SB;have cQ:=hide h.base.len;have dl:=hide h.base.size;unfold MV at W;have aF:=hide W;have bb:=hide ay;have bN:=hide ai;have gV:=hide aN;have oK:=hide U;clear h W ay aN;go_enter func186,ntmps186;go_wp2_with fail;refine NJ ?_;intro e w1 ae;obtain⟨rfl,aA⟩:=av2 ae;have hZ:=hide aA;clear ae aA;go_wp2_with fail
 go_loopg [7] F.fuel (λk v wr=>(∃ au j,abJ body ((NM c.l F d k au j).bind λts aX=>.ok (.mk 6 LH 0 ts) aX)=r/\KV w.heap.size wr au v/\Ps c wr j 0 (-1)/\Ap c.P w.heap.size w wr/\au.length<=j/\(∀ t ∈ au,t.kd=15->∃ x y,t.kids=x::y))
  \/ (∃ er pl,r=.bad er pl/\er≠0/\(∃ j,Ps c wr j er (pl:Int))/\Ap c.P w.heap.size w wr/\ZL v))
 case atStart=>
  obtain⟨aA,aa⟩:=Lu hZ
  rcases aA with ⟨j,aA,ae⟩|⟨er,pl,aA,he,ae⟩
  ·refine zalad ⟨[],j,?_,KV.nil _ _,ae,aa,zalae _,by simp⟩;rw[aF.out,aA];rfl
  ·refine zalal ⟨er,pl,?_,he,ae,aa,_,_,_,rfl⟩;rw[aF.out,aA];exact adq _ _ _
 case round=>
  rcases hrel with ⟨au,j,ac,e7,cF,dq,dE,hall⟩|⟨er,pl,ac,he,⟨j,cF⟩,dq,a,n,jl,rfl⟩
  ·obtain⟨k,rfl⟩:∃ k,gk=k+1:=by
    cases gk with
    | zero=>rw[show NM c.l F d 0 au j=.out from rfl] at ac;exact absurd (ac.symm.trans (adr body)) bb.out
    | succ k=>exact⟨k,rfl⟩
   have es:=hide (Q9 cF);have b9:=hide (NP c wr j PW MK cF);have cD:=hide cF;have b7:=hide dq;have fu:=hide e7;have bm:=Lu cQ;have hj:=cF.lt
   by_cases af:fx c.l j=PW
   ·have aG:Hid (abJ body (.ok (.mk 6 LH 0 au) (j+1))=r):=by
     unfold NM at ac;rw[zalak af] at ac;exact ac
    have nq:=hide hall;have hf:decide (fx c.l j=PW)=true:=zalaz af;rw[hf] at b9;obtain⟨va,ck,rfl⟩:=e7.shape;have cy:=hide af;clear ac af hf hall;have A{G}(h:G:=by
    have A{G}(h:G:=by
    have cK:=hide (O9 c aq j PW MK (cD.out.later bx));go_wp2_with fail;refine WB ?_;intro e bh ae;have tP:MG c.l PW j=.ok () (j+1):=by unfold MG;rw[zalak cy.out]
    rw[tP] at ae;obtain⟨⟨v,rfl,rfl⟩,cJ,dS⟩:=ae;have A{G}(h:G:=by
    clear cJ tP
    cases body with
    | false=>
     have ac:r=.ok (.mk 6 LH 0 au) (j+1):=aG.out.symm;subst ac;go_wp2;go_ret;refine⟨⟨_,rfl,(EV.new l8.out dd.out.size 6 LH 0).nv⟩,e'.out.alloc _,dd.out.alloc dd.out.size _⟩
    | true=>
     have ac:r=.ok (.mk 6 (PY au) 0 au) (j+1):=by rw[<-ZX];exact aG.out.symm
     subst ac;have gS:=hide (Q9 (e'.out.alloc (MB 6 LH 0 (.slice va au.length ck))));have sA:=hide (abI (KV.later l8.out (Ap.of (R:=c.P) (O4.alloc Nh (MB 6 LH 0 (.slice va au.length ck)))) a1.out) nq.out LM);have eU:(bh.alloc (MB 6 LH 0 (.slice va au.length ck))).cell? (LD bh.heap.size 1)=some (LQ LH):=by rw[cell_of (LP _ _)];rfl
     have n6:(bh.alloc (MB 6 LH 0 (.slice va au.length ck))).frozen? (LD bh.heap.size 1)=false:=Ny (LP _ _) 1;go_wp2_with fail;refine cm gS.out ?_;rintro e bn ⟨rfl,rfl⟩;go_wp2_with fail;refine cm sA.out ?_;rintro e cM ⟨rfl,rfl⟩;go_wp2;go_ret;exact⟨⟨_,rfl,(EV.new l8.out dd.out.size 6 (PY au) 0).nv⟩,e'.out.alloc _,dd.out.alloc dd.out.size _⟩):=LG h;exact aqY):=LG h;exact aqM):=LG h;exact Yx
   ·have aG:Hid (abJ body ((MO c.l F.st d j).bind (λt az=>(NM c.l F d k (au++[t]) az).bind λts aX=>PR.ok (.mk 6 LH 0 ts) aX))=r):=by
     unfold NM at ac;rw[zalah af] at ac;rw[<-ac]
     cases MO c.l F.st d j <;> rfl
    have nq:=hide hall;have hf:decide (fx c.l j=PW)=false:=zalaw af;rw[hf] at b9;have AB:=hide e7;clear ac af hf hall
    cases T:MO c.l F.st d j with
    | out=>
     rw[T] at aG;exact absurd (aG.out.symm.trans (adr body)) bb.out
    | bad er pl=>
     have dv:=hide T;rw[T] at aG;have ac:r=.bad er pl:=aG.out.symm.trans (adq body er pl);have gH:=hide ac;clear T ac;obtain⟨va,ck,zb⟩:=AB.out.shape;subst zb;have A{G}(h:G:=by
     have A{G}(h:G:=by
     have cK:=hide (bN.out.st aq d j _ Ci dv.out.symm (by nofun) (cD.out.later bx));go_wp2_with fail;refine WB ?_;rintro e bh ⟨⟨v,rfl,iD,rfl⟩,cJ,he,dS⟩;have A{G}(h:G:=by
     have A{G}(h:G:=by
     have A{G}(h:G:=by
     have A{G}(h:G:=by
     have ie:Hid (∃ j,Ps c bn j er (pl:Int)):=by
      obtain⟨a8,ae⟩:=Lu e';exact⟨a8,ae.ap (((zalbd w.heap.size bh).alloc bK (.cells #[LC iD] 22)).grown hgrow OM (λk N=>(Lu g8 k N).2)) dl.out⟩
     clear hg;go_wp2
     go_roundg k
     case measure=>omega
     case rel=>exact zalal ⟨er,pl,gH.out,he,ie.out,eg.out,_,_,_,rfl⟩):=LG h;exact aqJ):=LG h;exact ais):=LG h;exact aBq):=LG h;exact aqY):=LG h;exact aqM):=LG h;exact Yx
    | ok t a8=>
     have dv:=hide T;rw[T] at aG;have ac:abJ body ((NM c.l F d k (au++[t]) a8).bind λts aX=>PR.ok (.mk 6 LH 0 ts) aX)=r:=Lu aG;have gH:=hide ac;clear T ac;obtain⟨va,ck,zb⟩:=AB.out.shape;subst zb;have A{G}(h:G:=by
     have A{G}(h:G:=by
     have cK:=hide (bN.out.st aq d j _ Ci dv.out.symm (by nofun) (cD.out.later bx));go_wp2_with fail;refine WB ?_;rintro e bh ⟨⟨v,rfl,iD,rfl,ho⟩,cJ,dS⟩;have e':=hide cJ;have dd:=hide (b1.out.next dS);have h0:=hide (abG em.out b1.out.size dS a1.out ho);have l8:=hide (KV.later em.out dS a1.out);have hlt2:=cJ.lt;have hR:j<a8:=by
      obtain⟨jl,cA⟩:=Lu gV;exact((Pm (l:=c.l) (d:=d) (cA.st (d+1) j hj)).2 t a8 dv.out).1
     clear cJ;have A{G}(h:G:=by
     have A{G}(h:G:=by
     have A{G}(h:G:=by
     have A{G}(h:G:=by
     have ie:=hide (e'.out.ap (((zalbd w.heap.size bh).alloc bK (.cells #[LC iD] 22)).grown hgrow OM (λk N=>(Lu g8 k N).2)) dl.out);have DM:Hid (∀ u ∈ au++[t],u.kd=15->∃ x y,u.kids=x::y):=azk
     clear hg;go_wp2
     go_roundg k
     case measure=>omega
     case rel=>exact zalad ⟨au++[t],a8,gH.out,hJ.out,ie.out,eg.out,by simp;omega,DM.out⟩):=LG h;exact aqJ):=LG h;exact aAe):=LG h;exact ais):=LG h;exact an3):=LG h;exact aqM):=LG h;exact Yx
  ·have es:=hide (Qq he cF);have b9:=hide (P5 c wr j er pl he PW cF);have cD:=hide cF;have b7:=hide dq;subst ac;have A{G}(h:G:=by
   refine Ul ?_;rintro e aq ⟨rfl,rfl⟩
   cases body with
   | false=>
    go_wp2;go_ret;exact⟨⟨_,rfl,_,rfl⟩,⟨j,cD.out.alloc _⟩,he,b7.out.alloc b7.out.size _⟩
   | true=>
    have cK:=hide (Qq he (cD.out.alloc (MB 6 LH 0 (.slice a n jl))));go_wp2_with fail;refine WB ?_;rintro e bh ⟨rfl,rfl⟩;go_wp2;go_ret;exact⟨⟨_,rfl,_,rfl⟩,⟨j,cD.out.alloc _⟩,he,b7.out.alloc b7.out.size _⟩):=LG h;exact Yx
def Vf (c:PC)(w:LK)(i:Nat)(er pl l4:Int)(body:Bool)(he:er≠0)(h:Ps c w i er pl) :
  MC 186 #[NW c,LJ l4,L9 body] w (Xl c w er pl ZN):=by
 have ag:=hide (P5 c w i er pl he Nc h);have bk:=hide h;clear h;go_enter func186,ntmps186;go_wp2_with fail;refine NJ ?_;rintro e w1 ⟨rfl,rfl⟩;have es:=hide (Qq he bk.out);have b9:=hide (P5 c w1 i er pl he PW bk.out);go_wp2_with fail;refine ahU ?_;have A{G}(h:G:=by
 refine Ul ?_;rintro e aq ⟨rfl,rfl⟩
 cases body with
 | false=>
  go_wp2;go_ret;exact⟨⟨_,rfl,_,rfl⟩,⟨i,bk.out.alloc _⟩,he,(Ap.refl c.P _ aq).alloc Nh _⟩
 | true=>
  have cK:=hide (Qq he (bk.out.alloc (MB 6 LH 0 QJ)));go_wp2_with fail;refine WB ?_;rintro e bh ⟨rfl,rfl⟩;go_wp2;go_ret;exact⟨⟨_,rfl,_,rfl⟩,⟨i,bk.out.alloc _⟩,he,(Ap.refl c.P _ aq).alloc Nh _⟩):=LG h;exact Yx
def adt (c:PC)(w:LK)(i:Nat)(er pl:Int)(s:LW)(Gc:LY)(he:er≠0)(h:Ps c w i er pl) :
  MC 252 #[NW c,LQ s,Gc] w λe w'=>e=MN QJ/\w'=w:=by
 have es:=hide (Qq he h);have b9:=hide (P5 c w i er pl he s h);go_enter func252,ntmps252;go_wp2_with fail;refine ahU ?_;have A{G}(h:G:=by
 refine Ul ?_;rintro e aq ⟨rfl,rfl⟩;go_wp2;go_ret;exact⟨rfl,rfl⟩):=LG h;exact Yx
structure akq (c:PC)(lo:Nat)(K:LK->Prop)(f:Nat)(caps:Array LY)(part:Nat->PR Tr):Prop where
 enters:∀ args L,(callFunc f args).run prog L=.ok (.enter f args) L
 stays:∀ L bJ,K L->c.P<L.heap.size->Ap c.P L.heap.size L bJ->K bJ
 does:∀ L i r,K L->r=part i->r≠.out->Ps c L i 0 (-1)->MC f caps L (Oj c L (NV L.heap.size) ZN r)
 /-- What it leans on lies in blocks below a bound. -/
 kept:∀ B L bJ,K L->Below B L bJ->lo<=B->K bJ
def agb (B:Nat)(w:LK)(v:LY):Prop:=∃ ps:List Nat,ps.length<=9/\w.ownsRow B 22 1 v ps.length (ps.map LC)
def agb.of {B:Nat}{w:LK}{ts:List Tr}{v:LY}(h:KV B w ts v)(ab:ts.length<=8):agb B w v:=by
 obtain⟨ps,T,N⟩:=h;exact⟨ps,by rw[LU.length _ _ N];omega,T⟩
def aE4 (c:PC)(w:LK)(r:PR (List Tr))(e:Ending)(w':LK):Prop:=
 match r with
 | .ok ts j=>(∃ v,e=MN v/\KV w.heap.size w' ts v/\ts.length<=8)/\Ps c w' j 0 (-1)/\Ap c.P w.heap.size w w'
 | .bad er pl=>(∃ v,e=MN v/\agb w.heap.size w' v)/\(∃ j,Ps c w' j er (pl:Int))/\er≠0/\Ap c.P w.heap.size w w'
 | .out=>True
section
variable {c:PC} {K:LK->Prop} {f:Nat} {caps:Array LY} {part:Nat->PR Tr} {lo:Nat} (ae:akq c lo K f caps part) (s:LW) (lN:s≠LH) (n:Nat) (w:LK) (i:Nat) (r:PR (List Tr)) (W:r=Og c.l s part n [] i) (ay:r≠.out) (N:K w) (gK:lo<=w.heap.size) (h:Ps c w i 0 (-1))
include c K f caps part lo ae s lN n w i r W ay N gK h
def acW :
  MC 252 #[NW c,LQ s,.func (.func f) #[] caps] w (aE4 c w r):=by
 have fW:=ae.enters;obtain⟨a6,b4,bL,bM,bP⟩:=zalbl info22;have a1:=hide h.SB;have cQ:=hide h.base.len;have dl:=hide h.base.size;have aF:=hide W;have bb:=hide ay;have gW:=hide ae;have mG:=hide N;have oL:=hide gK;have kL:=hide h;clear h W ay N gK;go_enter func252,ntmps252;go_wp2_with fail
 go_loopg [7] n (λk v wr=>(∃ au j,Og c.l s part k au j=r/\KV w.heap.size wr au v/\Ps c wr j 0 (-1)/\Ap c.P w.heap.size w wr/\au.length<=8/\K wr)
  \/ (∃ er pl,r=.bad er pl/\er≠0/\(∃ j,Ps c wr j er (pl:Int))/\Ap c.P w.heap.size w wr/\agb w.heap.size wr v))
 case atStart=>exact zalad ⟨[],i,aF.out.symm,KV.nil _ _,kL.out,Ap.refl _ _ _,by simp,mG.out⟩
 case round=>
  rcases hrel with ⟨au,j,ac,e7,cF,dq,dE,cA⟩|⟨er,pl,ac,he,⟨j,cF⟩,dq,gf⟩
  ·obtain⟨k,rfl⟩:∃ k,gk=k+1:=aqF
   have es:=hide (Q9 cF);have b9:=hide (NP c wr j s lN cF);have cD:=hide cF;have b7:=hide dq;have fu:=hide e7;have gD:=hide cA;have bm:=Lu cQ;have hj:=cF.lt
   by_cases af:fx c.l j=s
   ·have aG:Hid (PR.ok au (j+1)=r):=by
     unfold Og at ac;rw[zalak af] at ac;exact ac
    have hf:decide (fx c.l j=s)=true:=zalaz af;rw[hf] at b9;obtain⟨va,ck,rfl⟩:=e7.shape;have cy:=hide af;clear ac af hf cA;have A{G}(h:G:=by
    refine Ul ?_;rintro e aq ⟨rfl,bx⟩;have b1:=hide (b7.out.next (Ap.of bx));have em:=hide (KV.later fu.out (Ap.of (R:=c.P) bx) a1.out);have cK:=hide (O9 c aq j s lN (cD.out.later bx));go_wp2_with fail;refine WB ?_;intro e bh ae;have tP:MG c.l s j=.ok () (j+1):=by unfold MG;rw[zalak cy.out]
    rw[tP] at ae;obtain⟨⟨v,rfl,rfl⟩,cJ,dS⟩:=ae;have A{G}(h:G:=by
    clear cJ tP;have ac:r=.ok au (j+1):=aG.out.symm;subst ac;go_wp2;go_ret;exact⟨⟨_,rfl,l8.out,dE⟩,e'.out,dd.out⟩):=LG h;exact aqY):=LG h;exact Yx
   ·have aG:Hid (((if au.length=0 then PR.ok () j else MG c.l Uw j).bind λ_ az=>if au.length=8 then Qo c.l 4 az else (part az).bind λt aX=>Og c.l s part k (au++[t]) aX)=r):=by
     unfold Og at ac;rw[zalah af] at ac;exact ac
    have hf:decide (fx c.l j=s)=false:=zalaw af;rw[hf] at b9;obtain⟨va,ck,rfl⟩:=e7.shape;clear ac af hf cA;have A{G}(h:G:=by
    have A{G}(h:G:=by
    have wX:=hide (gW.out.stays _ _ gD.out cD.out.SB (Ap.of bx))
    by_cases aJ:au.length=0
    ·have hR:decide ((0:Int)<(au.length:Int))=false:=by rw[aJ];rfl
     have hgt2:decide (0<au.length)=false:=by rw[aJ];rfl
     have dp:((au.length:Int)==8)=false:=by rw[aJ];rfl
     rw[zalak aJ] at aG;have uX:Hid ((if au.length=8 then Qo c.l 4 j else (part j).bind λt aX=>Og c.l s part k (au++[t]) aX)=r):=Lu aG;rw[zalah LM] at uX;have aG:=uX;have Ag:Hid (au.length<8):=by show _<_;omega
     clear aJ;have wL:=hide (Q9 dr.out);go_wp2_with fail;refine cm wL.out ?_;rintro e su ⟨rfl,rfl⟩
     cases T:part j with
     | out=>
      rw[T] at aG;exact absurd aG.out.symm bb.out
     | bad er pl=>
      have dv:=hide T;rw[T] at aG;have ac:r=.bad er pl:=aG.out.symm;have A{G}(h:G:=by
      rintro e bh ⟨⟨v,rfl,iD,rfl⟩,cJ,he,dS⟩;have e':=hide cJ;have dd:=hide (b1.out.next dS);have l8:=hide (KV.later em.out dS a1.out);exact aDO):=LG h;exact aCq
     | ok t a8=>
      have dv:=hide T;rw[T] at aG;have ac:Og c.l s part k (au++[t]) a8=r:=Lu aG;have A{G}(h:G:=by
      rintro e bh ⟨⟨v,rfl,iD,rfl,ho⟩,cJ,dS⟩;have A{G}(h:G:=by
      have h0:=hide (abG em.out b1.out.size dS a1.out ho);have Ac:=hide (gW.out.stays _ _ wX.out dr.out.SB dS);exact aDP):=LG h;exact aqY):=LG h;exact aCq
    ·have hR:decide ((au.length:Int) > 0)=true:=by simp;omega
     rw[zalah aJ] at aG;have ft:=hide (O9 c aq j Uw MK dr.out);go_wp2_with fail;refine Yi ?_;intro e cM ae
     cases aA:MG c.l Uw j with
     | out=>rw[aA] at aG;exact absurd aG.out.symm bb.out
     | bad er pl=>
      rw[aA] at ae aG;have ac:r=.bad er pl:=aG.out.symm;obtain⟨⟨v,rfl,rfl⟩,⟨oi,k5⟩,he,gJ⟩:=ae;have gH:=hide ac;have ma:=hide k5;have i0:=hide (b1.out.next gJ);have lk:=hide (KV.later em.out gJ a1.out);clear aA ac
      by_cases dp:au.length=8
      ·have xK:((au.length:Int)==8)=true:=by rw[dp];rfl
       have oE:=hide (adk c cM oi er pl 4 he ma.out);go_wp2_with fail;refine cm oE.out ?_;rintro e jo ⟨⟨v,rfl,q,rfl⟩,⟨sj,yV⟩,_,yc⟩;have A{G}(h:G:=by
       go_roundg k
       case measure=>omega
       case rel=>exact zalal ⟨er,pl,gH.out,he,⟨sj,As.out⟩,uv.out,agb.of (by have N:=Lu uO;rw[dp] at N;exact N) dE⟩):=LG h;exact aBi
      ·have xK:((au.length:Int)==8)=false:=zalaj.2 LM;have wI:=hide (Qq he ma.out);go_wp2_with fail;refine cm wI.out ?_;rintro e fs ⟨rfl,rfl⟩;go_wp2
       go_roundg k
       case measure=>omega
       case rel=>exact zalal ⟨er,pl,gH.out,he,⟨oi,ma.out⟩,i0.out,agb.of lk.out dE⟩
     | ok Lp oi=>
      rw[aA] at ae aG;obtain⟨⟨v,rfl,rfl⟩,k5,gJ⟩:=ae;have uX:Hid ((if au.length=8 then Qo c.l 4 oi else (part oi).bind λt aX=>Og c.l s part k (au++[t]) aX)=r):=Lu aG;have aG:=uX;have ma:=hide k5;have i0:=hide (b1.out.next gJ);have lk:=hide (KV.later em.out gJ a1.out);have Ae:=hide (gW.out.stays _ _ wX.out dr.out.SB gJ);clear aA
      by_cases dp:au.length=8
      ·have xK:((au.length:Int)==8)=true:=by rw[dp];rfl
       rw[zalak dp] at aG;have oE:=hide (QI c cM oi 4 MK ma.out);go_wp2_with fail;refine cm oE.out ?_;rintro e jo ⟨⟨v,rfl,q,rfl⟩,⟨sj,yV⟩,he,yc⟩;have A{G}(h:G:=by
       go_roundg k
       case measure=>omega
       case rel=>exact zalal ⟨4,(MJ c.l oi).pl,aG.out.symm,by decide,⟨sj,As.out⟩,uv.out,agb.of (by have N:=Lu uO;rw[dp] at N;exact N) dE⟩):=LG h;exact aBi
      ·have xK:((au.length:Int)==8)=false:=zalaj.2 LM;rw[zalah dp] at aG;have Ag:Hid (au.length<8):=by show _<_;omega
       have wL:=hide (Q9 ma.out);go_wp2_with fail;refine cm wL.out ?_;rintro e su ⟨rfl,rfl⟩
       cases T:part oi with
       | out=>
        rw[T] at aG;exact absurd aG.out.symm bb.out
       | bad er pl=>
        have dv:=hide T;rw[T] at aG;have ac:r=.bad er pl:=aG.out.symm;have A{G}(h:G:=by
        rintro e bh ⟨⟨v,rfl,iD,rfl⟩,cJ,he,dS⟩;have e':=hide cJ;have dd:=hide (i0.out.next dS);have l8:=hide (KV.later lk.out dS a1.out);exact aDO):=LG h;exact aCl
       | ok t a8=>
        have dv:=hide T;rw[T] at aG;have ac:Og c.l s part k (au++[t]) a8=r:=Lu aG;have A{G}(h:G:=by
        rintro e bh ⟨⟨v,rfl,iD,rfl,ho⟩,cJ,dS⟩;have e':=hide cJ;have dd:=hide (i0.out.next dS);have l8:=hide (KV.later lk.out dS a1.out);have h0:=hide (abG lk.out i0.out.size dS a1.out ho);have Ac:=hide (gW.out.stays _ _ Ae.out ma.out.SB dS);exact aDP):=LG h;exact aCl):=LG h;exact aqM):=LG h;exact Yx
  ·obtain⟨zps,sf,ko⟩:=gf;obtain⟨DG,zc,rfl⟩:=NH ko;have fH:=hide ko;have es:=hide (Qq he cF);have b9:=hide (P5 c wr j er pl he s cF);have cD:=hide cF;have b7:=hide dq;subst ac;have A{G}(h:G:=by
   refine Ul ?_;rintro e aq ⟨rfl,rfl⟩;go_wp2;go_ret;exact⟨⟨_,rfl,zps,sf,fH.out⟩,⟨j,cD.out⟩,he,b7.out⟩):=LG h;exact Yx
def Zc :
  MC 252 #[NW c,LQ s,.func (.func f) #[] caps] w (Oj c w (KV w.heap.size) ZL r):=by
 refine cm (acW ae s lN n w i r W ay N gK h) ?_;intro e w' a2
 cases r with
 | out=>exact trivial
 | ok ts j=>
  obtain⟨⟨v,rfl,E,_⟩,O,ao⟩:=a2;exact⟨⟨v,rfl,E⟩,O,ao⟩
 | bad er pl=>
  obtain⟨⟨v,rfl,ps,_,E⟩,O,he,ao⟩:=a2;obtain⟨a,k,a0⟩:=NH E;exact⟨⟨v,rfl,a,_,k,a0⟩,O,he,ao⟩
end
structure Zt (c:PC)(b:Nat)(L:LK):Prop where
 blk:L.heap[b]? = some (NK #[NW c] 164)
 ne:b≠c.P
section
variable {c:PC} {b:Nat} {L:LK} (h:Zt c b L)
include c b L h
def Zt.cell:L.cell? (LD b 0)=some (NW c):=by rw[cell_of h.blk];rfl
def Zt.lt:b<L.heap.size:=lt_of_heap h.blk
end
def Zt.ap {c:PC}{b:Nat}{L bJ:LK}(h:Zt c b L)(aa:Ap c.P L.heap.size L bJ):Zt c b bJ:=⟨by rw[aa.block b h.lt h.ne];exact h.blk,h.ne⟩
def Zt.below {c:PC}{b B:Nat}{L bJ:LK}(h:Zt c b L)(aa:Below B L bJ)(D:b<B):Zt c b bJ:=⟨by rw[aa.block b D];exact h.blk,h.ne⟩
structure acD (c:PC)(b:Nat)(d:Nat)(L:LK):Prop where
 blk:L.heap[b]? = some (NK #[LJ (d:Int)] 3)
 ne:b≠c.P
section
variable {c:PC} {b d:Nat} {L:LK} (h:acD c b d L)
include c b d L h
def acD.cell:L.cell? (LD b 0)=some (LJ (d:Int)):=by rw[cell_of h.blk];rfl
def acD.lt:b<L.heap.size:=lt_of_heap h.blk
end
def acD.ap {c:PC}{b d:Nat}{L bJ:LK}(h:acD c b d L)(aa:Ap c.P L.heap.size L bJ):acD c b d bJ:=⟨by rw[aa.block b h.lt h.ne];exact h.blk,h.ne⟩
def acD.below {c:PC}{b d B:Nat}{L bJ:LK}(h:acD c b d L)(aa:Below B L bJ)(D:b<B):acD c b d bJ:=⟨by rw[aa.block b D];exact h.blk,h.ne⟩
def aE5:TM 253:=λ_ _=>by kernel_rfl
def ako {B:Nat}{w:LK}(bA:B<=w.heap.size)(kd:Int)(tx:LW)(z:Int):NV B (w.alloc (MB kd tx z QJ)) (.mk kd tx z []) (LC w.heap.size):=(EV.new (KV.nil B w) bA kd tx z).nv
def ahz {c:PC}{b:Nat}(L:LK)(i:Nat)(r:PR Tr)(N:Zt c b L)(W:r=Qw c.l i)(ay:r≠.out)(h:Ps c L i 0 (-1)) :
  MC 253 #[Mc b 0] L (Oj c L (NV L.heap.size) ZN r):=by
 have k0:=N.cell;unfold Qw at W;have ag:=hide (RJ c L i h);have aF:=hide W;have bb:=hide ay;clear h W ay;go_enter func253,ntmps253;go_wp2_with fail;refine NJ ?_;intro e w1 ae
 cases T:nameP c.l i with
 | out=>rw[T] at aF;exact absurd aF.out bb.out
 | bad er pl=>
  rw[T] at ae aF;have ac:r=.bad er pl:=Lu aF;subst ac;obtain⟨⟨v,rfl,s,rfl⟩,⟨j,cv⟩,he,aa⟩:=ae;have bk:=hide cv;have bS:=hide aa;clear T;go_wp2;go_ret;exact⟨⟨_,rfl,_,rfl⟩,⟨j,bk.out.alloc _⟩,he,bS.out.alloc bS.out.size _⟩
 | ok x j=>
  rw[T] at ae aF;have ac:r=.ok (.mk 23 x 0 []) j:=Lu aF;subst ac;obtain⟨⟨v,rfl,rfl⟩,cv,aa⟩:=ae;have bk:=hide cv;have bS:=hide aa;clear T;go_wp2;go_ret;exact⟨⟨_,rfl,ako bS.out.size 23 x 0⟩,bk.out.alloc _,bS.out.alloc bS.out.size _⟩
def abK (c:PC)(b:Nat):akq c (b+1) (Zt c b) 253 #[Mc b 0] (Qw c.l) where
 enters:=aE5
 stays:=λ_ _ N _ aa=>N.ap aa
 does:=λL i r N W ay h=>ahz L i r N W ay h
 kept:=λ_ _ _ N aa bA=>N.below aa LM
def acC (c:PC)(w:LK)(i:Nat)(er pl kd l4:Int)(s:LW)(he:er≠0)(h:Ps c w i er pl) :
  MC 189 #[NW c,LJ kd,LQ s,LJ l4] w (Xl c w er pl ZN):=by
 have cD:=hide (h.alloc (.cells #[NW c] 164));have es:=hide (P5 c _ i er pl he NZ cD.out);have D:(w.alloc (.cells #[NW c] 164)).cell? (LD w.heap.size 0)=some (NW c):=by rw[cell_of (LP _ _)];rfl
 clear h;go_enter func189,ntmps189;go_wp2_with fail;refine zlw ?_;rintro e w1 ⟨rfl,rfl⟩;have b9:=hide (adt c _ i er pl OX (.func (.func 253) #[] #[Mc w.heap.size 0]) he cD.out);go_wp2_with fail;refine Ul ?_;rintro e w2 ⟨rfl,rfl⟩;have cK:=hide (Vf c _ i er pl l4 true he (cD.out.alloc (MB 40 LH 0 QJ)));go_wp2_with fail;refine WB ?_;rintro e aq ⟨⟨v,rfl,q,rfl⟩,⟨j,df⟩,_,da⟩;have dr:=hide df;have b1:=hide ((((Ap.refl c.P w.heap.size w).alloc Nh (.cells #[NW c] 164)).alloc MP (MB 40 LH 0 QJ)).trans (da.mono OM))
 go_wp2;go_ret;exact⟨⟨_,rfl,_,rfl⟩,⟨j,(dr.out.alloc _).alloc _⟩,he,(b1.out.alloc b1.out.size _).alloc (by have:=b1.out.size;simp;omega) _⟩
structure aak (c:PC)(bT a' d:Nat)(L:LK):Prop where
 p:Zt c bT L
 n:acD c a' d L
def aak.ap {c:PC}{bT a' d:Nat}{L bJ:LK}(h:aak c bT a' d L)(aa:Ap c.P L.heap.size L bJ):aak c bT a' d bJ:=⟨h.p.ap aa,h.n.ap aa⟩
def aE6:TM 298:=λ_ _=>by kernel_rfl
def aE7:TM 306:=λ_ _=>by kernel_rfl
section
variable {c:PC} {F:OQ} (ai:ZW c F)
include c F ai
def amT {bT a' d:Nat}(aD:d<=30)(L:LK)(i:Nat)(r:PR Tr)(N:aak c bT a' d L)(W:r=Y1 c.l F d i)(ay:r≠.out)(h:Ps c L i 0 (-1)) :
  MC 298 #[Mc bT 0,Mc a' 0] L (Oj c L (NV L.heap.size) ZN r):=by
 have k0:=N.p.cell;have a9:=N.n.cell;have ag:=hide (ai.vl L d i r aD W ay h);have bb:=hide ay;clear h W ay;go_enter func298,ntmps298;exact aD7
def aoa (bT a' d:Nat)(aD:d<=30):akq c (max bT a'+1) (aak c bT a' d) 298 #[Mc bT 0,Mc a' 0] (Y1 c.l F d) where
 enters:=aE6
 stays:=λ_ _ N _ aa=>N.ap aa
 does:=λL i r N W ay h=>amT ai aD L i r N W ay h
 kept:=λ_ _ _ N aa bA=>⟨N.p.below aa LM,N.n.below aa LM⟩
def ajh {bT a' d:Nat}(aD:d<=30)(L:LK)(i:Nat)(r:PR Tr)(N:aak c bT a' d L)(W:r=Rq c.l F d i)(ay:r≠.out)(h:Ps c L i 0 (-1)) :
  MC 306 #[Mc bT 0,Mc a' 0] L (Oj c L (NV L.heap.size) ZN r):=by
 have k0:=N.p.cell;have a9:=N.n.cell;unfold Rq at W;have ag:=hide (RJ c L i h);have eW:=hide N;have aF:=hide W;have bb:=hide ay;have bN:=hide ai;clear h W ay;go_enter func306,ntmps306;go_wp2_with fail;refine NJ ?_;intro e w1 ae;clear k0 a9
 cases T:nameP c.l i with
 | out=>rw[T] at aF;exact absurd aF.out bb.out
 | bad er pl=>
  rw[T] at ae aF;have ac:r=.bad er pl:=Lu aF;subst ac;obtain⟨⟨v,rfl,s,rfl⟩,⟨j,cv⟩,he,aa⟩:=ae;have cD:=hide cv;have b7:=hide aa;have k0:=(eW.out.ap aa).p.cell;have a9:=(eW.out.ap aa).n.cell;have b9:=hide (P5 c w1 j er pl he XT cv);have cK:=hide (Yf c w1 j er pl ((d:Int)+1) he cv);clear T;go_wp2_with fail;refine Ul ?_;rintro e w2 ⟨rfl,rfl⟩;have A{G}(h:G:=by
  have b1:=hide (b7.out.next da);exact alX):=LG h;exact aqX
 | ok x bH=>
  rw[T] at ae aF;obtain⟨⟨v,rfl,rfl⟩,cv,aa⟩:=ae;have cD:=hide cv;have b7:=hide aa;have ba:=hide (eW.out.ap aa);have k0:=ba.out.p.cell;have a9:=ba.out.n.cell;have b9:=hide (O9 c w1 bH XT MK cv);clear T;go_wp2_with fail;refine Ul ?_;intro e w2 ae;clear k0 a9
  cases bG:MG c.l XT bH with
  | out=>rw[bind_ok,bG] at aF;exact absurd aF.out bb.out
  | bad er pl=>
   rw[bind_ok,bG] at aF;rw[bG] at ae;have ac:r=.bad er pl:=Lu aF;subst ac;obtain⟨⟨v,rfl,rfl⟩,⟨j,bE⟩,he,aa⟩:=ae;have bR:=hide (b7.out.next aa);have k0:=(ba.out.ap aa).p.cell;have a9:=(ba.out.ap aa).n.cell;have cK:=hide (Yf c w2 j er pl ((d:Int)+1) he bE);clear bG;have A{G}(h:G:=by
   have b1:=hide (bR.out.next da);exact alX):=LG h;exact aqX
  | ok gA a8=>
   rw[bind_ok,bG] at aF;rw[bG] at ae;obtain⟨⟨v,rfl,rfl⟩,bE,aa⟩:=ae;have bR:=hide (b7.out.next aa);have cU:=hide bE;have k0:=(ba.out.ap aa).p.cell;have a9:=(ba.out.ap aa).n.cell;have ac:r=(MO c.l F.vl d a8).bind λt ca=>.ok (.mk 39 x 0 [t]) ca:=Lu aF;have aG:=hide ac;clear bG ac
   cases d6:MO c.l F.vl d a8 with
   | out=>rw[d6] at aG;exact absurd aG.out bb.out
   | bad er pl=>
    have cK:=hide (bN.out.vl w2 d a8 _ aD d6.symm (by nofun) cU.out);have A{G}(h:G:=by
    have b1:=hide (bR.out.next da);exact alX):=LG h;exact aBJ
   | ok t eI=>
    have cK:=hide (bN.out.vl w2 d a8 _ aD d6.symm (by nofun) cU.out);rw[d6] at aG;have ac:r=.ok (.mk 39 x 0 [t]) eI:=Lu aG;subst ac;clear d6;go_wp2_with fail;refine WB ?_;rintro e aq ⟨⟨v,rfl,q,rfl,av⟩,df,da⟩;have dr:=hide df;have b1:=hide (bR.out.next da);have gU:Hid (Nj (λb=>L.heap.size<=b) aq t q):=Nj.mono (λb D _=>zalan bR.out.size D) _ _ av;go_wp2;go_ret
    exact⟨⟨_,rfl,(Vp (LU.cons gU.out LU.nil) b1.out.size (by simp[maxLen]) #[LC q] rfl 1 rfl 39 x 0 _ rfl).nv⟩,(dr.out.alloc _).alloc _,(b1.out.alloc b1.out.size _).alloc (by have:=b1.out.size;simp;omega) _⟩
def alR (bT a' d:Nat)(aD:d<=30):akq c (max bT a'+1) (aak c bT a' d) 306 #[Mc bT 0,Mc a' 0] (Rq c.l F d) where
 enters:=aE7
 stays:=λ_ _ N _ aa=>N.ap aa
 does:=λL i r N W ay h=>ajh ai aD L i r N W ay h
 kept:=λ_ _ _ N aa bA=>⟨N.p.below aa LM,N.n.below aa LM⟩
end
def Vt {c:PC}{F:OQ}(ai:ZW c F)(aN:∃ k,VW c.l k F)(U:ZK F)(w:LK)(kd:Int)(s:LW)(d i:Nat)(r:PR Tr)(aD:d<=30)(W:r=P7 c.l F kd s d i)(ay:r≠.out)(h:Ps c w i 0 (-1)) :
  MC 189 #[NW c,LJ kd,LQ s,LJ (d:Int)] w (Oj c w (NV w.heap.size) ZN r):=by
 unfold P7 VO at W;have a1:=hide h.SB;have d':w.heap.size≠c.P:=by have:=h.SB;omega
 have eW:Hid (Zt c w.heap.size (w.alloc (.cells #[NW c] 164))):=⟨LP _ _,d'⟩;have kL:=hide (h.alloc (.cells #[NW c] 164));have fG:=hide ((Ap.refl c.P w.heap.size w).alloc Nh (.cells #[NW c] 164));have es:=hide (O9 c _ i NZ MK kL.out);have D:=eW.out.cell;have aF:=hide W;have bb:=hide ay;have bN:=hide ai;have gV:=hide aN;have oK:=hide U;clear h W ay aN d';go_enter func189,ntmps189;go_wp2_with fail;refine zlw ?_;intro e w1 ae
 cases T:MG c.l NZ i with
 | out=>rw[T] at aF;exact absurd aF.out bb.out
 | bad er pl=>
  rw[T] at ae aF;have ac:r=.bad er pl:=Lu aF;subst ac;obtain⟨⟨v,rfl,rfl⟩,⟨j,cv⟩,he,aa⟩:=ae;have cD:=hide cv;have b7:=hide (fG.out.trans (aa.mono MP));have bz:=(eW.out.ap aa).cell;clear T D;have b9:=hide (adt c w1 j er pl OX (.func (.func 253) #[] #[Mc w.heap.size 0]) he cD.out);go_wp2_with fail;refine Ul ?_;rintro e w2 ⟨rfl,rfl⟩;have cK:=hide (Vf c _ j er pl d true he (cD.out.alloc (MB 40 LH 0 QJ)));have qN:w.heap.size<w2.heap.size:=by
   rcases zalgd w.heap.size w2.heap.size with cH|cH
   ·exact cH
   ·simp[World.cell?,zaldo cH] at bz
  have A{G}(h:G:=by
  have b1:=hide ((b7.out.alloc b7.out.size (MB 40 LH 0 QJ)).trans (da.mono OM));exact alX):=LG h;exact aqX
 | ok dg bH=>
  rw[T] at ae aF;obtain⟨⟨v,rfl,rfl⟩,cv,aa⟩:=ae;have cD:=hide cv;have b7:=hide (fG.out.trans (aa.mono MP));have oC:=hide (eW.out.ap aa);have bz:=oC.out.cell;have qN:=oC.out.lt;clear T D
  cases bG:Og c.l OX (Qw c.l) F.fuel [] bH with
  | out=>rw[bind_ok,bG] at aF;exact absurd aF.out bb.out
  | bad er pl=>
   have b9:=hide (Zc (abK c w.heap.size) OX MK F.fuel w1 bH _ bG.symm (by nofun) oC.out LM cD.out);rw[bind_ok,bG] at aF;have ac:r=.bad er pl:=Lu aF;subst ac;clear bG;go_wp2_with fail;refine Ul ?_;rintro e w2 ⟨⟨v,rfl,a,n,k,rfl⟩,⟨j,bE⟩,he,cI⟩;have cU:=hide bE;have bR:=hide (b7.out.next cI);have a5:=(oC.out.ap cI).cell;have H3:=(oC.out.ap cI).lt;have cK:=hide (Vf c _ j er pl d true he (cU.out.alloc (MB 40 LH 0 (.slice a n k))));have A{G}(h:G:=by
   have b1:=hide ((bR.out.alloc bR.out.size (MB 40 LH 0 (.slice a n k))).trans (da.mono OM));exact alX):=LG h;exact aqX
  | ok ts a8=>
   have b9:=hide (Zc (abK c w.heap.size) OX MK F.fuel w1 bH _ bG.symm (by nofun) oC.out LM cD.out);rw[bind_ok,bG] at aF;have ac:r=(MV c.l F d a8).bind λb aX=>.ok (.mk kd s 0 [.mk 40 LH 0 ts,Qg b]) aX:=Lu aF;have aG:=hide ac;clear bG ac;go_wp2_with fail;refine Ul ?_;rintro e w2 ⟨⟨v,rfl,e7⟩,bE,cI⟩;obtain⟨a,k,rfl⟩:=e7.shape;have cU:=hide (bE.alloc (MB 40 LH 0 (.slice a ts.length k)));have bR:=hide ((b7.out.next cI).alloc (b7.out.next cI).size (MB 40 LH 0 (.slice a ts.length k)))
   have jN:=hide (EV.new (e7.mono b7.out.size) (b7.out.next cI).size 40 LH 0).nv;have a5:=(oC.out.ap cI).cell;have H3:=(oC.out.ap cI).lt
   cases d6:MV c.l F d a8 with
   | out=>rw[d6] at aG;exact absurd aG.out bb.out
   | bad er pl=>
    have cK:=hide (PL bN.out gV.out oK.out true _ d a8 (.bad er pl) aD (by rw[d6];rfl) (by nofun) cU.out)
    have A{G}(h:G:=by
    have b1:=hide (bR.out.trans (da.mono OM));exact alX):=LG h;exact aBJ
   | ok b eI=>
    have cK:=hide (PL bN.out gV.out oK.out true _ d a8 (.ok (Qg b) eI) aD (by rw[d6];rfl) (by nofun) cU.out)
    rw[d6] at aG;have ac:r=.ok (.mk kd s 0 [.mk 40 LH 0 ts,Qg b]) eI:=Lu aG;subst ac;clear d6;go_wp2_with fail;refine WB ?_;rintro e aq ⟨⟨v,rfl,q,rfl,hn⟩,df,da⟩;have dr:=hide df;have b1:=hide (bR.out.trans (da.mono OM));have ED:=hide (Yz jN.out da a1.out bR.out.size hn);go_wp2;go_ret;refine⟨⟨_,rfl,(Vp ED.out b1.out.size (by simp[maxLen]) #[LC w2.heap.size,LC q] rfl 2 rfl kd s 0 _ rfl).nv⟩,(dr.out.alloc _).alloc _,(b1.out.alloc b1.out.size _).alloc (by have:=b1.out.size;simp;omega) _⟩
abbrev ab3 (c:PC):Obj:=.cells #[NW c] 164
abbrev ab4 (d:Nat):Obj:=.cells #[LJ (d:Int)] 3
abbrev aae (t:Tk):Obj:=.cells #[LJ t.kd,LQ t.tx,LJ t.n,LJ (t.pl:Int)] 167
def V3 {w:LK}{o:Obj}{g:Nat}(hg:g=w.heap.size):(w.alloc o).heap[g]? = some o:=by subst hg;exact LP _ _
def YN {B:Nat}{w:LK}(bA:B<=w.heap.size)(kd:Int)(tx:LW)(z:Int)(q:Nat)(ac:q=w.heap.size):NV B (w.alloc (MB kd tx z QJ)) (.mk kd tx z []) (LC q):=by subst ac;exact ako bA kd tx z
section
variable (c:PC) (w:LK) (d:Nat) (o:Obj)
include c w d o
def anY (fT:c.P<w.heap.size):aak c w.heap.size (w.heap.size+1) d (((w.alloc (ab3 c)).alloc (ab4 d)).alloc o).drew:=by
 refine⟨⟨?_,by omega⟩,⟨?_,by omega⟩⟩
 ·show (((w.alloc (ab3 c)).alloc (ab4 d)).alloc o).heap[w.heap.size]? = _
  rw[zalaa _ _ _ OM,zalaa _ _ _ MP];exact LP _ _
 ·show (((w.alloc (ab3 c)).alloc (ab4 d)).alloc o).heap[w.heap.size+1]? = _
  rw[zalaa _ _ _ MP];exact V3 MP
def atS:Ap c.P w.heap.size w (((w.alloc (ab3 c)).alloc (ab4 d)).alloc o).drew:=
 ((((Ap.refl c.P w.heap.size w).alloc Nh _).alloc MP _).alloc OM _).drew
end
section
variable {c:PC} (w:LK) (d i:Nat)
include c w d i
def ahp (N:(MJ c.l i).kd=1)(h:Ps c w i 0 (-1)) :
  MC 297 #[NW c,LJ (d:Int)] w (Oj c w (NV w.heap.size) ZN (.ok (.mk 23 (MJ c.l i).tx 0 []) (i+1))):=by
 have ab:i+1<c.l.length:=Q8 h.base.ends h.lt (by rw[N];decide)
 have A{G}(h:G:=by
 have bT:((MJ c.l i).kd==1)=true:=zalbz.2 N;clear h N
 generalize MJ c.l i=t at *
 have A{G}(h:G:=by
 go_ret;have av:((i:Int)+1)=(((i+1:Nat)):Int):=LM;rw[av];refine⟨⟨_,rfl,YN OM 23 t.tx 0 _ MP⟩,?_,?_⟩
 ·exact atQ
 ·exact avD):=LG h;exact aqE):=LG h;exact zsq
def ai6 (N:(MJ c.l i).kd=3)(h:Ps c w i 0 (-1)) :
  MC 297 #[NW c,LJ (d:Int)] w (Oj c w (NV w.heap.size) ZN (.ok (.mk 17 LH (MJ c.l i).n []) (i+1))):=by
 have ab:i+1<c.l.length:=Q8 h.base.ends h.lt (by rw[N];decide)
 have A{G}(h:G:=by
 have bT:((MJ c.l i).kd==1)=false:=by rw[N];rfl
 have cV:((MJ c.l i).kd==3)=true:=zalbz.2 N;clear h N
 generalize MJ c.l i=t at *
 have A{G}(h:G:=by
 go_ret;have av:((i:Int)+1)=(((i+1:Nat)):Int):=LM;rw[av];refine⟨⟨_,rfl,YN OM 17 LH t.n _ MP⟩,?_,?_⟩
 ·exact atQ
 ·exact avD):=LG h;exact aqE):=LG h;exact zsq
def ai7 (N:(MJ c.l i).kd=4)(h:Ps c w i 0 (-1)) :
  MC 297 #[NW c,LJ (d:Int)] w (Oj c w (NV w.heap.size) ZN (.ok (.mk 18 (MJ c.l i).tx 0 []) (i+1))):=by
 have ab:i+1<c.l.length:=Q8 h.base.ends h.lt (by rw[N];decide)
 have A{G}(h:G:=by
 have bT:((MJ c.l i).kd==1)=false:=by rw[N];rfl
 have cV:((MJ c.l i).kd==3)=false:=by rw[N];rfl
 have il:((MJ c.l i).kd==4)=true:=zalbz.2 N;clear h N
 generalize MJ c.l i=t at *
 have A{G}(h:G:=by
 go_ret;have av:((i:Int)+1)=(((i+1:Nat)):Int):=LM;rw[av];refine⟨⟨_,rfl,YN OM 18 t.tx 0 _ MP⟩,?_,?_⟩
 ·exact atQ
 ·exact avD):=LG h;exact aqE):=LG h;exact zsq
end
section
variable {c:PC} {F:OQ} (ai:ZW c F)
include c F ai
def ai8 (w:LK)(d i:Nat)(r:PR Tr)(aD:d<=30)(eH:(MJ c.l i).kd≠1)(hn:(MJ c.l i).kd≠3)(ho:(MJ c.l i).kd≠4)(an:fx c.l i=NZ)(W:r=Px c.l F d i)(ay:r≠.out)(h:Ps c w i 0 (-1)) :
  MC 297 #[NW c,LJ (d:Int)] w (Oj c w (NV w.heap.size) ZN r):=by
 have A{G}(h:G:=by
 rw[zalaz an] at af;have cy:=hide af;have aF:=hide W;have bb:=hide ay;have bN:=hide ai;clear h an eH hn ho W ay;have A{G}(h:G:=by
 have br{G}(h:G:=by
 have cn:=ba.out.p.cell;have bC:=ba.out.n.cell;have b9:=hide (acT bN.out w1 d i r aD aF.out bb.out cD.out);clear D aJ E k0 a9 bD b8;go_wp2_with fail;refine Ul ?_;intro e w2 ae
 cases r with
 | out=>exact absurd rfl bb.out
 | bad er pl=>
  obtain⟨⟨v,rfl,q,rfl⟩,bE,he,aa⟩:=ae;have ib:=hide bE;have iG:=hide (b7.out.next aa);exact avl
 | ok t j=>
  obtain⟨⟨v,rfl,q,rfl,av⟩,bE,aa⟩:=ae;have nk:Hid (Nj (λb=>w.heap.size<=b) w2 t q):=Nj.mono (λb D _=>zalan b7.out.size D) _ _ av;have ib:=hide bE;have iG:=hide (b7.out.next aa);exact avi):=LG h;exact ztd):=LG h;exact aqE):=LG h;exact zso
def ai9 (aN:∃ k,VW c.l k F)(U:ZK F)(w:LK)(d i:Nat)(r:PR Tr)(aD:d<=30)(eH:(MJ c.l i).kd≠1)(hn:(MJ c.l i).kd≠3)(ho:(MJ c.l i).kd≠4)(mr:¬ fx c.l i=NZ)(an:fx c.l i=MI)(W:r=U3 c.l F d i)(ay:r≠.out)(h:Ps c w i 0 (-1)) :
  MC 297 #[NW c,LJ (d:Int)] w (Oj c w (NV w.heap.size) ZN r):=by
 have aA:MG c.l MI i=.ok () (i+1):=by unfold MG;rw[zalak an]
 unfold U3 at W;rw[aA,bind_ok] at W;have A{G}(h:G:=by
 rw[zalaw mr] at af;have cy:=hide af;have aF:=hide W;have bb:=hide ay;have bN:=hide ai;have gV:=hide aN;have oK:=hide U;have wR:=hide an;clear h an eH hn ho W ay aN aA mr;have A{G}(h:G:=by
 clear D aJ E k0 a9 bD b8;have b9:=hide (OG c w1 i MI MK wR.out cD.out);go_wp2_with fail;refine Ul ?_;rintro e w2 ⟨rfl,bE,cI⟩;have cU:=hide bE;have bR:=hide (b7.out.next cI);have bj:=hide (ba.out.ap cI);have cn:=bj.out.p.cell;have aJ:=bE.c0;have E:=bE.c1;obtain⟨k0,a9,bD,b8⟩:=bE.toks;have hlt2:((i:Int)+1)<(c.l.length:Int):=by have:=bE.lt;omega
 have eU:(((i+1:Nat)):Int)=(i:Int)+1:=LM;rw[eU] at E;have bC:=bj.out.n.cell;clear bE eU
 by_cases N:(MJ c.l (i+1)).kd=1
 ·have tI:isName c.l (i+1)=true:=by unfold isName;rw[N];rfl
  have ix:nameP c.l (i+1)=.ok (MJ c.l (i+1)).tx (i+2):=by unfold nameP;rw[zalak N]
  rw[tI,zalak rfl,ix,bind_ok] at aF;rw[N] at k0;have cK:=hide (RJ c w2.drew (i+1) cU.out.drew);rw[ix] at cK;clear N tI ix;go_wp2_with fail
  go_region
  go_wp2_with fail;refine WB ?_;rintro e aq ⟨⟨v,rfl,rfl⟩,df,da⟩;have b1:=hide (bR.out.drew.next da);have bV:=hide ((⟨⟨bj.out.p.blk,bj.out.p.ne⟩,⟨bj.out.n.blk,bj.out.n.ne⟩⟩:aak c w.heap.size (w.heap.size+1) d w2.drew).ap da);have dM:=bV.out.p.cell;have iE:=bV.out.n.cell;have gS:=hide (Vt bN.out gV.out oK.out aq 37 (MJ c.l (i+1)).tx d (i+2) r aD aF.out bb.out df);clear aJ E k0 a9 bD b8 cn bC;exact aD3
 ·have tI:isName c.l (i+1)=false:=by unfold isName;exact zalaj.2 N
  have bT:((MJ c.l (i+1)).kd==1)=false:=zalaj.2 N;rw[tI,zalah MK] at aF;have gS:=hide (Vt bN.out gV.out oK.out w2.drew 37 LH d (i+1) r aD aF.out bb.out cU.out.drew);have b1:=hide (bR.out.drew);clear N tI;go_wp2_with fail
  go_region
  exact aD3):=LG h;exact azY):=LG h;exact zso
def aja (w:LK)(d i:Nat)(r:PR Tr)(aD:d<=30)(eH:(MJ c.l i).kd≠1)(hn:(MJ c.l i).kd≠3)(ho:(MJ c.l i).kd≠4)(mr:¬ fx c.l i=NZ)(pa:¬ fx c.l i=MI)(an:fx c.l i=Nc)(W:r=U2 c.l F d i)(ay:r≠.out)(h:Ps c w i 0 (-1)) :
  MC 297 #[NW c,LJ (d:Int)] w (Oj c w (NV w.heap.size) ZN r):=by
 have aA:MG c.l Nc i=.ok () (i+1):=by unfold MG;rw[zalak an]
 unfold U2 at W;rw[aA,bind_ok] at W;have A{G}(h:G:=by
 rw[zalaw mr] at af;have cy:=hide af;have aF:=hide W;have bb:=hide ay;have bN:=hide ai;have wR:=hide an;have Aj:=hide pa;clear h an eH hn ho W ay aA mr pa;have A{G}(h:G:=by
 have br{G}(h:G:=by
 have bC:=bj.out.p.cell;have cK:=hide (OG c w2 i Nc MK wR.out cU.out);clear cn;go_wp2_with fail;refine WB ?_;rintro e aq ⟨rfl,df,da⟩;have b1:=hide (bR.out.next da);have bV:=hide (bj.out.ap da);have dM:=bV.out.p.cell;have gs:=bV.out.n.lt;have dr:=hide df;clear bC
 cases T:Og c.l PW (Rq c.l F d) F.fuel [] (i+1) with
 | out=>rw[T] at aF;exact absurd aF.out bb.out
 | bad er pl=>
  have A{G}(h:G:=by
  have ac:r=.bad er pl:=Lu aF;subst ac;clear T;go_wp2_with fail;refine Yi ?_;rintro e bh ⟨⟨v,rfl,a,n,k,rfl⟩,⟨j,cJ⟩,he,dS⟩;have ib:=hide cJ;have iG:=hide (b1.out.next dS);go_wp2;go_ret;exact⟨⟨_,rfl,_,rfl⟩,⟨j,ib.out.alloc _⟩,he,iG.out.alloc iG.out.size _⟩):=LG h;exact aB9
 | ok ts j=>
  have A{G}(h:G:=by
  have ac:r=.ok (.mk 38 LH 0 ts) j:=Lu aF;subst ac;clear T;go_wp2_with fail;refine Yi ?_;rintro e bh ⟨⟨v,rfl,e7⟩,cJ,dS⟩;obtain⟨a,k,rfl⟩:=e7.shape;have nk:=hide (e7.mono b1.out.size);have ib:=hide cJ;have iG:=hide (b1.out.next dS);go_wp2;go_ret;exact⟨⟨_,rfl,(EV.new nk.out iG.out.size 38 LH 0).nv⟩,ib.out.alloc _,iG.out.alloc iG.out.size _⟩):=LG h;exact aB9):=LG h;exact azq):=LG h;exact azY):=LG h;exact zso
end
section
variable {c:PC} (w:LK) (d i:Nat) (eH:(MJ c.l i).kd≠1) (hn:(MJ c.l i).kd≠3) (ho:(MJ c.l i).kd≠4) (mr:¬ fx c.l i=NZ) (pa:¬ fx c.l i=MI) (ge:¬ fx c.l i=Nc)
include c w d i eH hn ho mr pa ge
def ajb (cq:(MJ c.l i).kd=2)(h8:0<abm (MJ c.l i).tx)(h:Ps c w i 0 (-1)) :
  MC 297 #[NW c,LJ (d:Int)] w (Oj c w (NV w.heap.size) ZN (.ok (.mk (abm (MJ c.l i).tx) LH 0 []) (i+1))):=by
 have ab:i+1<c.l.length:=Q8 h.base.ends h.lt (by rw[cq];decide)
 have vj:((MJ c.l i).kd==2)=true:=zalbz.2 cq;clear cq;have A{G}(h:G:=by
 have A{G}(h:G:=by
 generalize MJ c.l i=t at *
 go_wp2;go_ret;have av:((i:Int)+1)=(((i+1:Nat)):Int):=LM;rw[av];refine⟨⟨_,rfl,YN (by have:=b1.out.size;simp;omega) _ LH 0 _ MP⟩,?_,?_⟩
 ·exact((dr.out.step ab).alloc _).alloc _
 ·exact((b1.out.setCell (p:=(LD c.P 1)) (zalal rfl) _).alloc (by have:=b1.out.size;simp;omega) _).alloc (by have:=b1.out.size;simp;omega) _):=LG h;exact azV):=LG h;exact zso
def amC (eA:¬ ((MJ c.l i).kd=2/\0<abm (MJ c.l i).tx))(h:Ps c w i 0 (-1)) :
  MC 297 #[NW c,LJ (d:Int)] w (Oj c w (NV w.heap.size) ZN (Qo c.l 3 i)):=by
 have A{G}(h:G:=by
 have A{G}(h:G:=by
 have ft:=hide (QI c (aq.alloc (.map kq 4)) i 3 MK (dr.out.alloc _));have dd:=hide (b1.out.alloc b1.out.size (.map kq 4));have hdone:∀ e bh,Xl c (aq.alloc (.map kq 4)) 3 ((MJ c.l i).pl:Int) ZN e bh->Oj c w (NV w.heap.size) ZN (Qo c.l 3 i) e bh:=λe bh ae=>ahq dd.out ae;have f2:=hide hdone;clear hdone
 generalize aB:Qo (α:=Tr) c.l 3 i=X at *
 clear aB
 generalize ((MJ c.l i).pl:Int)=IR at *
 generalize MJ c.l i=t at *
 by_cases cq:t.kd=2
 ·have vj:(t.kd==2)=true:=zalbz.2 cq;have h8:¬ 0<abm t.tx:=λa2=>eA ⟨cq,a2⟩;exact ayJ
 ·have vj:(t.kd==2)=false:=zalaj.2 cq;exact ayJ):=LG h;exact azV):=LG h;exact zso
end
def abA {c:PC}{F:OQ}(ai:ZW c F)(w:LK)(d i g o:Nat)(r:PR Tr)(aD:d<=30)(W:r=PX c.l F d [] i)(ay:r≠.out)(h:Ps c w i 0 (-1)) :
  MC 254 #[NW c,LJ (d:Int),.slice (some (LD g o)) 0 0] w (Oj c w (NV w.heap.size) ZN r):=by
 have ag:=hide (ai.sg w d i r aD W ay h);have bb:=hide ay;clear h W ay;go_enter func254,ntmps254;exact aD7
def abB (c:PC)(F:OQ)(d g o:Nat)(ls:List LW):Prop:=∀ w i r,r=PX c.l F d ls i->r≠.out->Ps c w i 0 (-1)->w.heap[g]? = some (NK V4 9)->MC 254 #[NW c,LJ (d:Int),.slice (some (LD g o)) ls.length ls.length] w (Oj c w (NV w.heap.size) ZN r)
def YC {B:Nat}{w:LK}{t:Tr}{q:Nat}(h:NV B w t (LC q)):Nj (λb=>B<=b) w t q:=azi
def alC (L:LK)(aR:Nat)(aN:aR=L.heap.size):∃ bZ cf cx kq sn so lR:Array MapEntry,
  (Instr.makeMap 89 none).run prog L.drew.drew=.ok (.map (some aR)) (L.alloc (.map #[] 0)).drew.drew
  /\ (Instr.mapUpdate 89 (.map (some aR)) (LQ tOr) (LJ 25)).run prog (L.alloc (.map #[] 0)).drew.drew=.ok () (L.alloc (.map bZ 1)).drew.drew
  /\ (Instr.mapUpdate 89 (.map (some aR)) (LQ adI) (LJ 26)).run prog (L.alloc (.map bZ 1)).drew.drew=.ok () (L.alloc (.map cf 2)).drew.drew
  /\ (Instr.mapUpdate 89 (.map (some aR)) (LQ Yp) (LJ 27)).run prog (L.alloc (.map cf 2)).drew.drew=.ok () (L.alloc (.map cx 3)).drew.drew
  /\ (Instr.mapUpdate 89 (.map (some aR)) (LQ Yq) (LJ 28)).run prog (L.alloc (.map cx 3)).drew.drew=.ok () (L.alloc (.map kq 4)).drew.drew
  /\ (Instr.mapUpdate 89 (.map (some aR)) (LQ aaH) (LJ 29)).run prog (L.alloc (.map kq 4)).drew.drew=.ok () (L.alloc (.map sn 5)).drew.drew
  /\ (Instr.mapUpdate 89 (.map (some aR)) (LQ abZ) (LJ 30)).run prog (L.alloc (.map sn 5)).drew.drew=.ok () (L.alloc (.map so 6)).drew.drew
  /\ (Instr.mapUpdate 89 (.map (some aR)) (LQ adJ) (LJ 31)).run prog (L.alloc (.map so 6)).drew.drew=.ok () (L.alloc (.map lR 7)).drew.drew
  /\ ∀ s,(Instr.lookup 89 (.map (some aR)) (LQ s) false).run prog (L.alloc (.map lR 7)).drew.drew=.ok (LJ (opK s)) (L.alloc (.map lR 7)).drew.drew:=by
 subst aN;exact ao4 L.drew.drew
def Zh (s x:LW) :
  (WA s x=true/\(x.toList==s.toList)=true)\/(WA s x=true/\(x.toList==s.toList)=false/\(s.toList==[43,45])=true/\(x.toList==[43])=true)
  \/ (WA s x=true/\(x.toList==s.toList)=false/\(s.toList==[43,45])=true/\(x.toList==[43])=false/\(x.toList==[45])=true)
  \/ (WA s x=false/\(x.toList==s.toList)=false/\(s.toList==[43,45])=false)
  \/ (WA s x=false/\(x.toList==s.toList)=false/\(s.toList==[43,45])=true/\(x.toList==[43])=false/\(x.toList==[45])=false):=by
 unfold WA
 by_cases E:x=s
 ·exact zalad ⟨by simp[E],agU E⟩
 ·by_cases O:s=tPM
  ·by_cases ao:x=aaH
   ·exact zalal (zalad ⟨by simp[O,ao],Wv E,RX (b:=tPM) rfl O,RX (b:=aaH) rfl ao⟩)
   ·by_cases aM:x=abZ
    ·exact zalal (zalal (zalad ⟨by simp[O,aM],Wv E,RX (b:=tPM) rfl O,RY (b:=aaH) rfl ao,RX (b:=abZ) rfl aM⟩))
    ·exact zalal (zalal (zalal (zalal ⟨by simp[E,ao,aM],Wv E,RX (b:=tPM) rfl O,RY (b:=aaH) rfl ao,RY (b:=abZ) rfl aM⟩)))
  ·exact zalal (zalal (zalal (zalad ⟨by simp[E,O],Wv E,RY (b:=tPM) rfl O⟩)))
section
variable {c:PC} {F:OQ} {d g o:Nat} {s:LW} {rest:List LW} (hg:g≠c.P) (y6:V4[o]? = some (LQ s))
include c F d g o s rest hg y6
def ahr (b5:rest≠[])(eR:abB c F d g (o+1) rest):abB c F d g o (s::rest):=by
 have A{G}(h:G:=by
 unfold abB at gW;simp only[zalbf];obtain⟨n,av⟩:∃ n,rest.length=n:=⟨_,rfl⟩;rw[av] at ag gW;rw[av];have hm:¬ n=0:=by rw[<-av];intro aJ;exact b5 (zalbr.1 aJ)
 have jA:(((n:Nat):Int)+1==0)=false:=zalaj.2 LM;clear b5 av;clear h N eR hg
 cases T:PX c.l F d rest i with
 | out=>rw[T] at aF;exact absurd aF.out bb.out
 | bad er pl=>
  exact aD5
 | ok cg iW=>
  have uC:=hide (ag.out _ T.symm (by nofun));rw[T] at aF;have dw:Hid (P6 c.l (PX c.l F d rest) s F.fuel cg iW=r):=aF.out.symm;have A{G}(h:G:=by
  go_loopg [7] F.fuel (λk v wr=>(∃ t j,P6 c.l (PX c.l F d rest) s k t j=r/\NV w.heap.size wr t v/\Ps c wr j 0 (-1)/\Ap c.P w.heap.size w wr)
   \/ (∃ er pl,r=.bad er pl/\er≠0/\(∃ j,Ps c wr j er (pl:Int))/\Ap c.P w.heap.size w wr/\ZN v))
  case atStart=>exact zalad ⟨cg,iW,dw.out,dO.out,cD.out,b7.out⟩
  case round=>
   rcases hrel with ⟨t,j,ac,hF,cF,dq⟩|⟨er,pl,ac,he,⟨j,cF⟩,dq,q,rfl⟩
   ·have A{G}(h:G:=by
    clear ac av g2 k4
    by_cases bw:(MJ c.l j).kd=5
    ·rcases Zh s (MJ c.l j).tx with ⟨an,bT⟩|⟨an,bT,a',cV⟩|⟨an,bT,a',cV,il⟩|⟨an,bT,a'⟩|⟨an,bT,a',cV,il⟩
     ·exact avq
     ·exact avq
     ·exact avq
     all_goals
      have oT:((MJ c.l j).kd != 5)=false:=by rw[bw];rfl
      rw[zalah (λh=>by rw[an] at h;exact absurd h.2 MK)] at aG
      have ac:r=.ok t j:=aG.out.symm;subst ac;clear an bw
      generalize MJ c.l j=ws at *
      go_wp2_with fail;refine cm es.out ?_;rintro e w2 ⟨rfl,rfl⟩;go_wp2_with fail
      go_region
      go_wp2_with fail
      go_region
      go_wp2;go_ret;exact⟨⟨_,rfl,q,rfl,YC (NV.later ⟨q,rfl,b3.out⟩ (((Ap.refl c.P w2.heap.size w2).alloc Nh _).drew.drew) a1.out)⟩,(nI.out.alloc _).drew.drew,(i1.out.alloc i1.out.size _).drew.drew⟩
    ·exact aDY):=LG h;exact az7
   ·have es:=hide (Qq he cF);have cD:=hide cF;have b7:=hide dq;subst ac;exact aEa):=LG h;exact aA9):=LG h;exact aBb
def ajc (b5:rest=[])(eR:abB c F d g o rest):abB c F d g o (s::rest):=by
 have A{G}(h:G:=by
 subst b5;simp only[zalbf,zaldv,zalda];unfold abB at gW;simp only[zaldv] at ag gW;clear h N hg
 cases T:PX c.l F d [] i with
 | out=>rw[T] at aF;exact absurd aF.out bb.out
 | bad er pl=>
  exact aD5
 | ok cg iW=>
  have uC:=hide (ag.out _ T.symm (by nofun));rw[T] at aF;have dw:Hid (P6 c.l (PX c.l F d []) s F.fuel cg iW=r):=aF.out.symm;have A{G}(h:G:=by
  go_loopg [7] F.fuel (λk v wr=>(∃ t j,P6 c.l (PX c.l F d []) s k t j=r/\NV w.heap.size wr t v/\Ps c wr j 0 (-1)/\Ap c.P w.heap.size w wr)
   \/ (∃ er pl,r=.bad er pl/\er≠0/\(∃ j,Ps c wr j er (pl:Int))/\Ap c.P w.heap.size w wr/\ZN v))
  case atStart=>exact zalad ⟨cg,iW,dw.out,dO.out,cD.out,b7.out⟩
  case round=>
   rcases hrel with ⟨t,j,ac,hF,cF,dq⟩|⟨er,pl,ac,he,⟨j,cF⟩,dq,q,rfl⟩
   ·have A{G}(h:G:=by
    clear ac g2 k4
    by_cases bw:(MJ c.l j).kd=5
    ·rcases Zh s (MJ c.l j).tx with ⟨an,bT⟩|⟨an,bT,a',cV⟩|⟨an,bT,a',cV,il⟩|⟨an,bT,a'⟩|⟨an,bT,a',cV,il⟩
     ·exact avr
     ·exact avr
     ·exact avr
     all_goals
      have oT:((MJ c.l j).kd != 5)=false:=by rw[bw];rfl
      rw[zalah (λh=>by rw[an] at h;exact absurd h.2 MK)] at aG
      have ac:r=.ok t j:=aG.out.symm;subst ac;clear an bw
      generalize MJ c.l j=ws at *
      go_wp2_with fail;refine cm es.out ?_;rintro e w2 ⟨rfl,rfl⟩;go_wp2_with fail
      go_region
      go_wp2_with fail
      go_region
      go_wp2;go_ret;exact⟨⟨_,rfl,q,rfl,YC (NV.later ⟨q,rfl,b3.out⟩ (((Ap.refl c.P w2.heap.size w2).alloc Nh _).drew.drew) a1.out)⟩,(nI.out.alloc _).drew.drew,(i1.out.alloc i1.out.size _).drew.drew⟩
    ·exact aDY):=LG h;exact az7
   ·have es:=hide (Qq he cF);have cD:=hide cF;have b7:=hide dq;subst ac;exact aEa):=LG h;exact aA9):=LG h;exact aBb
end
def abC {c:PC}{F:OQ}(ai:ZW c F){d g:Nat}(aD:d<=30)(hg:g≠c.P):∀ (ls:List LW) (o:Nat),lvls.drop o=ls->abB c F d g o ls
 | [],o,_=>λw i r W ay h _=>abA ai w d i g o r aD W ay h
 | s::rest,o,he=>by
  have E:lvls[o]? = some s:=by
   have:(lvls.drop o)[0]? = some s:=by rw[he];rfl
   rw[zalgz] at this;exact this
  have O:lvls.drop (o+1)=rest:=by
   have:(lvls.drop o).tail=rest:=by rw[he];rfl
   rw[List.tail_drop] at this;exact this
  have ao:V4[o]? = some (LQ s):=by
   unfold V4;rw[List.getElem?_toArray,zalbx,E];rfl
  by_cases b5:rest=[]
  ·exact ajc hg ao b5 (by rw[b5];exact λw i r W ay h _=>abA ai w d i g o r aD W ay h)
  ·exact ahr hg ao b5 (abC ai aD hg rest (o+1) O)
def ar1 {c:PC}{F:OQ}(ai:ZW c F)(w:LK)(d i:Nat)(r:PR Tr)(g:Nat)(aD:d<=30)(W:r=rpr c.l F 2 d i)(ay:r≠.out)(h:Ps c w i 0 (-1))(N:w.heap[g]? = some (NK V4 9))(hg:g≠c.P) :
  MC 254 #[NW c,LJ (d:Int),.slice (some (LD g 0)) 6 6] w (Oj c w (NV w.heap.size) ZN r):=
 abC ai aD hg lvls 0 rfl w i r W ay h N
