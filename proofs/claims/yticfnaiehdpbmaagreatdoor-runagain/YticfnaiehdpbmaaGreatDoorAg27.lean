import Derived.Test.YticfnaiehdpbmaaGreatDoorAg25
import Derived.Test.YticfnaiehdpbmaaGreatDoorAg26
set_option maxRecDepth 100000
set_option maxHeartbeats 8000000
set_option linter.unusedVariables false
namespace Go.Proofs.YticfnaiehdpbmaaGreatDoor
open Go.RowKit Go.Proofs.Tryz
namespace Hp
theorem cell1 {w:Ny}{b:Nat}{x:NP}{t:TypeId}(h:w.heap[b]? = some (Og #[x] t)):w.cell? (Nv b 0)=some x/\w.frozen? (Nv b 0)=false:=⟨by rw[cell_of h];rfl,by simp[World.frozen?,h]⟩
def X8 (s:Int)(nm:NR)(v:Va)(M:Mo):Mo:=if (M.declare s nm 0 v).1=0 then (M.declare s nm 0 v).2 else (M.write s nm v).2
theorem acL (s:Int)(nm:NR)(v:Va)(σ:St):settle s nm v σ={ σ with M:=X8 s nm v σ.M }:=by
 unfold settle X8 St.dec
 split <;> rfl
theorem acE:RY 0=Pe:=rfl
theorem ac0 {c:Int}(h:c≠0):RY c=.iface 34 (Nr c):=by unfold RY;rw[if_neg h]
theorem anx {M:Mo}(s:Int)(nm:NR)(v:Va):(M.declare s nm 0 v).1≠0->(M.declare s nm 0 v).2=M:=by
 unfold Mo.declare
 split
 ·intro _;rfl
 ·split
  ·intro _;rfl
  ·split
   ·intro _;rfl
   ·intro h;exact absurd rfl h
theorem Mo.Go.X8 {M:Mo}{N:Nat}(h:M.Go N)(s:Int)(nm:NR)(v:Va):(Hp.X8 s nm v M).Go (N+1):=by
 unfold Hp.X8
 split
 ·exact h.declare s nm 0 v
 ·exact h.write s nm v
section
variable {mb:Nat} {R:List NP} {w w':Ny} {M:Mo} {N:Nat}
section
variable (h:OO mb R w M) (ae:M.Go N) (hN:N<1000000000) (aq:Int) (nm:NR) (v:Va)
include h ae hN aq nm v
theorem akE (h0:(M.declare aq nm 0 v).1=0) :
  NK 270 #[Nu mb,Nr aq,ND nm,vA v] w fun e w'=>e=NU (.tuple #[])/\OO mb R w' (X8 aq nm v M)/\OB Th mb w w':=by
 have bI:=h.lt;have z:=kk (∀{G}(h:G:=by
 have z:=kk (∀{G}(h:G:=by
 have av:X8 aq nm v M=(M.declare aq nm 0 v).2:=by unfold X8;rw[if_pos h0]
 rw[av];rw[h0,acE] at d3;clear av h0;go_enter func270,ntmps270;go_wp2_with fail;rw[<-bu.out,<-aN];clear aN;refine Rj 6 fun ab=>?_;have z:=kk (∀{G}(h:G:=by
 have z:=kk (∀{G}(h:G:=by
 refine uz 7 (NI false) ?_;refine QX ?_ _;go_simp;go_wp2_with fail
 go_end0
 exact⟨rfl,kS,cV⟩),G);exact aAK),G);exact RU),G);exact aAL),G);exact aAM
theorem ahG (h0:(M.declare aq nm 0 v).1≠0) :
  NK 270 #[Nu mb,Nr aq,ND nm,vA v] w fun e w'=>e=NU (.tuple #[])/\OO mb R w' (X8 aq nm v M)/\OB Th mb w w':=by
 have bI:=h.lt;have z:=kk (∀{G}(h:G:=by
 have z:=kk (∀{G}(h:G:=by
 have av:X8 aq nm v M=(M.write aq nm v).2:=by unfold X8;rw[if_neg h0]
 rw[av];rw[ac0 h0,anx aq nm v h0] at d3;obtain⟨c0,ge⟩:=xE ((M.declare aq nm 0 v).1);rw[<-ge] at d3;clear ge;clear av h0;go_enter func270,ntmps270;go_wp2_with fail;rw[<-bu.out,<-aN];clear aN;refine Rj 6 fun ab=>?_;have z:=kk (∀{G}(h:G:=by
 have z:=kk (∀{G}(h:G:=by
 refine uz 7 (NI true) ?_;refine QX ?_ _;have fs:=hide (fun X (aj:NJ ao X)=>adn (kS.later aj) ae.sm (Oi hN) aq nm v);have gc:=hide (cells3 lG.out);have gh:=kS.lt;have Eu:=lt_of_heap lG.out;go_simp;go_wp2_with fail;refine Rj 6 fun ab=>?_;have z:=kk (∀{G}(h:G:=by
 refine uh 3 (Nr aq) (ab) ?_;refine uh 4 (ND nm) (ab) ?_;refine uk3 5 gc.out ab ?_;refine O0 6 fun K A=>?_;go_simp;refine cm (Ns fs _ ab) ?_;rintro e bB ⟨rfl,lO,h2⟩;refine ko A ?_;clear A K;have fI:=(cV.trans ((OB.of ab (Oi gh)).trans h2));refine QX ?_ _;go_simp;go_wp2_with fail
 go_end0
 exact⟨rfl,lO,fI⟩),G);exact RU),G);exact aAK),G);exact RU),G);exact aAL),G);exact aAM
theorem anz :
  NK 270 #[Nu mb,Nr aq,ND nm,vA v] w fun e w'=>e=NU (.tuple #[])/\OO mb R w' (X8 aq nm v M)/\OB Th mb w w':=by
 by_cases h0:(M.declare aq nm 0 v).1=0
 ·exact akE h ae hN aq nm v h0
 ·exact ahG h ae hN aq nm v h0
end
def Xj (aq:Int)(am:List Tr)(M:Mo):Mo:=am.foldl (fun M k=>(M.declare aq k.tx (if k.kd=4 then 2 else 1) vU).2) M
theorem abk (am:List Tr)(aq:Int):∀ σ:St,PK am aq σ={ σ with M:=Xj aq am σ.M }:=by
 unfold PK Xj
 induction am with
 | nil=>intro σ;rfl
 | cons t am bR=>intro σ;rw[List.foldl_cons,bR];rfl
theorem ahH (aq:Int)(am:List Tr)(M:Mo)(k:Nat)(E:k<am.length):Xj aq (am.take (k+1)) M=((Xj aq (am.take k) M).declare aq (am[k]).tx (if (am[k]).kd=4 then 2 else 1) vU).2:=by
 unfold Xj;rw[List.take_succ_eq_append_getElem E,List.foldl_append];rfl
theorem Mo.Go.lets (aq:Int):∀ (am:List Tr) {M:Mo} {N:Nat},M.Go N->(Xj aq am M).Go (N+am.length)
 | [],_,_,h=>h
 | t::am,M,N,h=>by
  have:=Mo.Go.lets aq am (h.declare aq t.tx (if t.kd=4 then 2 else 1) vU);rw[List.length_cons,show N+(am.length+1)=N+1+am.length by omega];exact this
theorem akF (f:Tr->Bool)(es:List Ad):(es.filter fun k=>f k.tr).map Ad.tr=(es.map Ad.tr).filter f:=by rw[List.filter_map];rfl
theorem ava (h:OO mb R w M)(ae:M.Go N){a:Ad}(aw:QD (fun _=>True) w a)(E:a.ks.length<=90000)(hN:N+a.ks.length<1000000000)(aq:Int) :
  NK 57 #[Nu mb,Nu a.p,Nr aq] w fun e w'=>e=NU (.tuple #[])/\OO mb R w' (Xj aq (OC a.tr) M)/\OB Th mb w w':=by
 have bI:=h.lt;have ah:=(acv a w aw E);obtain⟨es,gE⟩:=xE (a.ks.filter fun k=>OI k.tr);have av:OC a.tr=es.map Ad.tr:=by unfold OC;rw[gE,akF,a.aif.2.2]
 have e3:es.length<=a.ks.length:=by rw[gE];exact List.length_filter_le _ _
 rw[<-gE] at ah;rw[av];have iw:=h;obtain⟨p,al⟩:=xE a.p;rw[<-al] at ah ⊢;have H4:N+es.length<1000000000:=Nw;have If:es.length<=90000:=Nw;clear h aw gE av al e3 hN E;go_enter func57,ntmps57;go_wp2_with fail;refine cm ah ?_;rintro e w1 ⟨⟨u,rfl,U⟩,b4⟩;obtain⟨cT,dO,rfl⟩:=U.form;have gr:=(iw.later b4);have nO:=gr.lt;go_wp2_with fail
 go_loopw [12] (fun i wr=>∃ k:Nat,k<=es.length/\i=Nr k/\OO mb R wr (Xj aq ((es.map Ad.tr).take k) M)/\OB Th mb w1 wr) (fun i _=>es.length - (intOf i).toNat)
 case atStart=>exact⟨0,Nat.zero_le _,rfl,gr,OB.of P8 (Oi nO)⟩
 case round=>
  obtain⟨k,E,rfl,hh,aG⟩:=hrel;have w4:=hh;have h6:=hh.lt
  by_cases aQ:k<es.length
  ·obtain⟨g,cap,ap,hg,ai,aA⟩:=(U.kp (OB.kp aG)).cell k aQ;simp only[Value.slice.injEq] at ap;obtain⟨rfl,_,rfl⟩:=ap;have hL:(k:Int)<(es.length:Int):=Nw;obtain⟨dL,c0,c1,_⟩:=SC.cells aA.nat.nt;have rj:k<(es.map Ad.tr).length:=by simpa using aQ
   have iy:=hide (ahH aq (es.map Ad.tr) M k rj);have DO:(es.map Ad.tr)[k]=(es[k]).tr:=by simp
   rw[DO] at iy;obtain⟨q,ag⟩:=xE ((es[k]).p);obtain⟨t,a'⟩:=xE ((es[k]).tr);rw[<-ag] at ai dL c0 c1;rw[<-a'] at c0 c1 iy;have tT:(Xj aq ((es.map Ad.tr).take k) M).Go (N+k):=by
    have:=Mo.Go.lets aq ((es.map Ad.tr).take k) ae;rw[List.length_take,List.length_map,Nat.min_eq_left E] at this;exact this
   obtain⟨Kv,Dz⟩:=xE (Xj aq ((es.map Ad.tr).take k) M);rw[<-Dz] at w4 iy tT;have xt:N+k<1000000000:=Nw;have e1:=hide c1;clear DO ag a' Dz rj
   by_cases aU:t.kd=4
   ·rw[if_pos aU] at iy;have hE:t.kd=4:=aU;rw[hE] at c0;clear aU hE;go_wp2_with fail;have d3:=hide (fun X (aj:NJ wr X)=>XA (w4.later aj) tT.sm (Oi xt) aq t.tx 2 vU);obtain⟨tx,cD⟩:=xE t.tx;rw[<-cD] at d3 e1;have lF:=hide cD;clear cD;refine Rj 10 fun ab=>?_;have z:=kk (∀{G}(h:G:=by
    refine uh 3 (Nr aq) (ab) ?_;have z:=kk (∀{G}(h:G:=by
    refine uh 8 (Nr 2) (ab) ?_;exact aAN),G);exact apR),G);exact RU
   ·rw[if_neg aU] at iy;have pb:=hide aU;obtain⟨kd,bn⟩:=xE t.kd;rw[<-bn] at c0 aU;clear bn;go_wp2_with fail;have d3:=hide (fun X (aj:NJ wr X)=>XA (w4.later aj) tT.sm (Oi xt) aq t.tx 1 vU);obtain⟨tx,cD⟩:=xE t.tx;rw[<-cD] at d3 e1;have lF:=hide cD;clear cD;refine Rj 10 fun ab=>?_;have z:=kk (∀{G}(h:G:=by
    refine uh 3 (Nr aq) (ab) ?_;have z:=kk (∀{G}(h:G:=by
    refine uh 8 (Nr 1) (ab) ?_;exact aAN),G);exact apR),G);exact RU
  ·have cM:k=es.length:=Nw;subst cM;go_wp2_with fail
   go_end0
   have h:=w4;rw[show es.length=(es.map Ad.tr).length by simp,List.take_length] at h;exact⟨rfl,h,(OB.of b4 (Oi bI)).trans aG⟩
end
structure Sz (N:Nat)(σ:St):Prop where
 go:σ.M.Go N
 ow:σ.PS.length<=N
 fn:σ.Qn.length<=N
 lg:σ.log.length<=N
 se:σ.seen.length<=N
 oe:σ.PS.length=σ.M.NQ.length
theorem Sz.up {N N':Nat}{σ:St}(h:Sz N σ)(hN:N<=N'):Sz N' σ:=⟨h.go.up hN,Nat.le_trans h.ow hN,Nat.le_trans h.fn hN,Nat.le_trans h.lg hN,Nat.le_trans h.se hN,h.oe⟩
theorem Sz.heap {N N':Nat}{σ:St}{M:Mo}(h:Sz N σ)(hN:N<=N')(aK:M.Go N')(U:M.NQ.length=σ.M.NQ.length):Sz N' { σ with M:=M }:=⟨aK,Nat.le_trans h.ow hN,Nat.le_trans h.fn hN,Nat.le_trans h.lg hN,Nat.le_trans h.se hN,h.oe.trans U.symm⟩
section
variable (M:Mo)
include M
theorem asA (i:Nat)(x:Ob):(M.Q5 i x).NQ.length=M.NQ.length:=rfl
theorem asB (i:Nat)(x:Ro):(M.Qw i x).NQ.length=M.NQ.length:=by simp[Mo.Qw]
theorem Zb (o:Int)(nm:NR)(v:Va)(fx:Bool):(M.put o nm v fx).2.NQ.length=M.NQ.length:=by
 unfold Mo.put
 repeat' split
 all_goals first|rfl|simp[Mo.Q5]
theorem Ue (s:Int)(nm:NR)(k:Int)(v:Va):(M.declare s nm k v).2.NQ.length=M.NQ.length:=by
 unfold Mo.declare
 repeat' split
 all_goals first|rfl|simp[Mo.Qw]
theorem Xh (s:Int)(nm:NR)(v:Va):(M.write s nm v).2.NQ.length=M.NQ.length:=by
 unfold Mo.write
 repeat' split
 all_goals first|rfl|exact Zb _ _ _ _ _|simp[Mo.Qw]
end
theorem ahI (s:Int)(nm:NR)(v:Va)(M:Mo):(X8 s nm v M).NQ.length=M.NQ.length:=by
 unfold X8
 split
 ·exact Ue _ _ _ _ _
 ·exact Xh _ _ _ _
theorem abl (aq:Int):∀ (am:List Tr) (M:Mo),(Xj aq am M).NQ.length=M.NQ.length
 | [],_=>rfl
 | _::am,_=>(abl aq am _).trans (Ue _ _ _ _ _)
section
variable {N:Nat} {σ:St} (h:Sz N σ)
include N σ h
theorem Sz.settle (s:Int)(nm:NR)(v:Va):Sz (N+1) (settle s nm v σ):=by
 rw[acL];exact h.heap (Nat.le_succ _) (h.go.X8 s nm v) (ahI _ _ _ _)
theorem Sz.mkFun (d:Nd)(p:Pl):Sz (N+1) (mkFun d p σ).2:=
 ⟨h.go.Oy _,Nat.le_succ_of_le h.ow,by have:=h.fn;simp[Hp.mkFun];omega,Nat.le_succ_of_le h.lg,Nat.le_succ_of_le h.se,h.oe⟩
theorem Sz.opn (u o x:Int):Sz (N+1) (σ.opn u o x):=
 ⟨h.go.scope _ _,by have:=h.ow;simp[St.opn];omega,Nat.le_succ_of_le h.fn,Nat.le_succ_of_le h.lg,Nat.le_succ_of_le h.se,by have:=h.oe;simp[St.opn,Mo.scope,this]⟩
theorem Sz.lets (am:List Tr)(s:Int):Sz (N+am.length) (PK am s σ):=by
 rw[abk];exact h.heap Nw (h.go.lets s am) (abl _ _ _)
end
def RV (aa:List Nat)(w:Ny):List Ad->List Nd->Prop
 | [],[]=>True
 | e::es,d::a1=>Oa aa w e d/\RV aa w es a1
 | _,_=>False
theorem RV.of {aa:List Nat}{w:Ny}:∀ (es:List Ad) (a1:List Nd),es.length=a1.length->(∀ (i:Nat) k,es[i]? = some k->∃ fU,a1[i]? = some fU/\Oa aa w k fU)->RV aa w es a1
 | [],[],_,_=>trivial
 | [],_::_,h,_=>by simp at h
 | _::_,[],h,_=>by simp at h
 | e::es,d::a1,h,E=>by
  refine⟨?_,RV.of es a1 (by simpa using h) fun i k ay=>by simpa using E (i+1) k (by simpa using ay)⟩;obtain⟨fU,h1,O⟩:=E 0 e rfl;simp at h1;subst h1;exact O
theorem Oa.ndl {aa:List Nat}{w:Ny}{a:Ad}{d:Nd}(h:Oa aa w a d):RV aa w a.ks (O3 d):=RV.of _ _ (by rw[h.ks,QI]) fun _ _ ay=>h.kid ay
theorem RV.filter {aa:List Nat}{w:Ny}(f:Tr->Bool):∀ (es:List Ad) (a1:List Nd),RV aa w es a1->RV aa w (es.filter fun k=>f k.tr) (a1.filter fun k=>f k.2)
 | [],[],_=>trivial
 | [],_::_,h=>h.elim
 | _::_,[],h=>h.elim
 | e::es,d::a1,h=>by
  rw[List.filter_cons,List.filter_cons,h.1.tr]
  split
  ·exact⟨h.1,RV.filter f es a1 h.2⟩
  ·exact RV.filter f es a1 h.2
theorem RV.get {aa:List Nat}{w:Ny}:∀ (es:List Ad) (a1:List Nd),RV aa w es a1->∀ (i:Nat) (h1:i<es.length) (O:i<a1.length),Oa aa w es[i] a1[i]
 | [],_,_,i,h1,_=>by simp at h1
 | _::_,[],_,i,_,O=>by simp at O
 | _::_,_::_,h,0,_,_=>h.1
 | _::es,_::a1,h,i+1,h1,O=>RV.get es a1 h.2 i (by simpa using h1) (by simpa using O)
theorem RV.len {aa:List Nat}{w:Ny}:∀ (es:List Ad) (a1:List Nd),RV aa w es a1->es.length=a1.length
 | [],[],_=>rfl
 | [],_::_,h=>h.elim
 | _::_,[],h=>h.elim
 | _::es,_::a1,h=>by rw[List.length_cons,List.length_cons,RV.len es a1 h.2]
theorem RV.kp {aa:List Nat}{w w':Ny}(E:Kp w w'):∀ (es:List Ad) (a1:List Nd),RV aa w es a1->RV aa w' es a1
 | [],[],_=>trivial
 | [],_::_,h=>h.elim
 | _::_,[],h=>h.elim
 | _::es,_::a1,h=>⟨h.1.kp E,RV.kp E es a1 h.2⟩
def Wy (p:Pl)(a1:List Nd)(σ:St):St:=a1.foldl (fun σ k=>settle p.scope k.2.tx (mkFun k p σ).1 (mkFun k p σ).2) σ
theorem ahJ (p:Pl)(a1:List Nd)(σ:St)(k:Nat)(E:k<a1.length):Wy p (a1.take (k+1)) σ=settle p.scope (a1[k]).2.tx (mkFun a1[k] p (Wy p (a1.take k) σ)).1 (mkFun a1[k] p (Wy p (a1.take k) σ)).2:=by
 unfold Wy;rw[List.take_succ_eq_append_getElem E,List.foldl_append];rfl
theorem Sz.Wy (p:Pl):∀ (a1:List Nd) {σ:St} {N:Nat},Sz N σ->Sz (N+2 * a1.length) (Wy p a1 σ)
 | [],_,_,h=>h
 | d::a1,σ,N,h=>by
  have:=Sz.Wy p a1 ((h.mkFun d p).settle p.scope d.2.tx (Hp.mkFun d p σ).1);rw[List.length_cons,show N+2 * (a1.length+1)=N+1+1+2 * a1.length by omega];exact this
section
variable {w0:Ny} {mb af:Nat} {aa:List Nat} {es aS aB az aL:NP} {w w':Ny} {σ:St} {N:Nat}
section
variable (ac:Mx w0 mb af aa aS aB az aL w σ)
include ac
theorem YB {a:Ad}{d:Nd}(hd:Oa aa w a d)(E:d.2.kids.length=2)(aJ:Sz N σ)(hN:N<1000000000)(p:Pl)(aC:Option Addr) :
  NK 60 #[Nu mb,Nu a.p,OQ p aC] w fun e w'=>e=NU (vA (mkFun d p σ).1)/\∃ Vd,Mx w0 mb af aa aS aB az Vd w' (mkFun d p σ).2/\P9 mb az aL az Vd w w':=by
 obtain⟨aq,aF,st⟩:=p;have hl:σ.Qn.length<=1000000000:=Oi (Nat.lt_of_le_of_lt aJ.fn hN)
 cases st with
 | true=>
  have h:=ahC ac hd E hl aJ.go.sm (Oi hN) aq aF aC _ rfl;unfold mkFun;rw[Bool.true_or];exact h
 | false=>
  have h:=akC ac hd E hl aJ.go.sm (Oi hN) aq aF aC _ rfl;unfold mkFun;rw[Bool.false_or];exact h
theorem afD (aJ:Sz N σ)(hN:N<1000000000)(aq:Int)(nm:NR)(v:Va) :
  NK 270 #[Nu mb,Nr aq,ND nm,vA v] w fun e w'=>e=NU (.tuple #[])/\Mx w0 mb af aa aS aB az aL w' (settle aq nm v σ)/\OB Th mb w w':=by
 refine(anz ac.hh aJ.go hN aq nm v).mono ?_;rintro e w' ⟨rfl,h1,O⟩;rw[acL];exact⟨rfl,ac.heap h1 O,O⟩
theorem adP (aJ:Sz N σ){a:Ad}{d:Nd}(hd:Oa aa w a d)(E:d.2.kids.length<=90000)(hN:N+d.2.kids.length<1000000000)(aq:Int) :
  NK 57 #[Nu mb,Nu a.p,Nr aq] w fun e w'=>e=NU (.tuple #[])/\Mx w0 mb af aa aS aB az aL w' (PK (OC d.2) aq σ)/\OB Th mb w w':=by
 have h:=ava ac.hh aJ.go hd.at_ (by rw[hd.ks];exact E) (by rw[hd.ks];exact hN) aq
 rw[hd.tr] at h;refine h.mono ?_;rintro e w' ⟨rfl,h1,O⟩;rw[abk];exact⟨rfl,ac.heap h1 O,O⟩
end
theorem U6 {b j:Nat}{c:Array NP}{t:TypeId}(h:w.heap[b]? = some (Og c t))(D:mb<=b)(x:NP):OB [t] mb w (w.setCell (Nv b j) x):=
 OB.setCell (OB.of P8 (Nat.le_trans D (Oi (lt_of_heap h)))) h Oq D _
theorem YF {b j:Nat}(D:w.heap.size<=b)(x:NP)(i:Nat)(ay:i<w.heap.size):(w'.setCell (Nv b j) x).heap[i]? = w'.heap[i]?:=heap_setCell_other _ _ _ _ (show i≠b by omega)
theorem Oa.blk {a:Ad}{d:Nd}(h:Oa aa w a d):∃ c,w.heap[a.p]? = some (Og c 40):=by
 have h1:=h.at_;exact auN
section
variable {gP gV:NP} (h:P9 mb az aL gP gV w w') (ac:Mx w0 mb af aa aS aB az aL w σ)
include gP gV h ac
theorem P9.Wx {q j:Nat}{v:NP}(ai:w.cell? (Nv q j)=some v)(ag:∃ c,w.heap[q]? = some (Og c 40)):w'.cell? (Nv q j)=some v:=by
 obtain⟨c,ag⟩:=ag;have O:w'.heap[q]? = w.heap[q]?:=(h.kp ac q c 40 ag (Or.inl rfl)).trans ag.symm;exact(World.cell?_of_block (w:=w) (a:=(Nv q j)) O).trans ai
theorem P9.keep {b:Nat}{c:Array NP}{t:TypeId}(D:w.heap[b]? = some (Og c t))(a':t ∉ Tm):w'.heap[b]? = some (Og c t):=(h.ZO (L:=none) ac).rest b c t D a' Oq
end
theorem aiY (ac:Mx w0 mb af aa aS aB az aL w σ)(aJ:Sz N σ){a:Ad}{d:Nd}(hd:Oa aa w a d)(E:d.2.kids.length<=90000)(hN:N+2 * d.2.kids.length<1000000000)(O:∀ k ∈ Sl d,k.2.kids.length=2)(p:Pl)(aC:Option Addr) :
  NK 199 #[Nu mb,Nu a.p,OQ p aC] w fun e w'=>e=NU (.tuple #[])/\∃ Vd,Mx w0 mb af aa aS aB az Vd w' (Tz d p σ)/\P9 mb az aL az Vd w w':=by
 have bI:=ac.lt;have z:=kk (∀{G}(h:G:=by
 obtain⟨es,gE⟩:=xE (a.ks.filter fun k=>RN k.tr);obtain⟨a1,hds⟩:=xE (Sl d);have e3:es.length<=d.2.kids.length:=by rw[gE,<-hd.ks];exact List.length_filter_le _ _
 have fm:RV aa w es a1:=by rw[gE,hds];exact RV.filter RN _ _ hd.ndl
 have hlen:=RV.len _ _ fm;have ah:=(VY a w2 (QD.kp (Kp.of aE) _ hd.at_) (by rw[hd.ks];exact E))
 rw[<-gE] at ah;have av:∀ p,Tz d p σ=Wy p a1 σ:=fun p=>by rw[hds];rfl
 rw[av];rw[<-hds] at O;obtain⟨q,ag⟩:=xE a.p;rw[<-ag] at ah ⊢;have ej:=(ac.later aE);have F':=(RV.kp (Kp.of aE) _ _ fm);have dF:=hide bK;have gT:=hide O;have H4:N+2 * es.length<1000000000:=Nw;have If:es.length<=90000:=Nw;have p2:=hide hlen;clear E hN O gE hds e3 av ag bK hlen;go_enter func199,ntmps199;go_wp2_with fail;rw[<-bu.out,<-bU];clear bU;refine cm ah ?_;rintro e w1 ⟨⟨u,rfl,U⟩,b4⟩;obtain⟨cT,dO,rfl⟩:=U.form;have f0:=(aE.trans (b4.mono aE.size));have hX:=(ej.later b4)
 have nu:=(RV.kp (Kp.of b4) _ _ F');have gz:=hide (stays b4 dF.out);have nO:=hX.lt;go_wp2_with fail
 go_loopw [11] (fun i wr=>∃ (k:Nat) (Vd:NP),k<=es.length/\i=Nr k/\Mx w0 mb af aa aS aB az Vd wr (Wy ⟨aq,aF,st⟩ (a1.take k) σ)/\P9 mb az aL az Vd w1 wr) (fun i _=>es.length - (intOf i).toNat)
 case atStart=>exact⟨0,aL,Nat.zero_le _,rfl,hX,P9.of P8 (Oi nO)⟩
 case round=>
  obtain⟨k,qd,E,rfl,hh,aG⟩:=hrel;have eP:=hh;have fD:=hide (aG.keep hX gz.out NH);have h6:=hh.lt
  by_cases aQ:k<es.length
  ·obtain⟨g,cap,ap,hg,ai,aA⟩:=(U.kp (aG.kp hX)).cell k aQ;simp only[Value.slice.injEq] at ap;obtain⟨rfl,_,rfl⟩:=ap;have hL:(k:Int)<(es.length:Int):=Nw;have bn:k<a1.length:=by rw[<-p2.out];exact aQ
   have jd:=(RV.get _ _ nu k aQ bn).kp (aG.kp hX);obtain⟨dL,_,c1,_⟩:=jd.cells;have iy:=hide (ahJ ⟨aq,aF,st⟩ a1 σ k bn);have jP:Sz (N+2 * k) (Wy ⟨aq,aF,st⟩ (a1.take k) σ):=by
    have:=(Sz.Wy ⟨aq,aF,st⟩ (a1.take k) aJ);rw[List.length_take,Nat.min_eq_left (Oi bn)] at this;exact this
   obtain⟨dy,gO⟩:=xE (Wy ⟨aq,aF,st⟩ (a1.take k) σ);rw[<-gO] at eP iy jP;have Dl:=Ns gT a1[k] (List.getElem_mem _);have hR:=hide (fun X (aj:NJ wr X)=>YB (eP.later aj) (jd.kp (Kp.of aj)) Dl jP Nw ⟨aq,aF,st⟩ aC);obtain⟨aX,eK⟩:=xE ((es[k]).p);obtain⟨fU,oF⟩:=xE (a1[k]);have AQ:=jd.blk;rw[<-eK] at ai dL c1 hR AQ;rw[<-oF] at c1 iy hR;have wy:=jP.mkFun fU ⟨aq,aF,st⟩;obtain⟨ew,mv⟩:=xE ((mkFun fU ⟨aq,aF,st⟩ dy).1);obtain⟨tx,cD⟩:=xE fU.2.tx;rw[<-mv] at hR iy;rw[<-cD] at c1 iy
   have xt:N+2 * k+1<1000000000:=Nw;have ga:=hide (cells4 fD.out);have eY:=lt_of_heap fD.out;have e1:=hide c1;have y2:Hid (∃ c,wr.heap[aX]? = some (Og c 40)):=AQ;clear AQ gO Dl eK oF mv cD c1;go_wp2_with fail;have ab:(fun X=>X.heap[bc]? = some (plO ⟨aq,aF,st⟩ aC)/\X.cell? (Nv aX 1)=some (ND tx)) wr.drew:=⟨fD.out,e1.out⟩;refine PO 11 (fun X=>X.heap[bc]? = some (plO ⟨aq,aF,st⟩ aC)/\X.cell? (Nv aX 1)=some (ND tx)) OJ ?_;refine up 0 mb 0 ab ?_;refine up 1 bc 0 ab ?_
   refine uc 2 (Nr aq) rfl (Or.inl ⟨by kernel_rfl,fun X aj=>by have h0:=(cells4 aj.1).1;go_simp⟩) (ab) ?_
   refine up 3 aX 0 ab ?_;refine up 4 aX 0 ab ?_;refine up 5 aX 1 ab ?_;refine uc 6 (ND tx) rfl (Or.inl ⟨by kernel_rfl,fun X aj=>by have h0:=aj.2;go_simp⟩) (ab) ?_
   refine up 7 mb 0 ab ?_;refine up 8 aX 0 ab ?_;refine uc 9 (.agg #[Nr aq,Nr aF,NI st,.pointer aC]) rfl (Or.inl ⟨by kernel_rfl,fun X aj=>by have h0:=(cells4 aj.1).1;have h1:=(cells4 aj.1).2.1;have O:=(cells4 aj.1).2.2.1;have ax:=(cells4 aj.1).2.2.2.1;go_simp⟩) (ab) ?_
   refine O0 10 fun K A=>?_;go_simp;refine cm (Ns hR _ P8.drew) ?_;rintro e ao ⟨rfl,fO,e8,cQ⟩;have hfr3:P9 mb az qd az fO wr ao:=(P9.of P8.drew (Oi h6)).trans cQ;have qz:ao.heap[bc]? = some (plO ⟨aq,aF,st⟩ aC)/\ao.cell? (Nv aX 1)=some (ND tx):=⟨hfr3.keep eP fD.out NH,hfr3.Wx eP e1.out y2.out⟩;refine A.out _ _ (fun _=>qz) ?_;clear A K;have cV:=(aG.trans hfr3);refine O0 11 fun K A=>?_;go_simp;refine cm (afD e8 wy xt aq tx ew) ?_;rintro e bB ⟨rfl,gN,h2⟩;refine ko A ?_;clear A K
   have fI:=(cV.trans (P9.ofT h2));clear qz ab;refine QX ?_ _;go_simp;go_wp2_with fail
   go_roundw
   case rel=>
    refine⟨k+1,_,by omega,by go_num,?_,fI⟩;rw[iy.out];exact gN
   case measure=>simp[intOf];omega
  ·have cM:k=es.length:=Nw;subst cM;go_wp2_with fail
   go_end0
   rw[p2.out,List.take_length] at eP;exact⟨rfl,_,eP,(P9.of f0 (Oi bI)).trans aG⟩),G);exact zsr
end
section
variable {w:Ny} {b:Nat} {x y bE u:NP} {t:TypeId} (h:w.heap[b]? = some (Og #[x,y,bE,u] t))
include w b x y bE u t h
theorem Zg (x' jv jh fR:NP) :
  ((((w.setCell (Nv b 0) x').setCell (Nv b 1) jv).setCell (Nv b 2) jh).setCell (Nv b 3) fR).heap[b]? = some (Og #[x',jv,jh,fR] t):=by
 have z:=kk (∀{G}(h:G:=by
 have aU:=heap_setCell_same _ b 3 _ t fR ax;exact aU),G);exact aqD
theorem XE (x':NP) :
  (w.setCell (Nv b 0) x').heap[b]? = some (Og #[x',y,bE,u] t):=heap_setCell_same w b 0 _ t x' h
end
section
variable {w0:Ny} {mb af:Nat} {aa:List Nat} {es aS aB az aL:NP} {w w':Ny} {σ:St} {N:Nat}
theorem Sr {b:Nat}{x y bE u:NP}{t:TypeId}(h:w.heap[b]? = some (Og #[x,y,bE,u] t))(D:mb<=b)(x' jv jh fR:NP):OB [t] mb w ((((w.setCell (Nv b 0) x').setCell (Nv b 1) jv).setCell (Nv b 2) jh).setCell (Nv b 3) fR):=by
 have z:=kk (∀{G}(h:G:=by
 exact OB.setCell (OB.setCell (OB.setCell (OB.setCell (OB.of P8 (Nat.le_trans D (Oi (lt_of_heap h)))) h Oq D _) h1 Oq D _) O Oq D _) ax Oq D _),G);exact aqD
theorem TB {b:Nat}(D:w.heap.size<=b)(x' jv jh fR:NP)(j:Nat)(aT:j<w.heap.size):((((w'.setCell (Nv b 0) x').setCell (Nv b 1) jv).setCell (Nv b 2) jh).setCell (Nv b 3) fR).heap[j]? = w'.heap[j]?:=by
 have ci:j≠b:=Nw;rw[heap_setCell_other _ _ _ _ ci,heap_setCell_other _ _ _ _ ci,heap_setCell_other _ _ _ _ ci,heap_setCell_other _ _ _ _ ci]
theorem Qg (t:Tr):t.kids.length<t.count:=by
 cases t with
 | mk kd tx n ks=>
  rw[count_mk];have h:∀ am:List Tr,am.length<=Tr.counts am:=by
   intro am
   induction am with
   | nil=>simp
   | cons t am bR=>
    rw[NZ,List.length_cons];have:1<=t.count:=by cases t with|mk kd tx n ks=>rw[count_mk];omega
    omega
  have:=h ks
  show ks.length<_
  omega
theorem X4 (ac:Mx w0 mb af aa aS aB az aL w σ)(aJ:Sz N σ)(hN:N<1000000000)(u o x:Int)(aO:(σ.M.ro u).isSome=true) :
  NK 50 #[Nu mb,Nr u,Nr o,Nr x] w fun e w'=>e=NU (Nr σ.top)/\∃ TW,Mx w0 mb af aa aS aB TW aL w' (σ.opn u o x)/\P9 mb az aL TW aL w w':=
 open_any ac u o x (Oi (Nat.lt_of_le_of_lt aJ.ow hN)) fun _ _ aj=>apH aj aJ.go.sm (Oi hN) u o aO
theorem aqA (aZ:Bs w0 mb af aa es)(ac:Mx w0 mb af aa aS aB az aL w σ)(aJ:Sz N σ){a:Ad}{d:Nd}(hd:Oa aa w a d)(ai:d.2.count<=1500)(hN:N+10000<1000000000)(O:∀ k ∈ Sl d,k.2.kids.length=2)(p:Pl)(aC:Option Addr)(iS:(σ.M.ro p.scope).isSome=true) :
  NK 110 #[Nu mb,Nu a.p,OQ p aC] w fun e w'=>e=NU (OQ (O8 d p σ).1 aC)/\∃ TW Vd,Mx w0 mb af aa aS aB TW Vd w' (O8 d p σ).2/\P9 mb az aL TW Vd w w':=by
 have bI:=ac.lt;obtain⟨aq,aF,st⟩:=p;obtain⟨w2,de⟩:=xE ((w.alloc (.cells #[Nr aq,Nr aF,NI st,.pointer aC] 73)).alloc (.cells #[Nr 0,Nr 0,NI false,Qb] 73));have z:=kk (∀{G}(h:G:=by
 have bK:w2.heap[bc]? = some (Og #[Nr aq,Nr aF,NI st,.pointer aC] 73):=by rw[de,bU];exact alloc_old (NG _ _)
 have hr2:w2.heap[aR]? = some (Og #[Nr 0,Nr 0,NI false,Qb] 73):=by
  rw[de,b1,show w.heap.size+1=(w.alloc (.cells #[Nr aq,Nr aF,NI st,.pointer aC] 73)).heap.size by simp];exact NG _ _
 have z:=kk (∀{G}(h:G:=by
 have cJ:=Qg d.2;have fd:SC w2 d.2 a.p:=by rw[<-hd.tr];exact(QD.kp (Kp.of aE) _ hd.at_).nat.nt
 have ah:=(Y1 d.2 a.p false w2 fd Nw);have ej:=(ac.later aE);have lB:=(hd.kp (Kp.of aE));have dF:=hide bK;have bj:=hide hr2;have bu:=hide de;have cI:=hide cH;have r6:=hide ds;have td:=hide d5;have dN:=aJ;have yv:=aZ;have gT:=hide O;obtain⟨q,ag⟩:=xE a.p;rw[<-ag] at ah ⊢;have bo:=hide ag;clear bK hr2 de ds cH d5 O ag
 by_cases aA:(namesT d.2 false).length=0
 ·have av:O8 d ⟨aq,aF,st⟩ σ=(⟨aq,aF,st⟩,σ):=by unfold O8;rw[if_pos aA]
  rw[av];clear av;have z:=kk (∀{G}(h:G:=by
  rw[aA];have hX:=(ej.later b4);have bJ:=hide (stays b4 bj.out);have uD:=(P9.of (o:=az) (f:=aL) (aE.trans (b4.mono aE.size)) (Oi bI));obtain⟨aW,p1,cr,cL,gQ,pl⟩:=cells4 (stays b4 dF.out);obtain⟨cy,bQ,b5,d',en,rl⟩:=cells4 bJ.out;have dn:=en 0;have dp:=en 1;have dq:=en 2;have iL:=en 3;have ci:bc≠aR:=Ns td;clear en gQ aA;go_wp2_with fail;obtain⟨b3,bz⟩:=xE ((((w1.setCell (Nv aR 0) (Nr aq)).setCell (Nv aR 1) (Nr aF)).setCell (Nv aR 2) (NI st)).setCell (Nv aR 3) (.pointer aC));rw[<-bz]
  have d7:=Zg bJ.out (Nr aq) (Nr aF) (NI st) (.pointer aC);have gF:mb<=aR:=by have:=Ns cI;omega
  have bb:=Sr bJ.out gF (Nr aq) (Nr aF) (NI st) (.pointer aC);have bx:=uD.new bb (TB cI.out _ _ _ _);have bv:=hX.Xd bb NH;rw[<-bz] at d7 bx bv;obtain⟨bi,aY,aX,cu,_,_⟩:=cells4 d7;exact bodyPost_ret (v:=OQ ⟨aq,aF,st⟩ aC) (by simp[results,results110,go_sem,bi,aY,aX,cu]) rfl ⟨rfl,_,_,bv,bx⟩),G);exact aAO
 ·obtain⟨eZ,kX⟩:=xE (σ.top:Int);have av:O8 d ⟨aq,aF,st⟩ σ=(⟨eZ,aF,st⟩,Tz d ⟨eZ,aF,st⟩ (PK (OC d.2) eZ (σ.opn aq (-1) (own d)))):=by unfold O8;rw[if_neg aA,kX]
  rw[av];clear av;obtain⟨nl,fm⟩:=xE ((namesT d.2 false).length);have nu:=hide fm;have kl:¬ (nl:Int)=0:=Nw;clear fm aA;obtain⟨ow,lh⟩:=xE (own d:Int);rw[<-lh];have z:=kk (∀{G}(h:G:=by
  rw[<-nu.out];have hX:=(ej.later b4);have bJ:=hide (stays b4 bj.out);have gz:=hide (stays b4 dF.out);have ga:=hide (cells4 (stays b4 dF.out));have yF:=(lB.kp (Kp.of b4));have uD:=(P9.of (o:=az) (f:=aL) (aE.trans (b4.mono aE.size)) (Oi bI));have k8:=hide (fun X (aj:NJ w1 X)=>XD yv (hX.later aj) (yF.kp (Kp.of aj)));rw[<-bo.out,<-lh] at k8;have cg:=hide (fun X (aj:NJ w1 X)=>X4 (hX.later aj) dN Nw aq (-1) ow iS);rw[<-kX] at cg;have nO:=hX.lt;have oQ:=lt_of_heap gz.out
  have m8:q<w1.heap.size:=by rw[bo.out];exact yF.cells.1
  have Ku:=hide lh;have xc:=hide kX;clear lh kX;go_wp2_with fail;have z:=kk (∀{G}(h:G:=by
  have qp:=(P9.of ab (Oi nO)).trans cQ;have fi:=hide (qp.keep hX gz.out NH);have c8:=hide (qp.keep hX bJ.out NH);have lC:=(yF.kp (qp.kp hX));have cV:=(uD.trans qp);obtain⟨aW,p1,cr,cL,gQ,pl⟩:=cells4 fi.out;have z:=kk (∀{G}(h:G:=by
  have f3:=(e8.Xd lk NH);have lj:=XE fi.out (Nr eZ);have gA:Hid (bB.heap[aR]? = some (Og #[Nr 0,Nr 0,NI false,Qb] 73)):=by
   exact apK
  have z:=kk (∀{G}(h:G:=by
  have ub:=dN.opn aq (-1) ow;have GY:=ub;have dV:=(adP f3 ub pb Nw Nw eZ);rw[<-bo.out] at dV;obtain⟨fZ,ku,s2,o7,_,J'⟩:=cells4 lj;have gx:=f3.lt;clear eL lj aW p1 cr cL o6;go_wp2_with fail;refine cm dV ?_;rintro e b' ⟨rfl,lS,g9⟩;have CH:=lS;have i6:=hide (g9.rest bc _ 73 kH.out NH);have fM:=hide (g9.rest aR _ 73 gA.out NH);have ni:=(pb.kp (OB.kp g9));have gq:=(fI.trans (P9.ofT g9));have sN:=GY.lets (OC d.2) eZ;have il:=Ru d.2;have hS:=(aiY lS sN ni Nw Nw gT.out ⟨eZ,aF,st⟩ aC)
  rw[<-bo.out] at hS;obtain⟨t0,nh,t2,t3,_,M'⟩:=cells4 i6.out;clear il fZ ku s2 o7;go_wp2_with fail;refine cm hS ?_;rintro e b9 ⟨rfl,K0,oY,jc⟩;have hA:=hide (jc.keep CH fM.out NH);have j9:=(gq.trans jc);obtain⟨hz,g4,gR,j7,_,Ng⟩:=cells4 (jc.keep CH i6.out NH);obtain⟨cy,bQ,b5,d',en,rl⟩:=cells4 hA.out;have dn:=en 0;have dp:=en 1;have dq:=en 2;have iL:=en 3;have ci:bc≠aR:=Ns td;clear t0 nh t2 t3 en;go_wp2_with fail
  obtain⟨b3,bz⟩:=xE ((((b9.setCell (Nv aR 0) (Nr eZ)).setCell (Nv aR 1) (Nr aF)).setCell (Nv aR 2) (NI st)).setCell (Nv aR 3) (.pointer aC));rw[<-bz];have d7:=Zg hA.out (Nr eZ) (Nr aF) (NI st) (.pointer aC);have gF:mb<=aR:=by have:=Ns cI;omega
  have bb:=Sr hA.out gF (Nr eZ) (Nr aF) (NI st) (.pointer aC);have bx:=j9.new bb (TB cI.out _ _ _ _);have bv:=oY.Xd bb NH;rw[<-bz] at d7 bx bv;obtain⟨bi,aY,aX,cu,_,_⟩:=cells4 d7;exact bodyPost_ret (v:=OQ ⟨eZ,aF,st⟩ aC) (by simp[results,results110,go_sem,bi,aY,aX,cu]) rfl ⟨rfl,_,_,bv,bx⟩),G);exact ayu),G);exact atQ),G);exact ayv),G);exact aAO),G);exact zsg),G);exact au6
end
section
variable {w0:Ny} {mb af:Nat} {aa:List Nat} {es aS aB az aL:NP} {w w':Ny} {σ:St} {N:Nat}
theorem Sz.dec {N:Nat}{σ:St}(h:Sz N σ)(s:Int)(nm:NR)(k:Int)(v:Va):Sz (N+1) (σ.dec s nm k v):=h.heap (Nat.le_succ _) (h.go.declare s nm k v) (Ue _ _ _ _ _)
theorem Sz.Qo {N:Nat}{σ:St}(h:Sz N σ)(o:Int)(nm:NR)(v:Va)(fx:Bool):Sz (N+1) (σ.Qo o nm v fx):=h.heap (Nat.le_succ _) (h.go.put o nm v fx) (Zb _ _ _ _ _)
section
variable (ac:Mx w0 mb af aa aS aB az aL w σ) (aJ:Sz N σ) (hN:N<1000000000)
include ac aJ hN
theorem VJ (s:Int)(nm:NR)(k:Int)(v:Va) :
  NK 128 #[Nu mb,Nr s,ND nm,Nr k,vA v] w fun e w'=>e=NU (RY (σ.M.declare s nm k v).1)/\Mx w0 mb af aa aS aB az aL w' (σ.dec s nm k v)/\OB Th mb w w':=by
 refine(XA ac.hh aJ.go.sm (Oi hN) s nm k v).mono ?_;rintro e w' ⟨rfl,h1,O⟩;exact⟨rfl,ac.heap h1 O,O⟩
theorem XP (o:Int)(nm:NR)(v:Va)(fx:Bool) :
  NK 56 #[Nu mb,Nr o,ND nm,vA v,NI fx] w fun e w'=>e=NU (RY (σ.M.put o nm v fx).1)/\Mx w0 mb af aa aS aB az aL w' (σ.Qo o nm v fx)/\OB Th mb w w':=by
 refine(ayr ac.hh aJ.go.sm (Oi hN) o nm v fx).mono ?_;rintro e w' ⟨rfl,h1,O⟩;exact⟨rfl,ac.heap h1 O,O⟩
theorem Zc (c:Int) :
  NK 49 #[Nu mb,Nr c] w fun e w'=>e=NU (Nr σ.M.objs.length)/\Mx w0 mb af aa aS aB az aL w' { σ with M:=σ.M.Oy c }/\OB Th mb w w':=by
 refine(Yx ac.hh aJ.go.sm (Oi hN) c).mono ?_;rintro e w' ⟨rfl,h1,O⟩;exact⟨rfl,ac.heap h1 O,O⟩
end
theorem amw (aZ:Bs w0 mb af aa es)(ac:Mx w0 mb af aa aS aB az aL w σ)(aJ:Sz N σ){a:Ad}{d:Nd}(hd:Oa aa w a d)(E:d.2.kids.length=2)(hN:N+10000<1000000000)(p:Pl)(aC:Option Addr)(iS:(σ.M.ro p.scope).isSome=true) :
  NK 265 #[Nu mb,Nu a.p,OQ p aC] w fun e w'=>e=NU (vA (VG d p σ).1)/\∃ TW Vd,Mx w0 mb af aa aS aB TW Vd w' (VG d p σ).2/\P9 mb az aL TW Vd w w':=by
 have bI:=ac.lt;have bP:=kk (∀{G}(h:G:=by
 have z:=kk (∀{G}(h:G:=by
 have hr2:w2.heap[aR]? = some (Og #[Nr 0,Nr 0,OG] 65):=by
  exact amx
 have z:=kk (∀{G}(h:G:=by
 obtain⟨IY,_,si,_⟩:=hd.cells;obtain⟨dL,_,c1,_⟩:=(hd.kp (Kp.of aE)).cells;have ej:=(ac.later aE);have lB:=(hd.kp (Kp.of aE));have dF:=hide bK;have bj:=hide hr2;have da:=(P9.of (o:=az) (f:=aL) aE (Oi bI));have cI:=hide cH;have r6:=hide ds;have td:=hide d5;obtain⟨q,bo⟩:=xH a.p;obtain⟨tx,cD⟩:=xE d.2.tx;rw[<-bo.out] at dL c1 IY si ⊢;rw[<-cD] at c1 si;have e1:=hide c1;clear c1;have dc:=ej.lt;have hpl2:=lt_of_heap bK;clear hr2 ds cH d5
 by_cases h0:d.2.tx=NC
 ·obtain⟨v,ap⟩:=xE ((mkFun d ⟨aq,aF,st⟩ σ).1);obtain⟨σ1,h9⟩:=xE ((mkFun d ⟨aq,aF,st⟩ σ).2);have av:VG d ⟨aq,aF,st⟩ σ=(v,σ1):=by unfold VG;rw[if_pos h0,ap,h9]
  rw[av];have hS:=(YB ej lB E aJ Nw ⟨aq,aF,st⟩ aC);rw[<-ap,<-h9,<-bo.out] at hS;have I8:tx.toList.isEmpty=true:=by rw[cD,h0];decide +kernel
  obtain⟨aW,p1,cr,cL,_,_⟩:=cells4 bK;clear av ap h9 h0 cD bK;go_enter func265,ntmps265;go_wp2_with fail;rw[<-bu.out,<-b1,<-bU];clear bU b1;refine cm hS ?_;rintro e ao ⟨rfl,fO,e8,cQ⟩;have eF:=e8;have c8:=hide (cQ.keep ej bj.out NH);have cV:=(da.trans cQ);have z:=kk (∀{G}(h:G:=by
  clear aW p1 cr cL;go_wp2_with fail;obtain⟨b3,bz⟩:=xE (((ao.setCell (Nv aR 0) (Nr v.k)).setCell (Nv aR 1) (Nr v.n)).setCell (Nv aR 2) (ND v.s));rw[<-bz];have d7:=YC c8.out (Nr v.k) (Nr v.n) (ND v.s);have gF:mb<=aR:=by have:=Ns cI;omega
  have bb:=Qy c8.out gF (Nr v.k) (Nr v.n) (ND v.s);have bx:=cV.new bb (RD cI.out _ _ _);have bv:=eF.Xd bb NH;exact ayt),G);exact atO
 ·obtain⟨eZ,kX⟩:=xE (σ.top:Int);obtain⟨ow,lh⟩:=xE (own d:Int);obtain⟨ur,zh⟩:=xH (σ.opn aq (-1) ow);obtain⟨v,ap⟩:=xE ((mkFun d ⟨eZ,aF,st⟩ ur).1);obtain⟨σ1,h9⟩:=xE ((mkFun d ⟨eZ,aF,st⟩ ur).2);have av:VG d ⟨aq,aF,st⟩ σ=(v,σ1.dec eZ tx 3 v):=by unfold VG;rw[if_neg h0,ap,h9,zh.out,kX,lh,cD]
  rw[av];have I8:tx.toList.isEmpty=false:=by rw[acB,cD];exact decide_eq_false h0
  have ga:=hide (cells4 bK);have k8:=hide (fun X (aj:NJ w2 X)=>XD aZ (ej.later aj) (lB.kp (Kp.of aj)));rw[<-bo.out,<-lh] at k8;have cg:=hide (fun X (aj:NJ w2 X)=>X4 (ej.later aj) aJ Nw aq (-1) ow iS);rw[<-kX,<-zh.out] at cg;have iO:=hide h9;have bA:=hide ap;clear av lh kX h0 cD h9 ap bK;go_enter func265,ntmps265;go_wp2_with fail;rw[<-bu.out,<-b1,<-bU];clear bU b1;have z:=kk (∀{G}(h:G:=by
  have qp:=(P9.of ab (Oi dc)).trans cQ;have eF:=e8;have fi:=hide (qp.keep ej dF.out NH);have c8:=hide (qp.keep ej bj.out NH);have lC:=(lB.kp (qp.kp ej));have cV:=(da.trans qp);obtain⟨aW,p1,cr,cL,gQ,pl⟩:=cells4 fi.out;have z:=kk (∀{G}(h:G:=by
  have f3:=(eF.Xd lk NH);have lj:=XE fi.out (Nr eZ);have gA:Hid (bB.heap[aR]? = some (Og #[Nr 0,Nr 0,OG] 65)):=by
   exact apK
  have z:=kk (∀{G}(h:G:=by
  have ub:=aJ.opn aq (-1) ow;rw[<-zh.out] at ub;have sN:=ub.mkFun d ⟨eZ,aF,st⟩;rw[<-iO.out] at sN;have dV:=(YB f3 pb E ub Nw ⟨eZ,aF,st⟩ aC);rw[<-bA.out,<-iO.out,<-bo.out] at dV;obtain⟨fZ,ku,s2,o7,_,J'⟩:=cells4 lj;have gx:=f3.lt;clear eL lj aW p1 cr cL o6;go_wp2_with fail;refine cm dV ?_;rintro e b' ⟨rfl,HA,lS,g9⟩;have i6:=hide (g9.keep f3 kH.out NH);have fM:=hide (g9.keep f3 gA.out NH);have ni:=(pb.kp (g9.kp f3));have gq:=(fI.trans g9);clear fZ ku s2 o7;go_wp2_with fail
  obtain⟨b9,g2⟩:=xE (b'.alloc (.cells #[Nr v.k,Nr v.n,ND v.s] 65));rw[<-g2];have e2:NJ b' b9:=by rw[g2];exact OM
  have wq:b9.heap[b'.heap.size]? = some (Og #[Nr v.k,Nr v.n,ND v.s] 65):=by rw[g2];exact NG _ _
  obtain⟨vb,aN⟩:=xE b'.heap.size;rw[<-aN] at wq ⊢;have l7:=(lS.later e2);have rk:=l7.lt;have l1:=hide (stays e2 i6.out);have Gh:=hide (cells4 (stays e2 i6.out));have hA:=hide (stays e2 fM.out);have j9:=(gq.trans (P9.of e2 (Oi lS.lt)));have q1:=hide wq;have gc:=hide (cells3 wq);have L':q<b9.heap.size:=by rw[bo.out];exact(ni.kp (Kp.of e2)).cells.1
  have DM:b9.cell? (Nv q 1)=some (ND tx):=by
   have h1:=(ni.kp (Kp.of e2)).cells.2.2.1;have O:=lB.cells.2.2.1;rw[<-bo.out] at h1 O;have ax:=Ns e1;rw[O] at ax;cases ax;exact h1
  have s6:=hide DM;have IS:=lt_of_heap l1.out;have Mq:=lt_of_heap wq;have s7:=hide (fun X (aj:NJ b9 X)=>VJ (l7.later aj) sN Nw eZ tx 3 v);clear wq aN g2 DM;refine Rj 10 fun ab=>?_;have z:=kk (∀{G}(h:G:=by
  refine up 3 bc 0 ab ?_;refine uk 4 (Gh.out.1) ab ?_;refine up 5 q 0 ab ?_;refine up 6 q 0 ab ?_;refine up 7 q 1 ab ?_;refine uk 8 s6.out ab ?_;refine uk3 9 gc.out ab ?_;refine O0 10 fun K A=>?_;go_simp;refine cm (Ns s7 _ ab) ?_;rintro e eh ⟨rfl,ru,m3⟩;refine ko A ?_;clear A K;have At:=(OB.of (T:=Th) ab (Oi rk)).trans m3;have qa:=hide ru;have ka:=hide (At.rest aR _ 65 hA.out NH);have nj:=hide (j9.trans (P9.ofT At));obtain⟨v0,v1,v2,_,vl⟩:=cells3 (At.rest vb _ 65 q1.out NH);refine QX ?_ _
  obtain⟨cy,bQ,b5,en,rl⟩:=cells3 ka.out;have dn:=en 0;have dp:=en 1;have dq:=en 2;clear en;go_simp;go_wp2_with fail;obtain⟨b3,bz⟩:=xE (((eh.setCell (Nv aR 0) (Nr v.k)).setCell (Nv aR 1) (Nr v.n)).setCell (Nv aR 2) (ND v.s));rw[<-bz];have d7:=YC ka.out (Nr v.k) (Nr v.n) (ND v.s);have gF:mb<=aR:=by have:=Ns cI;omega
  have bb:=Qy ka.out gF (Nr v.k) (Nr v.n) (ND v.s);have bx:=nj.out.new bb (RD cI.out _ _ _);have bv:=qa.out.Xd bb NH;exact ayt),G);exact RU),G);exact ayu),G);exact atQ),G);exact ayv),G);exact zsg),G);exact zsd),G);exact ztp
def Ms (w0:Ny)(mb af:Nat)(aa:List Nat)(w:Ny)(σ:St):Prop:=∃ aS aB az aL,Mx w0 mb af aa aS aB az aL w σ
abbrev XI (v:Va):Obj:=Og #[Nr v.k,Nr v.n,ND v.s] 65
variable {w2:Ny}{L:Option Nat}
theorem Ms.lt (h:Ms w0 mb af aa w σ):mb<w.heap.size:=by obtain⟨_,_,_,_,h⟩:=h;exact h.lt
theorem Ms.later (h:Ms w0 mb af aa w σ)(D:NJ w w'):Ms w0 mb af aa w' σ:=by obtain⟨_,_,_,_,h⟩:=h;exact⟨_,_,_,_,h.later D⟩
theorem Ms.Xd {T:List TypeId}(h:Ms w0 mb af aa w σ)(f:OB T mb w w')(dA:∀ e ∈ T,e ∉ Tm/\e≠40/\e≠22):Ms w0 mb af aa w' σ:=by obtain⟨_,_,_,_,h⟩:=h;exact⟨_,_,_,_,h.Xd f dA⟩
theorem Ms.below (h:Ms w0 mb af aa w σ):Below mb w0 w:=by obtain⟨_,_,_,_,h⟩:=h;exact h.bw
theorem Om.newT {T:List TypeId}(h:Om L mb w w')(k:OB T mb w' w2)(E:∀ b,b<w.heap.size->w2.heap[b]? = w'.heap[b]?):Om L mb w w2:=
 ⟨h.below.trans k.below,fun b c e D au hl=>by rw[E b (lt_of_heap D)];exact h.rest b c e D au hl⟩
theorem Om.keep (h:Om none mb w w'){b:Nat}{c:Array NP}{t:TypeId}(D:w.heap[b]? = some (Og c t))(a':t ∉ Tm):w'.heap[b]? = some (Og c t):=h.rest b c t D a' Oq
theorem Om.SX (h:Om none mb w w'):Kp w w':=h.kp (fun b e=>by cases e)
theorem U4.ZO {v:NP}{e:Er}(h:U4 es w v e)(aG:Om none mb w w'):U4 es w' v e:=by
 cases e with
 | no=>exact h
 | stop=>exact h
 | mis=>exact h
 | Wq x=>
  obtain⟨b,h1,O⟩:=h;exact⟨b,h1,aG.keep O NH⟩
theorem U4.O6 {v:NP}{e:Er}{T:List TypeId}(h:U4 es w v e)(aG:OB T mb w w')(dA:126 ∉ T):U4 es w' v e:=by
 cases e with
 | no=>exact h
 | stop=>exact h
 | mis=>exact h
 | Wq x=>
  obtain⟨b,h1,O⟩:=h;exact⟨b,h1,aG.rest b _ _ O dA⟩
def Yh (v:NP):Prop:=∃ t x,v=.iface t x
theorem U4.Vs {v:NP}{e:Er}(h:U4 es w v e)(au:e≠.no)(ae:Yh es):Yh v:=by
 cases e with
 | no=>exact absurd rfl au
 | stop=>rw[show v=es from h];exact ae
 | mis=>exact⟨_,_,h⟩
 | Wq x=>obtain⟨b,h1,_⟩:=h;exact⟨_,_,h1⟩
structure VB (w0:Ny)(mb af:Nat)(aa:List Nat)(es:NP)(w2:Ny)(v:Va)(e:Er)(σ:St)(wz:Ny)(vb:Nat)(ev:NP):Prop where
 v:wz.heap[vb]? = some (XI v)
 vb:w2.heap.size<=vb
 er:U4 es wz ev e
 ms:Ms w0 mb af aa wz σ
 fr:Om none mb w2 wz
theorem VB.late {aD:Ny}{ev:NP}{v:Va}{e:Er}(aI:U4 es aD ev e)(aK:Ms w0 mb af aa aD σ)(ak:Om none mb w2 aD):VB w0 mb af aa es w2 v e σ (aD.alloc (.cells #[Nr v.k,Nr v.n,ND v.s] 65)) aD.heap.size ev:=by
 have D:NJ aD (aD.alloc (.cells #[Nr v.k,Nr v.n,ND v.s] 65)):=OM;exact⟨NG _ _,ak.below.size,aI.later D,aK.later D,ak.trans (Om.of D (Oi aK.lt))⟩
theorem VB.early {aD:Ny}{ev x y bE:NP}{v:Va}{e:Er}{vb:Nat}(ap:aD.heap[vb]? = some (Og #[x,y,bE] 65))(aN:w2.heap.size<=vb)(aV:mb<=w2.heap.size)(aI:U4 es aD ev e)(aK:Ms w0 mb af aa aD σ)(ak:Om none mb w2 aD) :
  VB w0 mb af aa es w2 v e σ (((aD.setCell (Nv vb 0) (Nr v.k)).setCell (Nv vb 1) (Nr v.n)).setCell (Nv vb 2) (ND v.s)) vb ev:=by
 have aG:=Qy ap (Nat.le_trans aV aN) (Nr v.k) (Nr v.n) (ND v.s);exact⟨YC ap _ _ _,aN,aI.O6 aG NH,aK.Xd aG NH,ak.newT aG (RD aN _ _ _)⟩
theorem UC {H G:Ny->Nat->NP->Prop}{goal:Prop}(h1:(∀ w v u,H w v u->G w v u)->goal)(O:∀ w v u,H w v u->G w v u):goal:=h1 O
def Oh (w0:Ny)(mb af:Nat)(aa:List Nat)(es:NP)(w:Ny)(r:(Va × Er) × St)(e:Ending)(w':Ny):Prop:=
 (∃ ev,e=NU (.tuple #[vA r.1.1,ev])/\U4 es w' ev r.1.2)/\Ms w0 mb af aa w' r.2/\Om none mb w w'
section
variable (h:Mx w0 mb af aa aS aB az aL w σ)
include h
theorem Mx.ayw (x:Int × Int){ao:Ny}{sv':NP}(hg:w.grownBy ao aB.ownBlock)(aM:ao.ownsRow mb 54 2 sv' (σ.seen.length+1) (σ.seen.flatMap sn2++sn2 x)) :
  Mx w0 mb af aa aS sv' az aL (ao.setCell (Nv mb 6) sv') { σ with seen:=σ.seen++[x] }/\Om none mb w (ao.setCell (Nv mb 6) sv'):=by
 have dZ:OB [54] mb w ao:=OB.grown hg (Oi h.lt) fun k E=>by
  obtain⟨c,ai⟩:=OZ h.se E;exact⟨(h.se.lt k E).1,c,54,ai,by simp⟩
 have kS:=h.hh.keep dZ NH NH NH NH NH;obtain⟨lO,dW⟩:=kS.cell 4 sv';have gW:OB [54,84] mb w (ao.setCell (Nv mb 6) sv'):=(dZ.mono NH OH).trans (dW.mono NH OH);obtain⟨d0,h1,O,ax⟩:=h.fu
 refine⟨⟨h.bw.trans gW.below,lO,N7 h.lg gW NH,?_,N7 h.ow gW NH,d0,h1,N7 O gW NH,fun i a f aw gf=>(ax i a f aw gf).kp (fun b c e D au=>gW.rest b c e D (by rcases au with rfl|rfl <;> decide))⟩,⟨gW.below,fun b c e D au _=>gW.rest b c e D (fun q=>au (by rcases List.mem_cons.1 q with rfl|q;decide;rw[List.mem_singleton.1 q];decide))⟩⟩
 have bN:=N7 aM dW NH
 show World.ownsRow _ _ _ _ _ (σ.seen++[x]).length ((σ.seen++[x]).flatMap sn2)
 rw[List.length_append,List.flatMap_append];simpa using bN
theorem Mx.ayx (x:NR){ao:Ny}{lv':NP}(hg:w.grownBy ao aS.ownBlock)(aM:ao.ownsRow mb 9 1 lv' (σ.log.length+1) (σ.log.map Value.string++[ND x])) :
  Mx w0 mb af aa lv' aB az aL (ao.setCell (Nv mb 2) lv') { σ with log:=σ.log++[x] }/\Om none mb w (ao.setCell (Nv mb 2) lv'):=by
 have dZ:OB [9] mb w ao:=OB.grown hg (Oi h.lt) fun k E=>by
  obtain⟨c,ai⟩:=OZ h.lg E;exact⟨(h.lg.lt k E).1,c,9,ai,by simp⟩
 have kS:=h.hh.keep dZ NH NH NH NH NH;obtain⟨lO,dW⟩:=kS.cell 0 lv';have gW:OB [9,84] mb w (ao.setCell (Nv mb 2) lv'):=(dZ.mono NH OH).trans (dW.mono NH OH);obtain⟨d0,h1,O,ax⟩:=h.fu
 refine⟨⟨h.bw.trans gW.below,lO,?_,N7 h.se gW NH,N7 h.ow gW NH,d0,h1,N7 O gW NH,fun i a f aw gf=>(ax i a f aw gf).kp (fun b c e D au=>gW.rest b c e D (by rcases au with rfl|rfl <;> decide))⟩,⟨gW.below,fun b c e D au _=>gW.rest b c e D (fun q=>au (by rcases List.mem_cons.1 q with rfl|q;decide;rw[List.mem_singleton.1 q];decide))⟩⟩
 have bN:=N7 aM dW NH
 show World.ownsRow _ _ _ _ _ (σ.log++[x]).length ((σ.log++[x]).map _)
 rw[List.length_append,List.map_append];exact bN
end
theorem atT:(prog.info? 54).map (fun i=>(i.zero,i.size,i.bytes))=some (some (.agg #[Nr 0,Nr 0]),2,16):=by kernel_rfl
theorem amy (w:Ny)(H:Nat)(fk:w.heap.size=H)(a b:Int)(j:Nat)(u:NP)(h:([Nr a,Nr b]:List NP)[j]? = some u) :
  (w.alloc (.cells #[Nr a,Nr b] 54)).cell? (((Nv H 0):Addr).add j)=some u:=by
 subst fk
 rcases j with _|_|j <;> simp at h
 all_goals subst h;simp[Addr.add]
theorem atU (a b:Int):∀ u ∈ ([Nr a,Nr b]:List NP),u.oneCell'=true:=by
 intro u aO;simp at aO
 rcases aO with rfl|rfl <;> rfl
theorem amz (M:Mo)(nm:NR):∀ (f:Nat) (i:Int),M.fnd nm f i = -1\/∃ k:Nat,M.fnd nm f i=k/\k<M.NQ.length
 | 0,_=>.inl rfl
 | f+1,i=>by
  rw[Mo.fnd]
  rcases OX M i with ⟨h0,_⟩|⟨k,x,rfl,ac,h1⟩
  ·rw[h0];exact .inl rfl
  ·rw[h1]
   show (if M.has k nm=true then (k:Int) else M.fnd nm f x.outer) = -1\/_
   split
   ·right;refine⟨k,?_,(List.getElem?_eq_some_iff.1 ac).1⟩;simp[*]
   ·rename_i hh
    simp only[];exact amz M nm f x.outer
theorem apL (M:Mo)(i:Int)(nm:NR):M.find i nm = -1\/∃ k:Nat,M.find i nm=k/\k<M.NQ.length:=amz _ _ _ _
end
end Hp
end Go.Proofs.YticfnaiehdpbmaaGreatDoor
