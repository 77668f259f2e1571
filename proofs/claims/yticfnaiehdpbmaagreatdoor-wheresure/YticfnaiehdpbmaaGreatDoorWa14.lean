import Derived.Test.YticfnaiehdpbmaaGreatDoorWa13
set_option maxRecDepth 100000
set_option maxHeartbeats 0
set_option linter.all false
namespace Go.Proofs.YticfnaiehdpbmaaGreatDoor
open Go.RowKit Go.Proofs.Tryz
namespace Hp
structure Gl (w:Py):Prop where
 li:hK RS Rq w
 ta:kM w
section
variable {U:Py}{k M:Nat}{z:List Nat}{aE bo bn bm a6:PO}{w w':Py}{g:St}{aH:Nat}{X:Fx}{ay:PO}{aY:List Va}
theorem Gl.fQ (h:Gl w)(a:PG w w'):Gl w':=⟨h.li.fQ a,h.ta.fQ a⟩
theorem Gl.ms (h:Gl U)(b:Bs U k M z aE)(a:Ms U k M z w g):Gl w:=h.fQ (by unfold PG;rw[b.sz];exact a.below)
def j5 (b:PS)(c:Bool):Option Tr:=match Tj RS Rq b with
 |.ok a=>match hD a c false false with
  |none=>some a
  |some _=>none
 |_=>none
def ayU (aE:PO)(w:Py)(c:Option Tr)(a:Ending)(w':Py):Prop:=PG w w'/\match c with
 |some d=>∃b,a=PY (.tuple #[Pm b,.nilIface])/\QT (gz w.heap.size) w' d b
 |none=>∃b,a=PY (.tuple #[.pointer none,b])/\Yu aE w' b (ga Vd)
theorem akE (i:PS)(j:Bool)(w:Py)(D:Gl w):PN 321 #[PI i,PD j] w (ayU aE w (j5 i j)):=by
 have hP:=jN RS Rq i w D.li Yx D.ta;obtain⟨l,T⟩:=xE (j5 i j);rw[<-T]
 cases a:Tj RS Rq i with
 |ok m=>
  rw[a] at hP;have L:=x5 a;have ah:=(Xf a).2;have HP:=hP;have F:=Y (λe t (u:UN t m e)=>CS m e j false t u L Pv);obtain⟨S,n⟩:=xE (hD m j false false);rw[<-n] at F
  cases S with
  |none=>
   have d:l=some m:=by rw[T];unfold j5;rw[a];simp only;rw[<-n]
   have N{G}(h:G:=by
   have r:c=PY RI:=o;subst r;have f:=E;clear o;go_wp2_with fail;refine Uj (v:=.tuple #[Pm e,RI]) ?_;exact⟨b.trans (f.mono b.size),e,rfl,QT.fQ (Below.ht f) _ _ H⟩):=Pq h;exact Fs
  |some C=>
   have d:l=none:=by rw[T];unfold j5;rw[a];simp only;rw[<-n]
   have N{G}(h:G:=by
   have r:c=PY (.iface 34 (Ph C)):=o;subst r;have f:=b.trans (E.mono b.size);clear o;go_wp2_with fail;refine cm (Yq Vd ae) ?_;rintro c ad ⟨⟨B,rfl,_,A⟩,s⟩;have O:=f.trans (s.mono f.size);exact Io):=Pq h;exact Fs
 |«at» C f=>
  rw[a] at hP;have HP:=hP;have d:l=none:=by rw[T];unfold j5;rw[a]
  subst d;clear T a;go_enter func321,ntmps321;go_wp2_with fail;refine cm HP ?_;rintro c q ⟨e,rfl,_,_,p⟩;exact Eu
 |bare=>
  rw[a] at hP;have HP:=hP;have d:l=none:=by rw[T];unfold j5;rw[a]
  subst d;clear T a;go_enter func321,ntmps321;go_wp2_with fail;refine cm HP ?_;rintro c q ⟨rfl,p⟩;exact Eu
theorem aqu (b:Mx U k M z bo bn bm a6 w g)(l:Sz aH g)(n:aH<1000000000)(c:Int)(d:PS) :
  PN 354 #[Pm k,Ph c,PI d] w λf w'=>f=PY (.tuple #[])/\Mx U k M z bo bn bm a6 w' (gP c d g)/\Qv Th k w w':=by
 have v:=b.lt;have A:=Jc b.hh c;have B:=Jm b.hh l.go.sm (Qe n) c d;obtain⟨s,j⟩:=xE (g.M.SX c);obtain⟨t,o⟩:=xE (g.M.has c d);rw[<-j] at A;rw[<-o] at B;obtain⟨L,a⟩:=xE (gP c d g);rw[<-a];unfold gP at a;rw[<-j,<-o] at a;have HP:=Y (λi (m:Mx U k M z bo bn bm a6 i g)=>Z4 m l n s d vU false);have D:=Y (λi (m:Mx U k M z bo bn bm a6 i g)=>Yt m l n c d 4 vU);clear j o
 cases t with
 |true=>
  rw[fY rfl] at a;rw[a];have q{G}(h:G:=by
  go_wp2
  go_end0
  exact⟨rfl,b.fQ e,Qv.of e (Qe v)⟩):=Pq h;exact vn
 |false=>
  rw[fT Qh] at a
  by_cases r:s = -1
  ·rw[fT (by simp[r])] at a;have u:=Y a;clear a;have q{G}(h:G:=by
   have C:=(b.fQ p).lt;go_wp2_with fail;refine cm (Pj D _ (b.fQ e)) ?_;exact GB):=Pq h;exact vn
  ·rw[fY r] at a;have u:=Y a;clear a;have q{G}(h:G:=by
   have C:=(b.fQ p).lt;go_wp2_with fail;refine cm (Pj HP _ (b.fQ e)) ?_;exact GB):=Pq h;exact vn
theorem BG {c:Ad}{o:Nd}(j:Qc z w c o)(q:o.2.count<=1500):PN 352 #[Pm c.p] w λd w'=>(∃ay,d=PY ay/\QV w.heap.size w' ay (Uf o.2))/\PG w w':=by
 obtain⟨aR,aO,aQ,aJ,aM⟩:=g2 iQ;have aZ:=SL o.2;have C:UN w o.2 c.p:=by rw[<-j.tr];exact j.at_.nat.nt
 have D:=Yf o.2 c.p w C Pv;have H:=Y (λt (e:PG w t)=>YF c t (Rl.kp (Kp.of e) _ j.at_) (by rw[j.ks];omega))
 obtain⟨p,v⟩:=xE (QF o.2);have bq:p.length<=1500:=by
  have b{G}(h:G:=by
  rw[v];omega):=Pq h;exact tB
 obtain⟨a,r⟩:=xE (c.ks.filter λi=>Uw i.tr);have bG:a.length<=1500:=by
  have ah:=hu (λi:Ad=>Uw i.tr) c.ks;rw[r,<-j.ks] at *;omega
 have O:Uf o.2=p++a.map (λi=>i.tr.tx):=by
  rw[v,r];unfold Uf Ue;have ah:o.2.fS=c.ks.map Ad.tr:=by rw[<-j.tr];exact c.Yb.2.2
  rw[ah,lC,List.map_map];rfl
 rw[O];rw[<-v] at D;rw[<-r] at H;obtain⟨bH,R⟩:=xE c.p;rw[<-R] at D H ⊢;clear aZ O v r R;go_enter func352,ntmps352;go_wp2_with fail;refine cm D ?_;rintro d bf ⟨⟨u1,rfl,ak⟩,E⟩;obtain⟨bI,br,be⟩:=P7 ak;subst be;go_wp2_with fail;refine cm (Pj H bf E) ?_;rintro d ax ⟨⟨u2,rfl,al⟩,N⟩;obtain⟨bz,bF,bh⟩:=al.form;subst bh;have aW:=Qs ak N;have S:=E.trans (N.mono E.size);have bE:=S.size;go_wp2_with fail
 go_loopw [3,11] (λe I wr=>∃i:Nat,i<=a.length/\I=Ph i/\QV w.heap.size wr e (p++(a.take i).map (λi=>i.tr.tx))/\PG w wr/\Kp ax wr) (λ_ I _=>a.length - (intOf I).toNat)
 case atStart=>exact⟨0,ge _,rfl,by simpa using aW,S,λ_ _ _ h _=>h⟩
 case round=>
  obtain⟨i,bj,rfl,af,e,ae⟩:=hrel;have A:=af;obtain⟨aX,a1,rfl⟩:=P7 af;have aK:=e.size
  by_cases P:i<a.length
  ·obtain⟨bA,bv,s,bD,q,C⟩:=(al.kp ae).cell i P;have b{G}(h:G:=by
   obtain⟨a8,_,T,_⟩:=UN.cells C.nat.nt;have bb:(i:Int)<(a.length:Int):=Pv;obtain⟨x,ad⟩:=xH ((a[i]).tr.tx);rw[<-ad.out] at T;obtain⟨bB,ap⟩:=xE ((a[i]).p);rw[<-ap] at q a8 T;obtain⟨au,F⟩:=xH (p++(a.take i).map (λi=>i.tr.tx));obtain⟨L,u⟩:=xH au.length;have bx:L<=3000:=by rw[u.out,F.out];simp;omega
   rw[<-F.out] at A ⊢;have n:World.ownsRow wr w.heap.size 9 1 (.slice aX L a1) L (au.map Value.string):=by
    refine mq ?_;rw[u.out];exact A
   rw[<-u.out];clear ap;have b{G}(h:G:=by
   have a7:PG wr (wr.alloc (.cells #[PI x] 9)):=QK;have bi:Qv [9] w.heap.size (wr.alloc (.cells #[PI x] 9)) aD:=Qv.grown aI SC λf l=>by
    obtain⟨m,q⟩:=QZ (n.alloc _) l;exact⟨by have:=(Qm n f l).2;omega,m,9,q,by simp⟩
   have ba:Kp ax aD:=λf m d l B=>bi.rest f m d (Kp.of a7 f m d (ae f m d l B) B) (by rcases B with rfl|rfl <;> decide);clear aT;go_wp2_with fail;refine⟨⟨i+1,by omega,by go_num,?_,aL,ba⟩,by simp[intOf];omega⟩
   rw[ha P,hc,<-hI,<-F.out];refine mq ?_;rw[gg,hc,<-u.out]
   show World.ownsRow _ _ _ _ _ _ (_++[Value.string (a[i]).tr.tx])
   rw[<-ad.out];exact hown'):=Pq h;exact AV):=Pq h;exact Vt
  ·have f:i=a.length:=Pv;subst f;have bb:¬ (a.length:Int)<(a.length:Int):=Pv;go_wp2;go_ret;refine⟨⟨_,rfl,?_⟩,e⟩;have h:=A;rw[gV,gg,gF] at h;exact h
theorem Ty {b:Mo}(f:b.Ok){a:Int}(i:0<=a):-1<=b.hJ a/\b.hJ a<a:=by
 unfold Mo.hJ
 rcases QC b a with ⟨c,_⟩|⟨e,x,rfl,d,c⟩
 ·rw[c];exact⟨by decide,by show (-1:Int)<a;omega⟩
 ·rw[c];exact f.out e x d
theorem Cf (ap:Ms U k M z w g)(al:Sz aH g)(bL:aH<1000000000){ak:Ad}{o:Nd}(bN:Qc z w ak o)(bI:o.2.count<=1500)(q:Pl)(n:Option Addr)(I:0<=q.scope/\q.scope<g.M.PL.length) :
  PN 339 #[Pm k,Pm ak.p,QN q n] w λm w'=>m=PY (PD (hidden g.M o.2 q))/\PG w w':=by
 have b3:=ap.lt;have b{G}(h:G:=by
 have bJ:=Y E;have aQ:=BG (bN.kp (Kp.of aI)) bI;obtain⟨e,P⟩:=xE (Uf o.2);rw[<-P] at aQ;have ce:e.length<=3000:=by
  have b{G}(h:G:=by
  have j:=hu Uw o.2.fS;have f:=SL o.2;rw[P];unfold Uf;rw[gg,gF];show _+(o.2.fS.filter Uw).length<=_;omega):=Pq h;exact tB
 obtain⟨d,A⟩:=xE g.M;obtain⟨u,a8⟩:=xH (λaM=>oL d aM B (d.PL.length+1) c:PS->Bool);obtain⟨R,ax⟩:=xH (e.any u);have bb:hidden g.M o.2 ⟨c,B,C⟩=R:=by rw[ax.out,a8.out,P,A];rfl
 rw[bb];have br:=Y (λt (v:PG w t) (a:Int) (aM:PS)=>by
  obtain⟨_,_,_,_,p⟩:=ap.fQ v;exact RB p.hh al.go.sm (Qe bL) a aM)
 have bj:=Y (λt (v:PG w t) (a:Int)=>by
  obtain⟨_,_,_,_,p⟩:=ap.fQ v;exact Pk p.hh a)
 rw[<-A] at br bj I;have bS:d.Ok:=by rw[A];exact al.go.ok
 have b0:d.PL.length<=1000000000:=by have:=al.go.sm.r;rw[A];omega
 obtain⟨ci,be⟩:=xE ak.p;rw[<-be] at aQ ⊢;have bZ:0<=c:=I.1;have bP:c<d.PL.length:=I.2;clear E P A bb be I;go_enter func339,ntmps339;go_wp2_with fail;rw[<-a1.out,<-aO];clear aO;refine cm aQ ?_;rintro m bf ⟨⟨u3,rfl,bz⟩,bh⟩;obtain⟨ck,b4,bR⟩:=P7 bz;subst bR;have bK:=aI.trans (bh.mono aI.size);have bD:=Y (fZ bh bJ.out);go_wp2_with fail
 go_loopw [14] (λr wr=>∃i:Nat,i<=e.length/\r=Ph i/\(e.take i).any u=false/\PG w wr/\PG bf wr) (λr _=>e.length - (intOf r).toNat)
 case atStart=>exact⟨0,ge _,rfl,rfl,bK,RV⟩
 case round=>
  obtain⟨i,bX,rfl,bA,aJ,aR⟩:=hrel;have aU:=Y bA;have b2:=aJ.size;clear bA
  by_cases au:i<e.length
  ·obtain⟨b6,b5,bq,b7,_,bx⟩:=Xi (Qs bz aR) i au;simp only[g7] at bq;obtain⟨rfl,_,rfl⟩:=bq;have aW:(i:Int)<(e.length:Int):=Pv;obtain⟨x,p⟩:=xE (e[i]);rw[<-p] at bx;have aD:=Y p;obtain⟨F,S,N,L,_,O⟩:=fV (fZ aR bD.out);clear p;go_wp2_with fail;clear bx F S N L O
   go_loopw [9] (λr j=>∃(a:Int)(f:Nat),r=Ph a/\-1<=a/\a<d.PL.length/\a<f/\oL d x B f a=u x/\PG w j/\PG bf j) (λr _=>((intOf r)+1).toNat)
   case atStart=>exact⟨c,d.PL.length+1,rfl,by omega,bP,by omega,by rw[a8.out],aJ,aR⟩
   case round=>
    obtain⟨a,f,rfl,cg,b8,bY,ba,ad,aX⟩:=hrel;have T:=Y ba;have bU:=ad.size;clear ba
    by_cases ah:a = -1
    ·subst ah;have j:u x=false:=by
      rw[<-T.out]
      cases f with
      |zero=>rfl
      |succ f=>rw[oL,fY rfl]
     have aT:=Y j;clear j;go_wp2_with fail;refine⟨⟨i+1,by omega,by go_num,?_,ad,aX⟩,by simp[intOf];omega⟩
     rw[ha au,kD,aU.out,<-aD.out];simp[aT.out]
    ·obtain⟨f,rfl⟩:∃bO,f=bO+1:=⟨f - 1,by omega⟩;have bH:0<=a:=Pv;obtain⟨l,ae⟩:=xE (d.kindOf a x);have j:oL d x B (f+1) a=if l=1\/l=2 then true else if a=B then false else oL d x B f (d.hJ a):=by rw[oL,fT ah,ae]
     have bF:=Pj br wr ad a x;rw[<-ae] at bF;have cj:k<wr.heap.size:=Pv;clear ae
     by_cases s:l=1\/l=2
     ·have af:u x=true:=by rw[<-T.out,j,fY s]
      have aL:R=true:=by
       rw[ax.out];refine jV.2 ⟨e[i],gU _,?_⟩;rw[<-aD.out];exact af
      subst aL;clear j af
      by_cases aK:l=1
      ·subst aK;clear s;exact CV
      ·have bi:l=2:=Pv;subst bi;clear s aK;exact CV
     ·rw[fT s] at j;have aK:(l==1)=false:=gT.2 λm=>s (.inl m);have bi:(l==2)=false:=gT.2 λm=>s (.inr m);clear s
      by_cases aL:a=B
      ·rw[fY aL] at j;have aT:Hid (u x=false):=T.out.symm.trans j;clear j;subst aL;have b{G}(h:G:=by
       obtain⟨F,S,N,L,_,O⟩:=fV bE.out;go_wp2_with fail;refine⟨⟨i+1,by omega,by go_num,?_,D,aZ⟩,by simp[intOf];omega⟩
       rw[ha au,kD,aU.out,<-aD.out];simp[aT.out]):=Pq h;exact vP
      ·rw[fT aL] at j;have bv:=Y j;obtain⟨bQ,af⟩:=xE (d.hJ a);have bB:=Ty bS bH;rw[<-af] at bv bB;have a7:=Y (λt (v:PG w t)=>Pj bj t v a);rw[<-af] at a7;clear j af;have b{G}(h:G:=by
       obtain⟨F,S,N,L,_,O⟩:=fV bE.out;go_wp2_with fail;refine cm (Pj a7 _ D) ?_;rintro m b1 ⟨rfl,rfl⟩;clear F S N L O;go_wp2_with fail;exact⟨⟨bQ,f,rfl,bB.1,by omega,by omega,bv.out.symm.trans T.out,D,aZ⟩,by simp[intOf];omega⟩):=Pq h;exact vP
  ·have b{G}(h:G:=by
   go_wp2;go_ret;refine⟨?_,aJ⟩;have h:=Pj aU;rw[gV] at h;rw[ax.out,h];rfl):=Pq h;exact tz):=Pq h;exact mQ
theorem auP (e:Mx U k M z bo bn bm a6 w g)(i:Sz aH g)(l:aH<1000000000)(b:Int)(a:PS)(c:Va) :
  PN 267 #[Pm k,Ph b,PI a,vA c] w λf w'=>f=PY (Vg (g.M.write b a c).1)/\Mx U k M z bo bn bm a6 w' { g with M:=(g.M.write b a c).2 }/\Qv Th k w w':=by
 refine(uY e.hh i.go.sm (Qe l) b a c).mono ?_;rintro f w' ⟨rfl,j,d⟩;exact⟨rfl,e.heap j d,d⟩
def j8 (a:Int)(c:List PS)(b:Nat)(g:St):St:=(c.take b).foldl (λg d=>gP a d g) g
theorem Dz (c:Int)(b:List PS)(a:Nat)(g:St)(d:a<b.length):j8 c b (a+1) g=gP c b[a] (j8 c b a g):=by
 unfold j8;exact qg
theorem Sz.gP (h:Sz aH g)(b:Int)(a:PS):Sz (aH+1) (gP b a g):=by
 unfold Hp.gP
 split
 ·exact h.up (gw _)
 ·split
  ·exact h.Ru _ _ _ _
  ·exact h.ho _ _ _ _
theorem agw (b:Int)(a:PS)(g:St):(gP b a g).M.PL.length=g.M.PL.length:=by
 unfold gP
 split
 ·rfl
 ·split
  ·exact wB _ _ _ _ _
  ·exact Ws _ _ _ _ _
theorem Mg (c:Int)(a:List PS)(b:Nat):∀{g:St},(j8 c a b g).M.PL.length=g.M.PL.length:=by
 intro g;unfold j8
 generalize a.take b=e
 induction e generalizing g with
 |nil=>rfl
 |cons f a d=>exact d.trans (agw _ _ _)
theorem Sz.j8 (c:Int)(b:List PS):∀(a:Nat){g:St},Sz aH g->a<=b.length->Sz (aH+a) (j8 c b a g)
 |0,_,h,_=>h
 |a+1,g,h,d=>by
  rw[Dz c b a g Pv];exact(Sz.j8 c b a h Pv).gP _ _
def px (b:Pl)(a:Nd)(g:St):St:={ (gd a b g).2 with M:=((gd a b g).2.M.write b.gh a.2.tx (gd a b g).1).2 }
def iS (c:Pl)(b:List Nd)(a:Nat)(g:St):St:=(b.take a).foldl (λg a=>px c a g) g
theorem IZ (c:Pl)(a:List Nd)(b:Nat)(g:St)(d:b<a.length):iS c a (b+1) g=px c a[b] (iS c a b g):=by
 unfold iS;exact qg
theorem Sz.px (h:Sz aH g)(b:Pl)(a:Nd):Sz (aH+2) (px b a g):=(h.gd a b).heap (gw _) ((h.gd a b).go.write _ _ _) (Zn _ _ _ _)
theorem Sz.iS (c:Pl)(b:List Nd):∀(a:Nat){g:St},Sz aH g->a<=b.length->Sz (aH+2 * a) (iS c b a g)
 |0,_,h,_=>h
 |a+1,g,h,d=>by
  rw[IZ c b a g Pv];exact(Sz.iS c b a h Pv).px _ _
theorem R2 (a:Nd)(b:Pl)(g:St):P5 a b g=if 0<(Qi a.2).length then
   ({ b with scope:=(j8 b.gh (Uf a.2) (Uf a.2).length g).gu },iS { b with scope:=(j8 b.gh (Uf a.2) (Uf a.2).length g).gu } (TK a) (TK a).length (Q5 (Qi a.2) (j8 b.gh (Uf a.2) (Uf a.2).length g).gu ((j8 b.gh (Uf a.2) (Uf a.2).length g).gv b.scope (-1) (-3))))
  else (b,iS b (TK a) (TK a).length (j8 b.gh (Uf a.2) (Uf a.2).length g)):=by
 unfold P5 iS j8;rw[gV,gV];simp only
 split <;> rfl
theorem Ia (D:Mx U k M z bo bn bm a6 w g)(dC:Sz aH g)(fm:aH+9000<1000000000){I:Ad}{o:Nd}(aQ:Qc z w I o)(ek:o.2.count<=1500)(aL:∀i ∈ TK o,i.2.fS.length=2)(aK:Pl)(n:Option Addr)(dQ:0<=aK.scope/\aK.scope<g.M.PL.length) :
  PN 340 #[Pm k,Pm I.p,QN aK n] w λj w'=>j=PY (QN (P5 o aK g).1 n)/\∃dx dz,Mx U k M z bo bn dx dz w' (P5 o aK g).2/\Td k bm a6 dx dz w w':=by
 have en:=D.lt;have b5:=R2 o aK g;obtain⟨F,B,C⟩:=aK;obtain⟨w2,cz⟩:=xH ((w.alloc (.cells #[Ph F,Ph B,PD C,.pointer n] 73)).alloc (.cells #[Ph 0,Ph 0,PD false,Rz] 73));have b{G}(h:G:=by
 have dP:w2.heap[N]?=some (Qb #[Ph 0,Ph 0,PD false,Rz] 73):=sE
 have eG:H≠N:=Pv;have dF:w.heap.size<=N:=Pv;have eD:w.heap.size<=H:=Pv;have fk:=SL o.2;have bN:=aQ.kp (Kp.of aI);have cP:=BG bN ek;obtain⟨e,b2⟩:=xE (Uf o.2);obtain⟨q,hG⟩:=xE (TK o);obtain⟨cS,bJ⟩:=xH (Qi o.2);obtain⟨L,cB⟩:=xE (I.ks.filter λi=>Uw i.tr);obtain⟨cX,bI⟩:=xE (I.ks.filter λi=>QE i.tr);have cp:U7 z w2 L q:=by rw[cB,hG];exact U7.filter Uw _ _ bN.l8
 have e0:L.length=q.length:=U7.len _ _ cp;have fj:cX.length=cS.length:=by
  rw[bI,bJ.out]
  show _=(o.2.fS.filter QE).length
  have ah:o.2.fS=I.ks.map Ad.tr:=by rw[<-aQ.tr];exact I.Yb.2.2
  rw[ah,lC,gF];rfl
 have fv:q.length<=1500:=EF
 have fi:cS.length<=1500:=by
  have dW:=hu QE o.2.fS;rw[bJ.out];show (o.2.fS.filter QE).length<=_;omega
 have fo:e.length<=3000:=by
  have b{G}(h:G:=by
  have dW:=hu Uw o.2.fS;rw[b2];unfold Uf;rw[gg,gF];show _+(o.2.fS.filter Uw).length<=_;omega):=Pq h;exact tB
 rw[<-b2] at cP;rw[<-b2,<-hG,<-bJ.out] at b5;rw[<-hG] at aL;obtain⟨dT,dH⟩:=xE (P5 o ⟨F,B,C⟩ g);rw[<-dH] at b5 ⊢;obtain⟨ft,dE⟩:=xH I.p;have dJ:=D.fQ aI;have ew:=Td.of (o:=bm) (f:=a6) aI (Qe en);have eo:=Y E;have ep:=Y dP;have cx:=Y (λt (c:Rl (λ_=>True) t I)=>EW I t c (by rw[aQ.ks];omega))
 have db:=Y (λt (c:Rl (λ_=>True) t I)=>YF I t c (by rw[aQ.ks];omega))
 rw[<-bI] at cx;rw[<-cB] at db;have cR:=Y b5;have e1:=Y aL;have dX:=Y dF;rw[<-dE.out] at cP cx db ⊢;clear D E dP b5 dH b2 hG cB bI aL dF;go_enter func340,ntmps340;go_wp2_with fail;refine iJ ?_;clear bx bq;refine cm cP ?_;rintro j el ⟨⟨u3,rfl,dM⟩,bF⟩;obtain⟨eV,eu,eU⟩:=P7 dM;subst eU;have eF:=dJ.fQ bF;have ey:=ew.trans (Td.of bF (Qe dJ.lt));have eH:=Y (fZ bF eo.out);have eh:=Y (fZ bF ep.out);have eI:Kp w2 el:=Kp.of bF;go_wp2_with fail
 go_loopw [14] (λl wr=>∃i:Nat,i<=e.length/\l=Ph i/\Mx U k M z bo bn bm a6 wr (j8 B e i g)/\Td k bm a6 bm a6 w wr/\wr.heap[H]?=some (Qb #[Ph F,Ph B,PD C,.pointer n] 73)/\wr.heap[N]?=some (Qb #[Ph 0,Ph 0,PD false,Rz] 73)/\QV w2.heap.size wr (.slice eV e.length eu) e/\Kp w2 wr) (λl _=>e.length - (intOf l).toNat)
 case atStart=>exact⟨0,ge _,rfl,eF,ey,eH.out,eh.out,dM,eI⟩
 case round=>
  obtain⟨i,eX,rfl,aX,bU,cq,a7,dS,bX⟩:=hrel;have b{G}(h:G:=by
  by_cases ax:i<e.length
  ·obtain⟨eZ,eY,s,dY,_,bQ⟩:=Xi dS i ax;have b{G}(h:G:=by
   have aW:(i:Int)<(e.length:Int):=Pv;obtain⟨x,D⟩:=xE (e[i]);rw[<-D] at bQ;have d:=Y D;obtain⟨bP,al⟩:=xE (j8 B e i g);rw[<-al] at A;have cg:Sz (aH+i) bP:=by rw[al];exact Sz.j8 B e i dC Pv
   have a:=aqu A cg Pv B x;have f:=Y al;obtain⟨bb,bA,bv,br,_,bz⟩:=fV bE.out;clear D al;go_wp2_with fail;refine cm a ?_;rintro j bL ⟨rfl,ce,r⟩;have c8:=ce;have da:=aJ.Yw r;have cY:=Y (r.rest _ _ _ bE.out PK);have dc:=Y (r.rest _ _ _ ae.out PK);have u:=Qa dS r PK;have dd:Kp w2 bL:=λO m j ad p=>Qv.kp r O m j (ak O m j ad p) p;clear bb bA bv br bz bQ;go_wp2_with fail;refine⟨⟨i+1,by omega,by go_num,?_,da,cY.out,dc.out,u,dd⟩,by simp[intOf];omega⟩
   rw[Dz B e i g ax,<-d.out,<-f.out];exact c8):=Pq h;exact Vt
  ·have b{G}(h:G:=by
   obtain⟨bK,b6⟩:=xE (j8 B e e.length g);rw[<-b6] at A cR;have cQ:Sz (aH+3000) bK:=by rw[b6];exact(Sz.j8 B e e.length dC Qq).up Pv
   have eE:=Pj cx wr (Rl.kp ak _ bN.at_);have ei:Hid ((bK.M.ro F).isSome=true):=Po.some (p:=⟨F,B,C⟩) ⟨dQ.1,by rw[b6,Mg];exact dQ.2⟩
   clear b6;go_wp2_with fail;refine cm eE ?_;rintro j dD ⟨⟨u4,rfl,eM⟩,bG⟩;obtain⟨fq,fp,ej⟩:=eM.form;subst ej;have bH:=A.fQ bG;have dK:=aJ.trans (Td.of bG (Qe bZ));have cH:=Y (fZ bG bE.out);have dN:=Y (fZ bG ae.out);have dR:Kp w2 dD:=λO m j ad p=>Kp.of bG O m j (ak O m j ad p) p;have fl:=bH.lt
   by_cases dO:0<cS.length
   ·have bI:(cX.length:Int) > 0:=Pv;obtain⟨a,aR⟩:=xE (bK.gu:Int);obtain⟨cU,b8⟩:=xE (bK.gv F (-1) (-3));obtain⟨u,af⟩:=xE (Q5 (Qi o.2) a cU);have dV:Hid (dT=(⟨a,B,C⟩,iS ⟨a,B,C⟩ q q.length u)):=by
     show _=_
     rw[cR.out,fY dO,af,b8,aR,<-bJ.out]
    have dG:=pq bH cQ Pv F (-1) (-3) ei.out;rw[<-aR,<-b8] at dG;have dv:Sz (aH+3001) cU:=by rw[b8];exact cQ.gv _ _ _
    have dZ:Sz (aH+5000) u:=by
     show Sz _ _
     rw[af];refine(dv.lets (Qi o.2) a).up ?_;rw[<-bJ.out];omega
    have dU:=Y (λt eJ cZ (c:Mx U k M z bo bn eJ cZ t cU) (eT:Qc z t I o)=>rA c dv eT Pv Pv a);rw[<-af,<-dE.out] at dU;obtain⟨bb,bA,bv,br,aT,bz⟩:=fV cH.out;clear aR b8 af;go_wp2_with fail;refine cm dG ?_;rintro j cy ⟨rfl,eW,eQ,cC⟩;have ds:=cC.jy (L:=none) bH;have eK:=dK.trans cC;have cG:=Y (ds.f2 cH.out PK);have eL:=Y (ds.f2 dN.out PK);have eR:Kp w2 cy:=λO m j ad p=>cC.kp bH O m j (dR O m j ad p) p;clear bb bA bv br aT bz
    obtain⟨bb,bA,bv,br,aT,bz⟩:=fV cG.out;have eS:=aT 0;clear aT;go_wp2_with fail;have eO:k<=H:=Pv;have cw:=WH (a:=0) cG.out eO (Ph a);obtain⟨dl,cE⟩:=xE (cy.setCell (Pn H 0) (Ph a));have cJ:=eQ.ZR cw PK;have cr:=ZI cG.out (Ph a);have eN:Hid (dl.heap[N]?=some (Qb #[Ph 0,Ph 0,PD false,Rz] 73)):=by
     show _=_
     rw[cE,gY _ _ _ _ (hV eG)];exact Pj eL
    have cK:=eK.new cw (tN eD _);have cL:Kp w2 (cy.setCell (Pn H 0) (Ph a)):=λO m j ad p=>cw.rest O m j (eR O m j ad p) (by rcases p with rfl|rfl <;> decide);rw[<-cE] at cJ cr cK cL ⊢;have eP:=Y cr;clear cE cr bb bA bv br eS bz;have fs:=cJ.lt;refine cm (Pj dU dl _ _ cJ (bN.kp cL)) ?_;rintro j ap ⟨rfl,cT,b7⟩;obtain⟨a8,aU⟩:=xE eW;rw[<-aU] at cT cK;have bS:=cT;have dq:=cK.Yw b7;have dp:=Y (b7.rest _ _ _ eP.out PK);have dm:=Y (b7.rest _ _ _ eN.out PK)
    have bR:Kp w2 ap:=λO m j ad p=>Qv.kp b7 O m j (cL O m j ad p) p;have dr:=cT.lt;clear aU;exact Ay
   ·have bI:¬ (cX.length:Int) > 0:=Pv;obtain⟨a,aR⟩:=xE (F:Int);obtain⟨u,af⟩:=xE bK;obtain⟨ap,aT⟩:=xE dD;obtain⟨a8,aU⟩:=xE bm;have dV:Hid (dT=(⟨a,B,C⟩,iS ⟨a,B,C⟩ q q.length u)):=by
     show _=_
     rw[cR.out,fT dO,af,aR]
    have dZ:Sz (aH+5000) u:=by show Sz _ _;rw[af];exact cQ.up Pv
    have bS:Mx U k M z bo bn a8 a6 ap u:=by show Mx _ _ _ _ _ _ _ _ _ _;rw[aU,aT,af];exact bH
    have dq:Td k bm a6 a8 a6 w ap:=by show Td _ _ _ _ _ _ _;rw[aU,aT];exact dK
    have dp:Hid (ap.heap[H]?=some (Qb #[Ph a,Ph B,PD C,.pointer n] 73)):=by show _=_;rw[aT,aR];exact Pj cH
    have dm:Hid (ap.heap[N]?=some (Qb #[Ph 0,Ph 0,PD false,Rz] 73)):=by show _=_;rw[aT];exact Pj dN
    have bR:Kp w2 ap:=by show Kp _ _;rw[aT];exact dR
    have dr:=bS.lt;rw[<-aT];clear aR af aT aU;exact Ay):=Pq h;exact tz):=Pq h;exact wR):=Pq h;exact jA
def re (a:Er)(b:Option Va)(g:St):(Va×Er)×St:=match a with
 |.no=>((b.getD vU,.no),g)
 |a=>((vU,a),g)
section
variable {a:Nat}{x y d e:PO}{c:TypeId}(h:w.heap[a]?=some (Qb #[x,y,d,e] c))(b:PO)
include a x y d e c h b
theorem auQ:(w.setCell (Pn a 3) b).heap[a]?=some (Qb #[x,y,d,b] c):=hs w a 3 _ c b h
theorem zp:(w.setCell (Pn a 2) b).heap[a]?=some (Qb #[x,y,b,e] c):=hs w a 2 _ c b h
theorem S6:(w.setCell (Pn a 1) b).heap[a]?=some (Qb #[x,b,d,e] c):=hs w a 1 _ c b h
end
section
variable (au:ip aE)(cg:Mx U k M z bo bn bm a6 w g)(dx:Sz aH g)(d9:aH+10000<1000000000){I:Ad}{a:Nd}(aQ:Qc z w I a)(dS:a.2.count<=1500)(aL:∀i ∈ TK a,i.2.fS.length=2)(e n:Int)(F:Option Addr)(dz:0<=e/\e<g.M.PL.length){aO:(Va×Er)×St}(dp:Pl->St->Prop)(aI:dp ⟨g.gu,g.gu,true⟩ (g.gv e (-1) (-3)))(cR:∀t ay (f:Nat)(ck:Pl)(cj:St),k<=f->dp ck cj->Ms U k M z t (P5 a ck cj).2->Uk 0 t ay I.ks->U7 z t I.ks (QA a)->P9 t (some f) (some vU)->PN 28 #[Pm k,ay,QN (P5 a ck cj).1 (LA (some f))] t (QU U k M z aE (some f) t (Ti X (P5 a ck cj).1 (QA a) (some vU) (P5 a ck cj).2)))(ax:aO=re (Ti X (P5 a ⟨g.gu,g.gu,true⟩ (g.gv e (-1) (-3))).1 (QA a) (some vU) (P5 a ⟨g.gu,g.gu,true⟩ (g.gv e (-1) (-3))).2).1.2.1 (Ti X (P5 a ⟨g.gu,g.gu,true⟩ (g.gv e (-1) (-3))).1 (QA a) (some vU) (P5 a ⟨g.gu,g.gu,true⟩ (g.gv e (-1) (-3))).2).1.2.2 (Ti X (P5 a ⟨g.gu,g.gu,true⟩ (g.gv e (-1) (-3))).1 (QA a) (some vU) (P5 a ⟨g.gu,g.gu,true⟩ (g.gv e (-1) (-3))).2).2)
include au cg dx d9 I a aQ dS aL e n F dz aO dp aI cR ax
theorem Vv :
  PN 322 #[Pm k,Pm I.p,QN ⟨e,n,true⟩ F] w (Qg U k M z aE w aO):=by
 have aW:=cg.lt;obtain⟨L,cz⟩:=xH ((w.alloc (.cells #[Ph e,Ph n,PD true,.pointer F] 73)).alloc (.cells #[Ph 0,Ph 0,QB] 65));have b{G}(h:G:=by
 have cB:L.heap[H]?=some (Qb #[Ph e,Ph n,PD true,.pointer F] 73):=by rw[cz.out,bx];exact f8 (Pz _ _)
 have cC:L.heap[N]?=some (Qb #[Ph 0,Ph 0,QB] 65):=by
  rw[cz.out,bq,show w.heap.size+1=(w.alloc (.cells #[Ph e,Ph n,PD true,.pointer F] 73)).heap.size by simp];exact Pz _ _
 have b{G}(h:G:=by
 have b{G}(h:G:=by
 have dH:=Y cR;have a8:=Y bI;have bQ:=cH.lt;have b{G}(h:G:=by
 obtain⟨aK,bv⟩:=xE L;have cL:Mx U k M z bo bn bm a6 aK g:=by show Mx _ _ _ _ _ _ _ _ _ _;rw[bv];exact cH
 have dP:Hid (aK.heap[H]?=some (Qb #[Ph e,Ph n,PD true,.pointer F] 73)):=by show _=_;rw[bv];exact Pj b7
 have db:Hid (aK.heap[N]?=some (Qb #[Ph 0,Ph 0,QB] 65)):=by show _=_;rw[bv];exact Pj dX
 have dc:Qj none k w aK:=by show Qj _ _ _ _;rw[bv];exact dY
 have cG:Kp L aK:=λO m j ad _=>by rw[bv];exact ad
 rw[<-bv];clear bx bq bv;exact G0):=Pq h;exact Gq):=Pq h;exact sj):=Pq h;exact oS):=Pq h;exact tV
theorem aqx (b1:PU a.2=true) :
  PN 322 #[Pm k,Pm I.p,QN ⟨e,n,false⟩ F] w (Qg U k M z aE w aO):=by
 have b{G}(h:G:=by
 have b{G}(h:G:=by
 have b{G}(h:G:=by
 have b{G}(h:G:=by
 have b{G}(h:G:=by
 have dH:=Y cR;have b{G}(h:G:=by
 clear b1;have b{G}(h:G:=by
 have cx{G}(h:G:=by
 have bQ:=WH (a:=2) b7.out br (PD true);have df:=zp b7.out (PD true);obtain⟨aK,bv⟩:=xE (L.setCell (Pn H 2) (PD true));rw[<-bv] at bQ df ⊢;have cL:=cH.ZR bQ PK;have dP:=Y df;have cx{G}(h:G:=by
 clear bv df bS bY bW bU dq bX;exact G0):=Pq h;exact z8):=Pq h;exact DP):=Pq h;exact Gq):=Pq h;exact wN):=Pq h;exact sj):=Pq h;exact oS):=Pq h;exact vW):=Pq h;exact tV):=Pq h;exact uL
end
theorem aqy (cg:Mx U k M z bo bn bm a6 w g)(D:Sz aH g)(aR:aH+10000<1000000000){I:Ad}{a:Nd}(aQ:Qc z w I a)(E:a.2.count<=1500)(e n:Int)(F:Option Addr)(f:0<=e/\e<g.M.PL.length){l:(Va×Er)×St}(o:l=((vU,ga Vd),g))(b1:PU a.2=false)(q:hidden g.M a.2 ⟨e,n,false⟩=true) :
  PN 322 #[Pm k,Pm I.p,QN ⟨e,n,false⟩ F] w (Qg U k M z aE w l):=by
 have b{G}(h:G:=by
 have b{G}(h:G:=by
 have b{G}(h:G:=by
 have b{G}(h:G:=by
 have b{G}(h:G:=by
 have b{G}(h:G:=by
 have A:=Y (λt (ak:Ms U k M z t g) (c:Qc z t I a)=>Cf ak D Pv c E ⟨e,n,false⟩ F f);rw[q,<-al.out] at A;have ah:=Y o;rw[<-al.out];clear cB cC o f b1 q;have b{G}(h:G:=by
 refine cm (Pj A aK ⟨_,_,_,_,ci⟩ (ce.kp cG)) ?_;rintro j ae ⟨rfl,d⟩;have S:=Y (fZ d db.out);have u:Ms U k M z ae g:=⟨_,_,_,_,ci.fQ d⟩;have af:=dc.trans (Qj.of (L:=none) d (Qe dx));have r:=u.lt;clear bv ck bS bY bW bU dq bX;go_wp2_with fail;refine cm (VI (es:=aE) r Vd) ?_;rintro j aO ⟨⟨p,rfl,B⟩,c⟩;have bE:=Y (fZ c S.out);have dD:=u.fQ c;have cq:=af.trans (Qj.of (L:=none) c (Qe r));obtain⟨aM,au,ax,aD,aI,aL,aT⟩:=Ql bE.out
 have b{G}(h:G:=by
 refine yU ?_;rw[ah.out];exact⟨⟨_,rfl,B.RP b8 PK⟩,be,bR⟩):=Pq h;exact wc):=Pq h;exact Jy):=Pq h;exact wN):=Pq h;exact sj):=Pq h;exact oS):=Pq h;exact vW):=Pq h;exact tV):=Pq h;exact uL
theorem aqz (au:ip aE)(cg:Mx U k M z bo bn bm a6 w g)(cL:Sz aH g)(dM:aH+10000<1000000000){I:Ad}{a:Nd}(aQ:Qc z w I a)(cP:a.2.count<=1500)(aL:∀i ∈ TK a,i.2.fS.length=2)(e n:Int)(F:Option Addr)(cK:0<=e/\e<g.M.PL.length){aO:(Va×Er)×St}(dh:Pl->St->Prop)(aI:dh ⟨e,n,false⟩ g)(cQ:∀t ay (f:Nat)(c:Pl)(b:St),k<=f->dh c b->Ms U k M z t (P5 a c b).2->Uk 0 t ay I.ks->U7 z t I.ks (QA a)->P9 t (some f) (some vU)->PN 28 #[Pm k,ay,QN (P5 a c b).1 (LA (some f))] t (QU U k M z aE (some f) t (Ti X (P5 a c b).1 (QA a) (some vU) (P5 a c b).2)))(ax:aO=re (Ti X (P5 a ⟨e,n,false⟩ (g)).1 (QA a) (some vU) (P5 a ⟨e,n,false⟩ (g)).2).1.2.1 (Ti X (P5 a ⟨e,n,false⟩ (g)).1 (QA a) (some vU) (P5 a ⟨e,n,false⟩ (g)).2).1.2.2 (Ti X (P5 a ⟨e,n,false⟩ (g)).1 (QA a) (some vU) (P5 a ⟨e,n,false⟩ (g)).2).2)(b1:PU a.2=false)(cR:hidden g.M a.2 ⟨e,n,false⟩=false) :
  PN 322 #[Pm k,Pm I.p,QN ⟨e,n,false⟩ F] w (Qg U k M z aE w aO):=by
 have b{G}(h:G:=by
 have b{G}(h:G:=by
 have b{G}(h:G:=by
 have b{G}(h:G:=by
 have b{G}(h:G:=by
 have dz:=Y cQ;have b{G}(h:G:=by
 have dp:=Y (λt (ak:Ms U k M z t g) (c:Qc z t I a)=>Cf ak cL Pv c cP ⟨e,n,false⟩ F cK);rw[cR,<-al.out] at dp;have dC:=Y ax;have dj:=Y aI;obtain⟨bJ,cn⟩:=xH g;have dG:Sz (aH+1) bJ:=by show Sz _ _;rw[cn.out];exact cL.up Pv
 rw[<-cn.out] at dj dC cK;rw[<-al.out];clear cB cC ax b1 cR cQ aI;have b{G}(h:G:=by
 have dH:=Y ck;refine cm (Pj dp aK ⟨_,_,_,_,ci⟩ (ce.kp cG)) ?_;rintro j bE ⟨rfl,b8⟩;have cZ:Mx U k M z bo bn bm a6 bE bJ:=by show Mx _ _ _ _ _ _ _ _ _ _;rw[cn.out];exact ci.fQ b8
 have cX:=Y (fZ b8 dH.out);have du:=Y (fZ b8 db.out);have cY:=dc.trans (Qj.of (L:=none) b8 (Qe dx));have dv:Kp L bE:=λO m j ad s=>Kp.of b8 O m j (cG O m j ad s) s;clear bv ck bS bY bW bU dq bX br;obtain⟨bS,bY,bW,bU,a7,bX⟩:=fV cX.out;have dJ:=a7 3;clear a7;go_wp2_with fail;have b{G}(h:G:=by
 clear b5 cr dr da dt cT cU bS bY bW bU dJ bX;have cj:=ce.kp dV;obtain⟨o,bG,bb,dg⟩:=cj.ar;obtain⟨bH,df⟩:=xE a.2.fS.length;rw[<-df] at bb dg;rw[<-al.out] at bb;obtain⟨dK,bP⟩:=xE ((P5 a ⟨e,n,false⟩ bJ).1);obtain⟨bR,be⟩:=xE ((P5 a ⟨e,n,false⟩ bJ).2);have cy:=Y (λt (B:PG c t)=>Ia (cE.fQ B) dG Pv (cj.kp (Kp.of B)) cP aL ⟨e,n,false⟩ (some (Pn f 0)) cK);rw[<-bP,<-be,<-al.out] at cy
 rcases cp:Ti X dK (QA a) (some vU) bR with ⟨⟨q,u,b6⟩,b2⟩
 have dd:=Y (λt (ak:Ms U k M z t bR) (d:Kp c t) (ba:P9 t (some f) (some vU))=>Pj dz t (.slice o bH bG) f ⟨e,n,false⟩ bJ dU dj.out (by rw[<-be];exact ak) (dg.kp d) (U7.kp d _ _ cj.l8) ba)
 have b{G}(h:G:=by
 have dm:∃m,c.heap[C]?=some (Qb m 40):=by
  have ah:=cj.at_;rw[al.out];exact wq
 have di:=Y dm;clear bb df cp dm bP be;have E:c.drew.heap[H]?=some (Qb #[Ph e,Ph n,PD false,PZ f 0] 73)/\c.drew.cell? (Pn C 3)=some (.slice o bH bG):=⟨fZ (gi c.heap.size c).drew bF.out,PV (gi c.heap.size c).drew bD.out⟩;refine WY (H:=λwz D p=>SB U k M z aE (some f) c q u b6 b2 wz D p) (G:=?GG) (λaT=>?ways) ?rest
 case ways=>
  have ap:PG c c.drew:=RV.drew;refine Qd 9 (λt=>t.heap[H]?=some (Qb #[Ph e,Ph n,PD false,PZ f 0] 73)/\t.cell? (Pn C 3)=some (.slice o bH bG)) Qz ?_;refine up 0 k 0 E ?_;refine up 1 C 0 E ?_;refine up 2 C 0 E ?_;refine up 3 C 3 E ?_;refine uc 4 (.slice o bH bG) rfl (fU ⟨by kernel_rfl,λt B=>by have aD:=B.2;go_simp⟩) (E) ?_
  refine up 5 k 0 E ?_;refine up 6 C 0 E ?_;refine uc 7 (.agg #[Ph e,Ph n,PD false,PZ f 0]) rfl (fU ⟨by kernel_rfl,λt B=>by have aD:=(fV B.1).1;have ah:=(fV B.1).2.1;have aL:=(fV B.1).2.2.1;have c8:=(fV B.1).2.2.2.1;go_simp⟩) (E) ?_
  refine jZ 8 13 (λK d=>?_) λK d=>?_
  ·have b{G}(h:G:=by
   have af:r.heap[H]?=some (Qb #[Ph e,Ph n,PD false,PZ f 0] 73)/\r.cell? (Pn C 3)=some (.slice o bH bG):=⟨a1.f2 (fZ ap bF.out) PK,by
    obtain⟨m,ad⟩:=Pj di;exact(aX.kp aJ).YV (PV ap bD.out) ⟨m,fZ ap ad⟩⟩
   have b{G}(h:G:=by
   refine jZ 9 13 (λK d=>?_) λK d=>?_
   ·have b{G}(h:G:=by
    refine rO ?_;refine VH 13 ?_;refine r6 ?_;have ae:=SB.late (w2:=c) (o:=q) aI bz (bh.trans bf) bA;exact rb):=Pq h;go_simp;exact xw
   ·go_simp;exact Ag):=Pq h;exact C0):=Pq h;go_simp;exact Kl
  ·go_simp;have A:PG c (c.drew.alloc (.cells #[PD false,Ph 0,Ph 0,QB] 67)):=RV.drew.alloc Qh _;have c8:(c.drew.alloc (.cells #[PD false,Ph 0,Ph 0,QB] 67)).heap[H]?=some (Qb #[Ph e,Ph n,PD false,PZ f 0] 73)/\(c.drew.alloc (.cells #[PD false,Ph 0,Ph 0,QB] 67)).cell? (Pn C 3)=some (.slice o bH bG):=⟨fZ A bF.out,PV A bD.out⟩;have b{G}(h:G:=by
   have af:r.heap[H]?=some (Qb #[Ph e,Ph n,PD false,PZ f 0] 73)/\r.cell? (Pn C 3)=some (.slice o bH bG):=⟨a1.f2 (fZ A bF.out) PK,by
    obtain⟨m,ad⟩:=Pj di;exact(aX.kp aJ).YV (PV A bD.out) ⟨m,fZ A ad⟩⟩
   exact EC):=Pq h;exact D2
 case rest=>
  have b{G}(h:G:=by
  by_cases s:u=.no
  ·exact Dv
  ·obtain⟨bL,bN,ax⟩:=A.X8 s au;subst ax;have d:aO=((vU,u),b2):=by
    rw[dD.out];exact kc
   exact Fy):=Pq h;exact ED):=Pq h;exact Co):=Pq h;exact D9):=Pq h;exact Jy):=Pq h;exact wN):=Pq h;exact sj):=Pq h;exact oS):=Pq h;exact vW):=Pq h;exact tV):=Pq h;exact uL
def jD (b:Nd)(a:Pl)(g:St):Option (Pl×St):=
 if (!(a.f3||PU b.2)&&hidden g.M b.2 { a with f3:=a.f3||PU b.2 })=true then none else
  some (if (a.f3||PU b.2)=true then (⟨g.gu,g.gu,true⟩,g.gv a.scope (-1) (-3)) else ({ a with f3:=a.f3||PU b.2 },g))
theorem anO (a:Nd)(c:Pl)(g:St):X6 X a c g=match jD a c g with
  |none=>((vU,ga Vd),g)
  |some b=>re (Ti X (P5 a b.1 b.2).1 (QA a) (some vU) (P5 a b.1 b.2).2).1.2.1 (Ti X (P5 a b.1 b.2).1 (QA a) (some vU) (P5 a b.1 b.2).2).1.2.2 (Ti X (P5 a b.1 b.2).1 (QA a) (some vU) (P5 a b.1 b.2).2).2:=by
 unfold X6 jD;simp only
 split
 ·rfl
 ·simp only
  generalize Ti X _ (QA a) (some vU) _=d
  unfold re
  rcases d with ⟨⟨i,b,e⟩,f⟩
  cases b <;> rfl
theorem On (C:ip aE)(q:Mx U k M z bo bn bm a6 w g)(p:Sz aH g)(v:aH+10000<1000000000){m:Ad}{a:Nd}(A:Qc z w m a)(r:a.2.count<=1500)(B:∀d ∈ TK a,d.2.fS.length=2)(l:Pl)(o:Option Addr)(s:0<=l.scope/\l.scope<g.M.PL.length)(H:∀c b,jD a l g=some (c,b)->∀e ay (i:Nat),k<=i->Ms U k M z e (P5 a c b).2->Uk 0 e ay m.ks->U7 z e m.ks (QA a)->P9 e (some i) (some vU)->PN 28 #[Pm k,ay,QN (P5 a c b).1 (LA (some i))] e (QU U k M z aE (some i) e (Ti X (P5 a c b).1 (QA a) (some vU) (P5 a c b).2))) :
  PN 322 #[Pm k,Pm m.p,QN l o] w (Qg U k M z aE w (X6 X a l g)):=by
 have t:=anO (X:=X) a l g;have D:∀e ay (i:Nat)(c:Pl)(b:St),k<=i->jD a l g=some (c,b)->Ms U k M z e (P5 a c b).2->Uk 0 e ay m.ks->U7 z e m.ks (QA a)->P9 e (some i) (some vU)->PN 28 #[Pm k,ay,QN (P5 a c b).1 (LA (some i))] e (QU U k M z aE (some i) e (Ti X (P5 a c b).1 (QA a) (some vU) (P5 a c b).2)):=λe ay i c b F h=>H c b h e ay i F;obtain⟨d,f,I⟩:=l
 cases I with
 |true=>
  have j:jD a ⟨d,f,true⟩ g=some (⟨g.gu,g.gu,true⟩,g.gv d (-1) (-3)):=rfl;refine Vv C q p v A r B d f o s (λc b=>jD a ⟨d,f,true⟩ g=some (c,b)) j D ?_;rw[t,j]
 |false=>
  cases n:PU a.2 with
  |true=>
   have j:jD a ⟨d,f,false⟩ g=some (⟨g.gu,g.gu,true⟩,g.gv d (-1) (-3)):=by unfold jD;rw[n];rfl
   refine aqx C q p v A r B d f o s (λc b=>jD a ⟨d,f,false⟩ g=some (c,b)) j D ?_ n;rw[t,j]
  |false=>
   cases u:hidden g.M a.2 ⟨d,f,false⟩ with
   |true=>
    have j:jD a ⟨d,f,false⟩ g=none:=by unfold jD;rw[n];exact fY u
    refine aqy q p v A r d f o s ?_ n u;rw[t,j]
   |false=>
    have j:jD a ⟨d,f,false⟩ g=some (⟨d,f,false⟩,g):=by
     unfold jD;rw[n];refine(fT (λh=>?_)).trans rfl;have E:hidden g.M a.2 ⟨d,f,false⟩=true:=h;rw[u] at E;cases E
    refine aqz C q p v A r B d f o s (λc b=>jD a ⟨d,f,false⟩ g=some (c,b)) j D ?_ n u;rw[t,j]
def j1 (X:Fx)(b:PS)(a:Pl)(g:St):(Va×Er)×St:=match j5 b a.f3 with
 |some c=>X6 X (none,c) a g
 |none=>((vU,ga Vd),g)
theorem aqB {d:Tr}{c:Nat}(e:Bs U k M z aE)(q:k<=w.heap.size)(h:QT (gz w.heap.size) w' d c):∃a:Ad,a.p=c/\Qc z w' a (none,d):=by
 obtain⟨a,p,i,l,_,m⟩:=QT.ad d c h;refine⟨a,i,Rl.mono (λ_ _ _=>trivial) _ l,p,λb f n=>?_⟩;have r:w.heap.size<=b:=m b f;obtain⟨s,t,j⟩:=e.an b n;have o:=fR j;rw[e.sz] at o;omega
theorem Jh:WU 320:=λ_ _=>by kernel_rfl
theorem JN (au:ip aE)(bG:Bs U k M z aE)(cB:Gl U)(bH:Mx U k M z bo bn bm a6 w g)(ce:Sz aH g)(L:aH+10000<1000000000)(i n:Int)(c:Bool)(bI:Option Addr)(q:0<=i/\i<g.M.PL.length){v:Va}{aY:List Va}{aX bv bS:Nat}(bK:w.heap[aX]?=some (Qb #[Pm k] 62))(b1:w.heap[bv]?=some (Qb #[Ph i,Ph n,PD c,.pointer bI] 73))(a7:w.heap[bS]?=some (Qb #[ay] 311))(T:U9 w ay (v::aY))(aT:∀bz,j5 v.s c=some bz->∀(I:Ad) cG bT,jD (none,bz) ⟨i,n,c⟩ g=some (cG,bT)->∀t ay (a:Nat),k<=a->Ms U k M z t (P5 (none,bz) cG bT).2->Uk 0 t ay I.ks->U7 z t I.ks (QA (none,bz))->P9 t (some a) (some vU)->PN 28 #[Pm k,ay,QN (P5 (none,bz) cG bT).1 (LA (some a))] t (QU U k M z aE (some a) t (Ti X (P5 (none,bz) cG bT).1 (QA (none,bz)) (some vU) (P5 (none,bz) cG bT).2))) :
  PN 320 #[PZ bS 0,PZ bv 0,PZ aX 0] w (Qg U k M z aE w (j1 X v.s ⟨i,n,c⟩ g)):=by
 have aW:=bH.lt;have b6:=L;have b{G}(h:G:=by
 obtain⟨A,aO⟩:=xE v.s;have s:=bH.fQ o;have bL:=Y aI;have bW:=Y (fZ o bK);have br:=Y (fZ o b1);have bN:=Qj.of (L:=none) o (Qe aW);have D:=Y (λt (f:PG bx t)=>akE (aE:=aE) v.s c t (Gl.ms cB bG ⟨_,_,_,_,s.fQ f⟩));obtain⟨b2,b5,cX,b7,cY,bQ,bD,F⟩:=(T.fQ o).cells (i:=0) rfl;rw[jn,jM] at bQ bD F;subst b7;rw[<-aO] at F D;obtain⟨cx,u⟩:=xH (j5 A c);rw[<-u.out] at D;obtain⟨aR,bb⟩:=xH (j1 X A ⟨i,n,c⟩ g);rw[<-aO] at aT ⊢
 rw[<-bb.out];have ci:=Y aT;have cP:=Y F;have cQ:=Y (oy (fZ o a7));have cL:=Y (fV br.out);have a8:=Y ax;have bP:=s.lt;have cS:=fR (fZ o a7);have cT:=fR br.out;have cJ:=Y q;clear aI ax aO bK b1 a7 bQ bD F aT q;go_enter func320,ntmps320;go_wp2_with fail;rw[<-al.out,<-C];clear C
 cases cx with
 |none=>
  have r:aR=((vU,ga Vd),g):=by
   rw[bb.out];unfold j1
   show (match j5 A c with|some bz=>_|none=>_)=_
   rw[<-u.out]
  have aU:=Y r;clear r;refine UG 6 λa=>?_;refine ES ?_;refine QX 6 λK d=>?_;go_simp;refine cm (Pj D _ a) ?_;rintro j bF ⟨bq,p,rfl,aK⟩;refine ko d ?_;clear d K;have e:=a.trans (bq.mono a.size);have bE:=Y (fZ e bL.out);have dD:Ms U k M z bF g:=⟨_,_,_,_,s.fQ e⟩;have cq:=bN.trans (Qj.of (L:=none) e (Qe bP));obtain⟨H,E,bJ⟩:=aK.X8 Qh au;subst bJ;have ae:=aK;refine uz 7 (.tuple #[Rz,.iface H E]) ?_;refine uz 8 Rz ?_;refine uz 9 (.iface H E) ?_;refine uz 10 Rz ?_
  refine uz 11 (.iface H E) ?_;refine Ud ?_ _;go_simp;obtain⟨cj,bU,bX,bY,bZ,cg,ck⟩:=Ql bE.out;have b{G}(h:G:=by
  rw[<-a1];refine ng (v:=.tuple #[vA vU,.iface H E]) ?_;rw[aU.out];exact⟨⟨_,rfl,ae.RP b8 PK⟩,be,bR⟩):=Pq h;exact wc
 |some bz=>
  have r:aR=X6 X (none,bz) ⟨i,n,c⟩ g:=by
   rw[bb.out];unfold j1
   show (match j5 A c with|some bz=>_|none=>_)=_
   rw[<-u.out]
  have aU:=Y r;have bY:Nk 9 bz:=by
   have h:=Pj u;unfold j5 at h
   cases q:Tj RS Rq A with
   |ok cj=>
    rw[q] at h;simp only at h
    cases af:hD cj c false false with
    |none=>rw[af] at h;cases h;exact Y5 q af
    |some j=>rw[af] at h;cases h
   |_=>rw[q] at h;cases h
  have cy:=bY.bk Pv;have cz:bz.count<=1500:=bY.ct;have aL:∀B ∈ TK ((none,bz):Nd),B.2.fS.length=2:=λB af=>by
   obtain⟨dd,cZ,cU,bZ,aX,cj,_⟩:=(o5 (b:=(none,bz)) cy B af).sh;rw[cj];rfl
  have cC:=Y aL;clear r aL;refine UG 6 λa=>?_;refine ES ?_;refine QX 6 λK d=>?_;go_simp;refine cm (Pj D _ a) ?_;rintro j bF ⟨bq,E,rfl,L⟩;refine ko d ?_;clear d K;have e:=a.trans (bq.mono a.size);obtain⟨I,bJ,cH⟩:=aqB bG (Qe ((s.fQ a).lt)) L;have bE:=Y (fZ e bL.out);have cK:=s.fQ e;have cq:=bN.trans (Qj.of (L:=none) e (Qe bP));have cp:=oy (fZ e bW.out);have cr:=fR (fZ e bW.out);obtain⟨cg,bZ,cn,ck,_,cw⟩:=fV (fZ e br.out)
  have bX:=On au cK ce b6 cH cz cC.out ⟨i,n,c⟩ bI cJ.out (Pj ci bz u.out.symm I);rw[<-aU.out,bJ] at bX;clear L bJ;refine uz 7 (.tuple #[PZ E 0,RI]) ?_;refine uz 8 (PZ E 0) ?_;refine uz 9 RI ?_;refine uz 10 (PZ E 0) ?_;refine uz 11 RI ?_;refine Ud ?_ _;go_simp;go_wp2_with fail;refine cm bX ?_;rintro j df ⟨⟨p,rfl,aK⟩,ak,ap⟩;have bU:=Y (ap.f2 bE.out PK);have cE:=cq.trans ap;obtain⟨H,ae⟩:=xH aR.1.1;rw[<-ae.out];clear cp cg bZ cn ck cw cr;obtain⟨u0,u1,u2,da,db,dc,de⟩:=Ql bU.out
  go_wp2_with fail;obtain⟨bh,a1,b8,bR,be,bA,bf,bi⟩:=i1 bU.out a8.out aW cE ak (Ph H.k) (Ph H.n) (PI H.s);exact wm):=Pq h;exact II
def qm (a:Tr)(b:Pl):Pl:=if a.kd≠23\/a.tx≠TQ then ⟨1,0,false⟩ else b
theorem aqD (b:Tr)(c:Pl)(a:Va)(more:List Va)(g:St):Yp X b c (a::more) g=if a.k≠4 then ((a,.no),g) else within g (j1 X a.s (qm b c)):=by
 unfold Yp qm;simp only
 split
 ·rfl
 ·congr 1
  funext g
  unfold j1 j5
  cases Tj RS Rq a.s with
  |ok d=>
   simp only
   cases hD d _ false false with
   |none=>rfl
   |some e=>rfl
  |_=>rfl
section
variable (D:Mx U k M z bo bn bm a6 w g){b:Ad}(d:Pl)(c:Option Addr)
include D b d c
theorem UI (T:U9 w ay []) :
  PN 300 #[Pm k,Pm b.p,QN d c,ay] w (Qg U k M z aE w ((vU,.no),g)):=by
 have H:=X9;have l:=D.lt;obtain⟨o,n,q⟩:=d;obtain⟨bb,s,i⟩:=T.form;subst i;obtain⟨a,E⟩:=xE (List.length ([]:List Va));have A{G}(h:G:=by
 have m:=Y bD;have p:=Qj.of (L:=none) ba (Qe l);have t:Ms U k M z r g:=⟨_,_,_,_,C⟩;have j:=Y B;have u:=Y al;obtain⟨L,f⟩:=xE b.p;have F:a=0:=E;subst F;rw[<-f];clear B bD ck cn cY bx bF bE al bP bS bQ f E;go_enter func300,ntmps300;go_wp2_with fail;rw[<-j.out,<-u.out];obtain⟨bA,bf,bi,_,_⟩:=f7 m.out;refine ng (v:=.tuple #[vA vU,RI]) ?_;exact⟨⟨_,rfl,rfl⟩,t,p⟩):=Pq h;exact Dj
theorem Oj {v:Va}{aY:List Va}(T:U9 w ay (v::aY))(O:v.k≠4) :
  PN 300 #[Pm k,Pm b.p,QN d c,ay] w (Qg U k M z aE w ((v,.no),g)):=by
 have aJ:=X9;have j:=D.lt;obtain⟨o,n,q⟩:=d;obtain⟨bb,s,ax⟩:=T.form;subst ax;obtain⟨a,E⟩:=xE (List.length (v::aY));have A{G}(h:G:=by
 have ak:=Qj.of (L:=none) ba (Qe j);have ap:Ms U k M z r g:=⟨_,_,_,_,C⟩;have ae:=Y al;obtain⟨aK,i⟩:=xE b.p;have aL:a≠0:=by rw[E];simp
 have aM:¬ (a:Int)=0:=Pv;have aO:(0:Int)<(a:Int):=Pv;obtain⟨u,t,au,ax,aD,ad,F,af⟩:=T.cells (i:=0) rfl;rw[jn,jM] at ad F af;have bv{G}(h:G:=by
 rw[<-i];have aI:(v.k==4)=false:=gT.2 O;obtain⟨l,f⟩:=xE ((((w.alloc (.cells #[Pm k] 62)).alloc (.cells #[Ph o,Ph n,PD q,.pointer c] 73)).alloc (.cells #[.slice (some (Pn u t)) a s] 311)).alloc (.cells #[Ph v.k,Ph v.n,PI v.s] 65));have S:=D;clear B bD ck cn cY bx bF bE bP bS bQ i E;have p:l.heap[N]?=some (ZT v):=by
  rw[f,al,show w.heap.size+1+1+1=(((w.alloc (.cells #[Pm k] 62)).alloc (.cells #[Ph o,Ph n,PD q,.pointer c] 73)).alloc (.cells #[.slice (some (Pn u t)) a s] 311)).heap.size by simp];exact Pz _ _
 have m:PG w l:=by rw[f];exact((QK.alloc Qh _).alloc SC _).alloc SC _
 have ah:=Y p;have L:Ms U k M z w g:=⟨_,_,_,_,S⟩;have H:=Y f;clear p f al;go_enter func300,ntmps300;go_wp2_with fail;rw[<-H.out,<-ae.out];obtain⟨bA,bf,bi,_,_⟩:=f7 ah.out;refine YJ (v:=.tuple #[vA v,RI]) ?_;exact⟨⟨_,rfl,rfl⟩,L.fQ m,Qj.of m (Qe j)⟩):=Pq h;exact KA):=Pq h;exact Dj
end
theorem aiy (S:ip aE)(O:Bs U k M z aE)(bj:Gl U)(D:Mx U k M z bo bn bm a6 w g)(L:Sz aH g)(aL:aH+10000<1000000000)(cV:g.fW<=40){m:Ad}{f:Nd}(b1:Qc z w m f)(i:f.2.kd=23)(l:f.2.tx=TQ)(b:Pl)(c:Option Addr)(bJ:0<=b.scope/\b.scope<g.M.PL.length)(bK:2<=g.M.PL.length){v:Va}{aY:List Va}(T:U9 w ay (v::aY))(af:v.k=4)(aT:g.fW≠40->(j1 X v.s b { g with fW:=g.fW+1 }).2.fW=g.fW+1)(aU:g.fW≠40->∀bz,j5 v.s b.f3=some bz->∀(I:Ad) d a,jD (none,bz) b { g with fW:=g.fW+1 }=some (d,a)->∀t ay (e:Nat),k<=e->Ms U k M z t (P5 (none,bz) d a).2->Uk 0 t ay I.ks->U7 z t I.ks (QA (none,bz))->P9 t (some e) (some vU)->PN 28 #[Pm k,ay,QN (P5 (none,bz) d a).1 (LA (some e))] t (QU U k M z aE (some e) t (Ti X (P5 (none,bz) d a).1 (QA (none,bz)) (some vU) (P5 (none,bz) d a).2))) :
  PN 300 #[Pm k,Pm m.p,QN b c,ay] w (Qg U k M z aE w (within g (j1 X v.s b))):=by
 have aI{G}(h:G:=by
 rw[i] at aR;have au:=WV (a:=TQ) rfl l;obtain⟨bB,F⟩:=xE f.2.tx;rw[<-F] at bH au;clear F l i;obtain⟨cU,bL⟩:=xE (within g (j1 X v.s ⟨o,n,q⟩))
 have ce:=λt (ad:Mx U k M z bo bn bm a6 t g) (aM:t.heap[bq]?=some (Qb #[Pm k] 62)) (aO:t.heap[e]?=some (Qb #[Ph o,Ph n,PD q,.pointer c] 73)) (aD:t.heap[br]?=some (Qb #[.slice (some (Pn u bI)) a s] 311)) (aZ:U9 t (.slice (some (Pn u bI)) a s) (v::aY))=>xR (z:=aE) ad cV Jh (c:=#[PZ br 0,PZ e 0,PZ bq 0]) (a:=j1 X v.s ⟨o,n,q⟩) aT (λH ey A d ae=>JN S O bj A (L.fW _) aL o n q c bJ (d _ _ _ aM PK) (d _ _ _ aO PK) (d _ _ _ aD PK) (aZ.f2 λp m j=>d p m 65 j PK) (aU H))
 have aI{G}(h:G:=by
 obtain⟨ah,A⟩:=xE r;have ci:=cQ;have cg:=cR;rw[<-A] at ci cg C aX a7 cj b6 ⊢;clear A;refine cm (Pj b7 ah C aX.out a7.out cj.out b6) ?_;exact Ai):=Pq h;exact Jr):=Pq h;exact xy
theorem Lf (au:ip aE)(cy:Bs U k M z aE)(cL:Gl U)(D:Mx U k M z bo bn bm a6 w g)(cx:Sz aH g)(cH:aH+10000<1000000000)(cV:g.fW<=40){m:Ad}{bG:Nd}(b1:Qc z w m bG)(cp:bG.2.kd≠23)(b:Pl)(c:Option Addr)(bJ:0<=b.scope/\b.scope<g.M.PL.length)(bK:2<=g.M.PL.length){v:Va}{aY:List Va}(T:U9 w ay (v::aY))(af:v.k=4)(aT:g.fW≠40->(j1 X v.s ⟨1,0,false⟩ { g with fW:=g.fW+1 }).2.fW=g.fW+1)(aU:g.fW≠40->∀bz,j5 v.s false=some bz->∀(I:Ad) d a,jD (none,bz) ⟨1,0,false⟩ { g with fW:=g.fW+1 }=some (d,a)->∀t ay (e:Nat),k<=e->Ms U k M z t (P5 (none,bz) d a).2->Uk 0 t ay I.ks->U7 z t I.ks (QA (none,bz))->P9 t (some e) (some vU)->PN 28 #[Pm k,ay,QN (P5 (none,bz) d a).1 (LA (some e))] t (QU U k M z aE (some e) t (Ti X (P5 (none,bz) d a).1 (QA (none,bz)) (some vU) (P5 (none,bz) d a).2))) :
  PN 300 #[Pm k,Pm m.p,QN b c,ay] w (Qg U k M z aE w (within g (j1 X v.s ⟨1,0,false⟩))):=by
 have aI{G}(h:G:=by
 have cr:(bG.2.kd==23)=false:=gT.2 cp;obtain⟨cZ,cq⟩:=xE bG.2.kd;rw[<-cq] at aR cr cp;clear cq;exact zT):=Pq h;exact xy
theorem Wu (au:ip aE)(cy:Bs U k M z aE)(cL:Gl U)(D:Mx U k M z bo bn bm a6 w g)(cx:Sz aH g)(cH:aH+10000<1000000000)(cV:g.fW<=40){m:Ad}{bG:Nd}(b1:Qc z w m bG)(cp:bG.2.kd=23)(cq:bG.2.tx≠TQ)(b:Pl)(c:Option Addr)(bJ:0<=b.scope/\b.scope<g.M.PL.length)(bK:2<=g.M.PL.length){v:Va}{aY:List Va}(T:U9 w ay (v::aY))(af:v.k=4)(aT:g.fW≠40->(j1 X v.s ⟨1,0,false⟩ { g with fW:=g.fW+1 }).2.fW=g.fW+1)(aU:g.fW≠40->∀bz,j5 v.s false=some bz->∀(I:Ad) d a,jD (none,bz) ⟨1,0,false⟩ { g with fW:=g.fW+1 }=some (d,a)->∀t ay (e:Nat),k<=e->Ms U k M z t (P5 (none,bz) d a).2->Uk 0 t ay I.ks->U7 z t I.ks (QA (none,bz))->P9 t (some e) (some vU)->PN 28 #[Pm k,ay,QN (P5 (none,bz) d a).1 (LA (some e))] t (QU U k M z aE (some e) t (Ti X (P5 (none,bz) d a).1 (QA (none,bz)) (some vU) (P5 (none,bz) d a).2))) :
  PN 300 #[Pm k,Pm m.p,QN b c,ay] w (Qg U k M z aE w (within g (j1 X v.s ⟨1,0,false⟩))):=by
 have aI{G}(h:G:=by
 rw[cp] at aR;have cZ:=VX (a:=TQ) rfl cq;obtain⟨dU,cr⟩:=xE bG.2.tx;rw[<-cr] at bH cZ;clear cr cq cp;exact zT):=Pq h;exact xy
def Ie (X:Fx)(e:Nd)(i:Pl)(j:(List Va×Er)×St):(Va×Er)×St:=match j with
 |((d::c,.no),a)=>
  if d.k≠5 then ((vU,ga gJ),a) else
  let b:=a.M.gA d.n
  if b=0 then ((vU,ga gJ),a)
  else if b=1 then ((vU,.no),{ a with hF:=a.hF++[YU (c.map a.M.hE)] })
  else if b=2 then Yp X (Px e 0).2 i c a
  else match a.SE[(b - 3).toNat]? with
   |some f=>XC X f c a
   |none=>((vU,.no),a)
 |((_,b),a)=>((vU,b),a)
theorem aqE (a:Nd)(b:Pl)(g:St):Zk X a b g=Ie X a b (Vq X b (QA a) [] g):=rfl
theorem my.head {t c q s:Nat}{b:Va}(h:my t w (.slice (some (Pn c 0)) q s) (b::aY)):q=aY.length+1/\q<=s/\c<w.heap.size/\w.cell? (Pn c 0)=some (Ph b.k)/\w.cell? (Pn c 1)=some (Ph b.n)/\w.cell? (Pn c 2)=some (PI b.s)/\∀p n,p=aY.length->(aY≠[]->n=3)->∀r,U9 w (.slice (some (Pn c n)) p r) aY:=by
 have e:=h.2
 rcases e with ⟨e,_⟩|⟨N,L,o,e,_,f,B,_,_,A⟩
 ·
  cases e
 ·simp only[g7,he,iO,jU] at e;obtain⟨rfl,rfl,rfl⟩:=e;have j:∀a x,((b::aY).flatMap ZV)[a]?=some x->o[a]?=some x:=λa x d=>by
   rw[<-A,List.getElem?_take] at d
   split at d
   ·rw[<-d,mX]
   ·
    cases d
  refine⟨rfl,B,fR f,?_,?_,?_,?_⟩
  ·simp[World.cell?,f,j 0 _ rfl]
  ·simp[World.cell?,f,j 1 _ rfl]
  ·simp[World.cell?,f,j 2 _ rfl]
  ·intro p n v H r;subst v;refine⟨⟨_,_,rfl⟩,λi x m=>?_⟩;have E:aY≠[]:=λF=>by rw[F] at m;cases m
   have u:=H E;subst u;have l:∀a y,(ZV x)[a]?=some y->a<3->o[3+i * 3+a]?=some y:=λa y d I=>by
    refine j _ _ ?_;have C:(b::aY).flatMap ZV=ZV b++aY.flatMap ZV:=rfl;rw[C,g5 (by show 3<=_;omega)]
    have D:3+i * 3+a - (ZV b).length=i * 3+a:=by show 3+i * 3+a - 3=_;omega
    rw[D,YG (a:=3) (λ_=>rfl) aY i a I,m];exact d
   exact⟨c,3,r,o,rfl,f,l 0 _ rfl Pv,l 1 _ rfl Pv,l 2 _ rfl Pv⟩
theorem ay4 (au:ip aE)(ak:Ms U k M z w g){I:Ad}{u:Nd}(aQ:Qc z w I u)(af:1<=u.2.fS.length)(e9:u.2.fS.length<=9)(c:Pl)(n:Option Addr)(ah:∀t ay,Ms U k M z t g->Uk 0 t ay I.ks->U7 z t I.ks (QA u)->PN 293 #[Pm k,ay,QN c n] t (JC U k M z aE t (Vq X c (QA u) [] g)))(hP:∀q s o,Vq X c (QA u) [] g=((q::s,.no),o)->q.k=5->o.M.gA q.n=1->∀t ay,Ms U k M z t o->U9 t ay s->PN 299 #[Pm k,ay] t λj w'=>j=PY (.tuple #[])/\Ms U k M z w' { o with hF:=o.hF++[YU (s.map o.M.hE)] }/\Qj none k t w')(D:∀q s o,Vq X c (QA u) [] g=((q::s,.no),o)->q.k=5->o.M.gA q.n=2->∀t ay (m:Ad),Ms U k M z t o->U9 t ay s->Qc z t m (Px u 0)->PN 300 #[Pm k,Pm m.p,QN c n,ay] t (Qg U k M z aE t (Yp X (Px u 0).2 c s o)))(ap:∀q s o,Vq X c (QA u) [] g=((q::s,.no),o)->q.k=5->o.M.gA q.n≠0->o.M.gA q.n≠1->o.M.gA q.n≠2->∃cO,3<=o.M.gA q.n/\o.M.gA q.n<1000000000/\o.SE[(o.M.gA q.n - 3).toNat]?=some cO/\∀t ay (m:Ad),Ms U k M z t o->U9 t ay s->Qc z t m cO.d->PN 301 #[Pm k,.agg #[Pm m.p,Ph cO.scope,PD cO.f3],ay] t (Qg U k M z aE t (XC X cO s o))) :
  PN 263 #[Pm k,Pm I.p,QN c n] w (Qg U k M z aE w (Zk X u c g)):=by
 obtain⟨bv,da⟩:=xE (Zk X u c g);rw[<-da];have b{G}(h:G:=by
 have eQ:=Y E;have dh:=Y (fV E);have b{G}(h:G:=by
 obtain⟨fk,fo,cx,d8⟩:=aX.ar;obtain⟨eY,cL⟩:=xH u.2.fS.length;rw[<-cL.out] at cx d8 af e9;have ax:=Y (λt (f:PG w2 t)=>ah t _ (br.fQ f) (d8.fQ f) ((aX.kp (Kp.of f)).l8))
 rcases T:Vq X ⟨F,B,C⟩ (QA u) [] g with ⟨⟨aY,ce⟩,o⟩
 rw[T] at ax hP D ap;have d9:ce=.no->aY.length=eY:=λj=>by
  subst j;have:=vt _ _ _ _ _ T;rw[this,cL.out,Tz];simp
 have dG:=Y d9;have df:Hid (bv=Ie X u ⟨F,B,C⟩ ((aY,ce),o)):=by
  show _=_
  rw[da,aqE,T]
 obtain⟨al,dS⟩:=xH I.p;rw[<-dS.out] at cx b5 ⊢;have ew:=Y cx;have eJ:=Y hP;have eH:=Y D;have eI:=Y ap;clear E a7 T ah hP D ap bD bb bH cx da d9;go_enter func263,ntmps263;have b{G}(h:G:=by
 rintro j aT ⟨⟨u3,p,rfl,ee,cT⟩,db,eU⟩;refine ko d ?_;clear d K;have cK:=(Qj.of (L:=none) a (Qe bP)).trans eU;have cB:=Y (cK.f2 bG.out PK);have eR:=Y (cK.f2 eQ.out PK);have e3:=aX.kp cK.Ve;have dU:=bF.trans cK;have dm:=ee;have eV:=db.lt;obtain⟨ds,cg,e8⟩:=P7 ee;subst e8;clear fc b5;obtain⟨d3,dR,dT,dX,dY,dZ,ei⟩:=Ql cB.out;refine uz 7 (.tuple #[.slice ds aY.length cg,p]) ?_;refine uz 8 (.slice ds aY.length cg) ?_;refine uz 9 p ?_;refine uz 10 (.slice ds aY.length cg) ?_
 refine uz 11 p ?_;refine Ud ?_ _;go_simp
 by_cases cr:ce=.no
 ·subst cr;have cZ:p=RI:=cT;subst cZ;obtain⟨q,s,rfl⟩:∃q s,aY=q::s:=by
   cases aY with
   |nil=>have:=Pj dG rfl;simp at this;omega
   |cons q s=>exact⟨q,s,rfl⟩
  have dF:=Pj dG rfl;obtain⟨A,fl,dQ,e6,_⟩:=World.ownsRow.form dm Qh;simp only[g7] at dQ;obtain⟨rfl,eZ,rfl⟩:=dQ;clear eZ;obtain⟨dj,dl⟩:=xE ((q::s).length);rw[<-dl] at dm dF ⊢;obtain⟨ed,fp,d2,d4,dE,d7,dJ⟩:=dm.head;have fv:(1:Int)<=(dj:Int):=Pv;have dr:=Y (show aT.cell? (Pn A 0)=some (Ph q.k)/\aT.cell? (Pn A 1)=some (Ph q.n)/\aT.cell? (Pn A 2)=some (PI q.s) from ⟨d4,dE,d7⟩);have eD:=Y dJ;have e2:=Y ed;have eE:dj<=9:=Pv;clear dJ d4 dE d7 dl ed dF
  obtain⟨H,de⟩:=xE s.length;obtain⟨aR,rfl⟩:∃aR,cg=aR+1:=⟨cg - 1,by omega⟩;obtain rfl:dj=H+1:=by rw[de];exact Pj e2
  obtain⟨ae,aK,bL⟩:∃ae aK,(if aR=0 then ae=0/\aK=0 else ae=3/\aK=aR):=by
   by_cases h:aR=0
   ·exact⟨0,0,by rw[fY h];exact⟨rfl,rfl⟩⟩
   ·exact⟨3,aR,by rw[fT h];exact⟨rfl,rfl⟩⟩
  have eO:U9 aT (.slice (some (Pn A ae)) H aK) s:=Pj eD H ae de (λbI=>by
   rw[fT (λh=>bI (mP Pv))] at bL;exact bL.1) aK
  clear de;go_wp2_with fail;refine UG 6 λa=>?_;refine uh 0 (.slice (some (Pn A 0)) (H+1) (aR+1)) (a) ?_;refine up 1 A 0 a ?_;refine uc 2 (.agg #[Ph q.k,Ph q.n,PI q.s]) rfl (fU ⟨by kernel_rfl,λt f=>by have aD:=PV f (dr.out.1);have ah:=PV f (dr.out.2.1);have aL:=PV f (dr.out.2.2);go_simp⟩) (a) ?_
  refine uh 3 (.slice (some (Pn A 0)) (H+1) (aR+1)) (a) ?_;refine uh 4 (.slice (some (Pn A ae)) H aK) (a) ?_ (aZ:=fU ⟨by kernel_rfl,λ_ _=>by by_cases bI:aR=0;· { rw[fY bI] at bL;obtain⟨rfl,rfl⟩:=bL;subst bI;obtain rfl:H=0:=Pv;go_simp };· { rw[fT bI] at bL;obtain⟨rfl,rfl⟩:=bL;go_simp;intro h;omega }⟩)
  refine QX 5 λK d=>?_;go_simp;refine d.out _ _ (λ_=>QK.drew) ?_;clear d K;refine VH 6 ?_;refine uz 7 (.slice (some (Pn A ae)) H aK) ?_;refine Ud ?_ _;go_simp;clear bL;obtain⟨dt,cX⟩:=xE aT.heap.size;obtain⟨cw,cC⟩:=xE ((aT.alloc (.cells #[Ph q.k,Ph q.n,PI q.s] 65)).drew);have bU:PG aT cw:=by rw[cC];exact QK.drew
  have cU:cw.heap[dt]?=some (ZT q):=by
   rw[cC,cX];exact fZ ((gi _ (aT.alloc (.cells #[Ph q.k,Ph q.n,PI q.s] 65))).drew) (Pz _ _)
  rw[<-cC,<-cX];have aO:=db.fQ bU;have bN:=Y (fZ bU cB.out);have cG:=Y (fZ bU eR.out);have b2:=dU.trans (Qj.of (L:=none) bU (Qe eV));have dp:=e3.kp (Kp.of bU);have cj:=eO.fQ bU;have d6:=Y (f7 cU);have cp:=aO.lt;have e0:=fR cU;have eP:dt≠N:=λj=>by
   have:=fR cB.out;omega
  clear cC cX cU d3 dR dT dX dY dZ ei d2 e6 eE;obtain⟨dc,dV,dW,_,_⟩:=Pj d6
  by_cases b1:q.k=5
  ·rw[b1] at dc;obtain⟨m,cn⟩:=xH (o.M.gA q.n);have eg:=Y (λt (f:Ms U k M z t o)=>by
    obtain⟨_,_,_,_,cy⟩:=f;exact y4 cy.hh q.n)
   rw[<-cn.out] at eg;have cH:=Y b1;clear b1;go_wp2_with fail;clear dc dV dW;refine UG 5 λa=>?_;refine iF ?_;refine up 3 dt 1 a ?_;refine uk 4 (d6.out.2.1) a ?_;refine QX 5 λK d=>?_;go_simp;refine cm (Pj eg _ (aO.fQ a)) ?_;rintro j bI ⟨rfl,bX⟩;rw[bX];refine ko d ?_;clear d K;clear bX;refine uz 6 (Ph m) ?_;refine Ud ?_ _;go_simp;obtain⟨bI,bX⟩:=xE cw.drew;have bS:PG cw bI:=by rw[bX];exact RV.drew
   rw[<-bX];replace aO:=aO.fQ bS;replace bN:=Y (fZ bS bN.out);replace cG:=Y (fZ bS cG.out);replace b2:=b2.trans (Qj.of (L:=none) bS (Qe cp));replace dp:=dp.kp (Kp.of bS);replace cj:=cj.fQ bS;replace cp:=aO.lt;clear bX e0 eP;have dO:bv=if m=0 then ((vU,ga gJ),o)
    else if m=1 then ((vU,.no),{ o with hF:=o.hF++[YU (s.map o.M.hE)] })
    else if m=2 then Yp X (Px u 0).2 ⟨F,B,C⟩ s o
    else match o.SE[(m - 3).toNat]? with
     |some cO=>XC X cO s o
     |none=>((vU,.no),o):=by
    rw[df.out,cn.out]
    show (if q.k≠5 then _ else _)=_
    rw[fT (by rw[cH.out];simp)]
   have cP:=Y dO;clear dO;obtain⟨d3,dR,dT,dX,dY,dZ,ei⟩:=Ql bN.out
   by_cases aD:m=0
   ·have L:Hid (bv=((vU,ga gJ),o)):=by show _=_;rw[cP.out,fY aD]
    subst aD;go_wp2_with fail;exact CR
   by_cases ah:m=1
   ·have L:Hid (bv=((vU,.no),{ o with hF:=o.hF++[YU (s.map o.M.hE)] })):=by show _=_;rw[cP.out,fT aD,fY ah]
    have cy:=Pj eJ q s o rfl cH.out (cn.out.symm.trans ah) bI _ aO cj;subst ah;clear aD;go_wp2_with fail;refine cm cy ?_;rintro j eo ⟨rfl,ak,ap⟩;have bQ:=Y (ap.f2 bN.out PK);have cS:=ak;have cR:=b2.trans ap;clear ap;obtain⟨u0,u1,u2,du,dv,dx,dz⟩:=Ql bQ.out;go_wp2_with fail;obtain⟨bh,a1,b8,bR,be,bA,bf,bi⟩:=i1 bQ.out a8.out aW cR cS (Ph 0) (Ph 0) (QB);rw[<-a1];refine ng (v:=.tuple #[vA vU,RI]) ?_;rw[L.out];exact⟨⟨_,rfl,rfl⟩,be,bR⟩
   have eF:(m==0)=false:=gT.2 aD;have eN:(m==1)=false:=gT.2 ah
   by_cases aL:m=2
   ·have L:Hid (bv=Yp X (Px u 0).2 ⟨F,B,C⟩ s o):=by show _=_;rw[cP.out,fT aD,fT ah,fY aL]
    obtain⟨bY,eT,fm,cy,cQ,eW,_⟩:=dp.Zm (a:=0) (by rw[<-cL.out];omega)
    obtain⟨cY,ci⟩:=xE (Yp X (Px u 0).2 ⟨F,B,C⟩ s o);have di:=Y (λt (f:PG bI t)=>Pj eH q s o rfl cH.out (cn.out.symm.trans aL) t (.slice (some (Pn A ae)) H aK) bY (aO.fQ f) (cj.fQ f) (eW.kp (Kp.of f)));rw[<-ci] at di L;rw[<-cL.out,<-dS.out] at cy;obtain⟨fq,d0⟩:=xE bY.p;rw[<-d0] at cQ di;have eG:=Y cy;have e4:=Y cQ;have dh:=Y (fV cG.out);have b5:=f1 cy;have d2:=f1 cQ;have fd:=fR cG.out;subst aL;clear aD ah eF eN cy cQ d0 ci;go_wp2_with fail
    refine UG 9 λa=>?_;refine kT ?_;refine uk 4 (Pj eG) a ?_;refine uh 5 (PZ eT 0) (a) ?_ (aZ:=fU ⟨by kernel_rfl,λ_ _=>by go_simp;intro h;omega⟩)
    refine uk 6 e4.out a ?_;refine kx 7 dh.out a ?_;refine uh 8 (.slice (some (Pn A ae)) H aK) (a) ?_;refine QX 9 λK d=>?_;go_simp;refine cm (Pj di _ a) ?_;rintro j eo ⟨⟨p,rfl,D⟩,ak,ap⟩;refine ko d ?_;clear d K;replace ap:=(Qj.of (L:=none) a (Qe cp)).trans ap;have bQ:=Y (ap.f2 bN.out PK);have cS:=ak;have eu:=D;have cR:=b2.trans ap;obtain⟨b7,bK⟩:=xE cY.1.1;rw[<-bK];have ep:=Y bK;clear D ap bK;obtain⟨u0,u1,u2,du,dv,dx,dz⟩:=Ql bQ.out;refine uz 10 (vA b7) ?_;refine uz 11 p ?_
    refine VH 12 ?_;refine uz 13 p ?_;refine Ud ?_ _;go_simp;exact C3
   have fi:(m==2)=false:=gT.2 aL;have ec:=Pj eI q s o rfl cH.out;rw[<-cn.out] at ec;obtain⟨cO,e5,eL,bW,dH⟩:=ec aD ah aL;have L:Hid (bv=XC X cO s o):=by show _=_;rw[cP.out,fT aD,fT ah,fT aL,bW]
   obtain⟨bo,bn,bm,a6,ef⟩:=id aO;obtain⟨d5,eX,dg,ek⟩:=ef.fu;obtain⟨l,bO⟩:=xE ((m - 3).toNat);rw[<-bO] at bW;have ej:l<o.SE.length:=(gs.1 bW).1;obtain⟨bJ,dq⟩:∃bJ,d5[l]?=some bJ:=⟨_,gq Pv⟩;have e1:=ek l bJ cO dq bW;obtain⟨dd,fs,eK,_,_⟩:=dg.form Pv;subst eK;have eM:m=(l:Int)+3:=Pv;have cE:∀dk x,(o2 (bJ,cO))[dk]?=some x->dk<3->bI.cell? (Pn dd (l * 3+dk))=some x:=λdk x ez e7=>by
    have cy:(d5.zip o.SE)[l]?=some (bJ,cO):=by rw[List.getElem?_zip_eq_some];exact⟨dq,bW⟩
    rw[dg.cellAt _ Pv,YG (a:=3) (λ_=>rfl) _ l dk e7,cy];exact ez
   have bY:=cE 0 _ rfl Pv;have ea:=cE 1 _ rfl Pv;have d1:=cE 2 _ rfl Pv;rw[jM] at bY;have fg:dd<bI.heap.size:=(dg.lt dd rfl).2;obtain⟨eh,_⟩:=ef.hh.at_ 7 _ rfl;obtain⟨eS,dN⟩:=xE o.SE.length;rw[<-dN] at eh ej;have fh:(l:Int)<(eS:Int):=Pv;obtain⟨cY,ci⟩:=xE (XC X cO s o);have ck:=dH bI (.slice (some (Pn A ae)) H aK) bJ aO cj e1;rw[<-ci] at ck L;obtain⟨fj,dP⟩:=xE bJ.p;obtain⟨ft,el⟩:=xE cO.scope;obtain⟨fst,en⟩:=xE cO.f3;rw[<-dP] at ck bY;rw[<-el] at ck ea
   rw[<-en] at ck d1;subst eM;have fe:(l:Int)<1000000000:=Pv;clear aD ah aL cE ek eX dq bW bO dN ci dP el en dH e5 eL ej;go_wp2_with fail;refine cm ck ?_;rintro j eo ⟨⟨p,rfl,D⟩,ak,ap⟩;clear bY ea d1 eh;have bQ:=Y (ap.f2 bN.out PK);have cS:=ak;have eu:=D;have cR:=b2.trans ap;obtain⟨b7,bK⟩:=xE cY.1.1;rw[<-bK];have ep:=Y bK;clear D ap bK;obtain⟨u0,u1,u2,du,dv,dx,dz⟩:=Ql bQ.out;exact C3
  ·have bI:(q.k==5)=false:=gT.2 b1;have L:Hid (bv=((vU,ga gJ),o)):=by
    show _=_
    rw[df.out]
    show (if q.k≠5 then _ else _)=_
    rw[fY b1]
   clear b1;go_wp2_with fail;clear dc dV dW;exact CR
 ·obtain⟨bL,bN,cZ⟩:=cT.X8 cr au;subst cZ;have A:bv=((vU,ce),o):=by
   rw[df.out]
   cases ce with
   |no=>exact absurd rfl cr
   |stop=>cases aY <;> rfl
   |iZ=>cases aY <;> rfl
   |Y3 x=>cases aY <;> rfl
  have L:=Y A;clear A cr;go_wp2_with fail;obtain⟨bh,a1,b8,bR,be,bA,bf,bi⟩:=i1 cB.out a8.out aW dU db (Ph 0) (Ph 0) (QB);refine qp ?_;rw[L.out];exact⟨⟨_,rfl,cT.RP b8 PK⟩,be,bR⟩):=Pq h;exact Kx):=Pq h;exact VQ):=Pq h;exact YA
structure Cx (w0:Py)(mb ag:Nat)(A:List Nat)(es:PO)(eb:Addr):Prop where
 b:Bs w0 mb ag A es
 st:kh w0 mb es eb
 tb:kV w0
 gl:Gl w0
structure QQ (f:Nat)(N:Int)(p:Pl)(σ:St):Prop where
 q:Q f N p σ
 bd:N<=99000000+10 * σ.steps
structure FC (w0:Py)(mb ag:Nat)(A:List Nat)(es:PO)(F:Fx)(f:Nat):Prop where
 v:∀{N d p σ},QQ f N p σ->Nk 0 d.2->UH w0 mb ag A es σ d p (F.v d p σ)
 s:∀{N d p l σ L},QQ f N p σ->Nk 1 d.2->(QE d.2=true->K4 σ.M p.scope d.2.tx)->Lg σ l->(∀b,L=some b->mb<=b)->YK w0 mb ag A es σ d p L l (F.s d p l σ)
end
section
variable {H:Py}{r F:Nat}{u:List Nat}{L:PO}{aR:Addr}{w:Py}{σ i:St}{k aI:Int}{g:Fx}{f:Nat}{b:Pl}{a:Nd}{n:Option Va}{ad:Option Nat}{v:Va}{c:Er}{aM:Oc}
section
variable (h:QQ f k b σ)
include h
theorem QQ.next (d:VO k σ ((v,.no),i)):QQ f k b i:=⟨h.q.next d,by have:=h.bd;have:=d.ex.st;dsimp only at this;omega⟩
theorem QQ.jd (d:SO k σ ((aM,.no,n),i)):QQ f k b i:=⟨h.q.jd d,by have:=h.bd;have:=d.ex.st;dsimp only at this;omega⟩
theorem QQ.nx (d:Nx aI σ i)(e:aI<=99000000+10 * σ.steps):QQ f aI b i:=⟨h.q.nx d,by rw[d.st];exact e⟩
end
theorem QQ.step (h:QQ (f+1) k b σ)(d:¬ 20000<σ.step.steps):QQ f (k - 10000) b σ.step:=⟨h.q.step d,by have:=h.bd;show k - 10000<=99000000+10 * ((σ.steps+1:Nat):Int);omega⟩
theorem Iv.sz (h:Iv k σ)(j:k<=99000000+10 * σ.steps)(au:σ.steps<=20001):Sz 400000000 σ:=by
 obtain⟨bB,d,e⟩:=h.pz;exact d.up Pv
theorem Eo.le (h:Eo σ c):σ.steps<=20001:=by
 cases c with
 |no=>exact gR h
 |stop=>exact iL h
 |Y3 v=>exact gR h.1
 |iZ=>exact h.elim
theorem QQ.sz (h:QQ f k b σ):Sz 400000000 σ:=h.q.iv.sz h.bd (by have:=h.q.st;omega)
theorem VO.sz {d:(Va×Er)×St}(h:VO k σ d)(e:k<=99000000+10 * σ.steps):Sz 400000000 d.2:=h.iv.sz (by have:=h.ex.st;omega) h.er.le
theorem sy {j:Nat}{d:Mo}{v:Va}(h:Gv j v)(m:j<=400000000):(d.hE v).size<=3000/\(-1000000000<=v.n/\v.n<=1000000000):=by
 have l:-1000000000<=v.n/\v.n<=1000000000:=by
  by_cases e:v.k=5
  ·have:=h.r e;omega
  ·exact h.n e
 refine⟨?_,l⟩;unfold Mo.hE
 split
 ·decide
 split
 ·decide
 split
 ·split <;> decide
 split
 ·have:=Lib.itoa_length_le v.n Pv Pv
  show (List.toArray _).size<=3000
  rw[ll];omega
 split
 ·exact h.s
 split
 ·split <;> decide
 ·decide
theorem ay5 (j:Cx H r F u L aR)(R:FI g f)(M:FC H r F u L g f)(h:QQ (f+1) k b σ)(E:Nk 0 a.2)(be:a.2.kd=35->∀C I e,Ms H r F u C σ.step->Qc u C I a->QQ f (k - 10000) b σ.step->PN 263 #[Pm r,Pm I.p,QN b e] C (Qg H r F u L C (Zk g a b σ.step))):UH H r F u L σ a b (ZQ g a b σ):=by
 intro bn I e z A;have au:=j.st.X8;have B:=h.q.st
 by_cases d:σ.steps<20000
 ·have o:=h.step (show ¬ 20000<σ.steps+1 by omega);have ah:=o.sz;have bf:=o.bd
  by_cases aT:a.2.kd=17
  ·rw[yn d aT];exact l5 j.st z A aT B d b e
  by_cases aU:a.2.kd=18
  ·rw[wG d aU];exact anK j.st z A aU B d b e
  by_cases aX:a.2.kd=19
  ·rw[xk d aX];exact akB j.st z A aX B d b e
  by_cases aY:a.2.kd=20
  ·rw[vk d aY];exact Wb j.st z A aY B d b e
  by_cases a1:a.2.kd=21
  ·rw[zk d a1];exact Q2 j.st z A a1 B d b e
  by_cases aL:a.2.kd=23
  ·rw[wK d aL];exact akx j.st z A aL B d b e λC q s=>ax1 j.b q ah Pv s b e
  by_cases aO:a.2.kd=24
  ·have N:=(E.XG Pv).1;have p:=E.nX Pv;rw[yS d aO];refine agm j.st z A aO B d b e λC q s=>?_
   by_cases af:(Px a 0).2.kd=36
   ·have m:oG g a b σ.step=nE g (Px a 0) (Px a 1) b σ.step:=fY af;rw[m];have O:=(N.XG Pv).1;have D:=(R.v o.q O).1;refine acs au q s p.2 b e af (N.l1 Pv) (M.v o O) (λal i T=>?_) (λal i aW aK T ax=>?_) (ck:=400000000) Pv
    ·rw[T] at D;exact M.v (o.next D) p.1
    ·rw[T] at D;have l:=(R.v (o.next D).q p.1).1;rw[ax] at l;exact l.sz (o.next D).bd
   ·have m:oG g a b σ.step=tn g (Px a 0) (Px a 1) b σ.step:=fT af;rw[m];have X:=o.q.iv.look (Px a 0) b;have O:=o.nx X (by have:=h.bd;show k - 10000+1<=99000000+10 * ((σ.steps+1:Nat):Int);omega)
    refine Nz au j.b j.st.et q s p.2 b e af (M.v O p.1) ah (λal i T=>?_) Pv;have l:=(R.v O.q p.1).1;rw[T] at l;exact l.sz O.bd
  by_cases aJ:a.2.kd=25
  ·have N:=(E.XG Pv).1;have p:=E.nX Pv;rw[yT d aJ];refine Mb j.st z A aJ B d b e λC q s=>anp au q s p.2 aJ b e (M.v o N) λal i T=>?_;have D:=(R.v o.q N).1;rw[T] at D;exact M.v (o.next D) p.1
  by_cases ay:a.2.kd=26
  ·have N:=(E.XG Pv).1;have p:=E.nX Pv;rw[we d ay];refine anF j.st z A ay B d b e λC q s=>OL au q s p.2 ay b e (M.v o N) λal i T=>?_;have D:=(R.v o.q N).1;rw[T] at D;exact M.v (o.next D) p.1
  by_cases bb:27<=a.2.kd/\a.2.kd<=31
  ·have p:=E.nX Pv;have m:=E.pR bb;have l:∀C,Ms H r F u C σ.step->Qc u C I a->PN 259 #[Pm r,Pm I.p,QN b e] C (Qg H r F u L C (kZ g a b σ.step)):=λC q s=>by
    refine N5 au j.b j.tb q s p.2 b e (λae=>QQ f (k - 10000) b ae) o (λax aK ae U=>⟨M.v U (m ax aK),λv i T=>?_⟩) (λal aW i T=>?_)
    ·have D:=(R.v U.q (m ax aK)).1;rw[T] at D;exact U.next D
    ·have X:=qt R (QA a) [] o.q m (λ_ h=>by cases h);rw[T] at X;have O:=(X.iv.sz (by have:=X.ex.st;dsimp only at this ⊢;omega) X.er.le).go.sm.o
     have a8:=sy (d:=i.M) (X.va al gt) O;have aZ:=sy (d:=i.M) (X.va aW (gO _ gt)) O;exact⟨a8.2,aZ.2,by omega,by omega⟩
   obtain t|t|t|t|t:a.2.kd=27\/a.2.kd=28\/a.2.kd=29\/a.2.kd=30\/a.2.kd=31:=Pv
   ·rw[zH d t];exact PP j.st z A t B d b e l
   ·rw[Hr d t];exact MX j.st z A t B d b e l
   ·rw[JO d t];exact MS j.st z A t B d b e l
   ·rw[Jd d t];exact anH j.st z A t B d b e l
   ·rw[I7 d t];exact Sy j.st z A t B d b e l
  by_cases a6:a.2.kd=32
  ·rw[zd d a6];exact anJ j.st z A a6 B d b e λC q s=>NR au q s (E.l1 Pv) b e (M.v o (E.XG Pv).1)
  by_cases a7:a.2.kd=33
  ·rw[vi d a7];exact T3 j.st z A a7 B d b e λC q s=>LI au q s (E.l1 Pv) b e (M.v o (E.XG Pv).1) ah Pv
  by_cases aQ:a.2.kd=34
  ·have N:=(E.XG Pv).1;rw[yB d aQ];refine agp j.st z A aQ B d b e λC q s=>T7 au q s (E.l1 Pv) b e (M.v o N) (λt=>N.l1 Pv) (λt=>M.v o (N.XG Pv).1) ah ?_ Pv;intro t aM i T;obtain⟨p,ak,ap,_⟩:=p3 R o.q (d:=Px (Px a 0) 0) (N.XG Pv).1;rw[T] at p ak ap;exact p.sz (by have:=ak.st;dsimp only at this ⊢;omega) ap.le
  by_cases aD:a.2.kd=35
  ·rw[uW d aD];exact akA j.st z A aD B d b e λC q s=>be aD C I e q s o
  by_cases af:a.2.kd=36
  ·rw[uy d af];refine agq j.st z A af B d b e λC q s=>ap6 au q s (E.l1 Pv) b e (M.v o (E.XG Pv).1) (λaM i T=>?_) (bv:=400000000) Pv;obtain⟨p,ak,ap,_⟩:=p3 R o.q (d:=Px a 0) (E.XG Pv).1;rw[T] at p ak ap;exact p.sz (by have:=ak.st;dsimp only at this ⊢;omega) ap.le
  by_cases aE:a.2.kd=37
  ·rw[uE d aE];refine ags j.st z A aE B d b e λC q s=>?_;obtain⟨bj,bh,ba,bi,l⟩:=q;obtain⟨_,_,_,_,_,O,_,_⟩:=(E.lB aE).sh;refine(apV j.b l ah s (by rw[O];rfl) Pv b e o.q.po.some).mono ?_
   rintro c aK ⟨rfl,aZ,a8,ax,m⟩;exact⟨rfl,⟨_,_,_,_,ax⟩,m.jy l⟩
  by_cases aH:a.2.kd=38
  ·obtain⟨p,ak⟩:=E.obj aH;rw[yE d aH];refine RE j.st z A aH B d b e λC q s=>?_;have ba:=o.q.iv.Qo (m:=0) Pv;refine K6 au q ah Pv s Pv (λt ax=>(p t ax).2) b e (λae=>QQ f (k - 9999+(ae.steps - σ.step.steps)) b ae/\σ.step.steps<=ae.steps) ⟨o.nx (ba.up (by show _<=k - 9999+((σ.step.steps:Int) - σ.step.steps);omega)) (by have:=h.bd;show k - 9999+((σ.step.steps:Int) - σ.step.steps)<=99000000+10 * ((σ.steps+1:Nat):Int);omega),Qq⟩ (λt ax ae U=>⟨M.v U.1 (p t ax).1,λv i T=>?_⟩)
   obtain⟨D,aK⟩:=R.v U.1.q (p t ax).1;rw[T] at D aK
   dsimp only at aK
   have a8:=D.iv.put D.va σ.step.M.objs.length t.2.tx false;have bh:=U.2;have bi:=h.bd;have L:(i.Ru σ.step.M.objs.length t.2.tx v false).steps=i.steps:=rfl;have bm:σ.step.steps=σ.steps+1:=rfl;refine⟨D.sz U.1.bd,⟨(U.1.next D).q.nx (a8.up ?_),?_⟩,by rw[L];omega⟩
   all_goals
    rw[L];omega
  rw[rm d Pv];exact O8 j.st z A Pv B d b e
 ·rw[vK d];exact Om j.st z A B Pv b e
theorem g3.x {bB:Nat}{j:Array PO}{d:Er×St}(q:P9 w ad n)(h:PN bB j w (g3 H r F u L w d)):PN bB j w (n2 H r F u L ad w ((d.1,n),d.2)):=by
 refine h.mono ?_;rintro c s ⟨p,o,e⟩;exact⟨p,o,e.up,q.f2 e⟩
theorem xM {d:Tr}(h:Fg d):d.fS.length=2:=by
 obtain⟨_,_,_,_,_,rfl,_,_⟩:=h.sh;rfl
theorem Z.cq (h:Z f k b σ aM (.Y3 v) n):Nx (k+2) σ ((σ.gv b.scope (-1) (own a)).ho σ.gu a.2.tx 0 v)/\Q f (k+2) { b with scope:=σ.gu } ((σ.gv b.scope (-1) (own a)).ho σ.gu a.2.tx 0 v):=by
 have z{G}(h:G:=by
 exact⟨d.up Pv,by rw[d.st];exact e.fu,by rw[d.st];exact e.st,d.iv.up Pv,s⟩):=Pq h;exact zw
theorem Oy (j:FI g f)(h:Z f k b σ aM c n)(q:Nk 1 (Px a 0).2)(p:QE (Px a 0).2=false):VK g a b aM c n σ=((aM,c,n),σ)\/σ.steps<(VK g a b aM c n σ).2.steps:=by
 unfold VK
 split
 ·unfold XP
  cases c with
  |Y3 v=>
   obtain⟨e,d⟩:=h.cq (a:=a);exact .inr (j.s d q (λc=>by rw[p] at c;cases c) (h.la.up e.ex)).2
  |_=>exact .inl rfl
 ·by_cases e:c=.stop
  ·subst e;exact .inl rfl
  ·right;have d:=(j.s (h.q e) q (λc=>by rw[p] at c;cases c) h.la).2
   have z{G}(h:G:=by
   cases s with
   |no=>
    simp only
    split <;> exact d
   |_=>exact d):=Pq h;exact zJ
theorem Lt (t:Cx H r F u L aR)(ae:FI g f)(A:FC H r F u L g f)(h:QQ (f+1) k b σ)(bh:Nk 1 a.2)(bm:Lg σ n)(al:∀O,ad=some O->r<=O):YK H r F u L σ a b ad n (jB g f a b n σ):=by
 intro br I D E R;have au:=t.st.X8;have N:=h.q.st
 by_cases q:σ.steps<20000
 ·have e:=h.step (show ¬ 20000<σ.steps+1 by omega);have a7:=e.sz;have bn:=e.bd;have bo:=h.bd;have ax:Lg σ.step n:=bm;have bq:σ.step.steps=σ.steps+1:=rfl
  cases bh.sk with
  |decl d X ap=>
   by_cases U:a.2.kd=2
   ·rw[vB q U]
    by_cases ay:a.2.fS.length=0
    ·rw[fY ay];exact Z5 t.st D E U N q b R λB o p s=>g3.x s (OW o p ay b (LA ad))
    ·rw[fT ay];have aL:(Px a 0) ∈ QA a:=IJ
     have z:=(ae.v e.q (ap _ aL)).1;refine Z5 t.st D E U N q b R λB o p s=>g3.x s (aeH au o p Pv b (LA ad) (A.v e (ap _ aL)) t.b t.st.et a7 (λa1 i T=>?_) Pv);rw[T] at z;exact z.sz e.bd
   ·have ay:∀B,Ms H r F u B σ.step->Qc u B I a->P9 B ad n->PN 109 #[Pm r,Pm I.p,QN b (LA ad)] B (n2 H r F u L ad B (((lD a b (U5 g (QA a) b σ.step)).1,n),(lD a b (U5 g (QA a) b σ.step)).2)):=λB o p s=>by
     have z:=ue ae e.q ap;refine g3.x s (MT au o p X b (LA ad) (λaY d=>A.v e (ap aY d)) (λa1 i T=>?_) (bv:=400000000) Pv);rw[T] at z;exact z.sz e.bd
    rcases d with j|j|j
    ·exact absurd j U
    ·rw[ul q j];exact We t.st D E j N q b R ay
    ·rw[x7 q j];exact acz t.st D E j N q b R ay
  |func d=>rw[pE q Pv];exact Z7 t.st D E Pv N q b R
  |empty d=>rw[pE q Pv];exact Z7 t.st D E Pv N q b R
  |gG d U=>
   rw[uX q d];obtain⟨ak,aE,aJ⟩:=e.q.iv.block U e.q.po;have aX:QQ f (k - 10000+5000) (QD a b σ.step).1 (QD a b σ.step).2:=⟨⟨by rw[ak.st];exact e.q.fu,by rw[ak.st];exact e.q.st,ak.iv,aE⟩,by rw[ak.st];omega⟩
   refine X1 t.st D E d N q b R (λB o p=>?_) (λB bi o aT p s=>?_) (D:=(QD a b σ.step).1) (af:=(QD a b σ.step).2)
   ·obtain⟨bv,be,bb,bf,aO⟩:=o;refine(auX t.b aO a7 p U.ct Pv (λj d=>(xM (o5 U j d))) b (LA ad) e.q.po.some).mono ?_;rintro c a6 ⟨rfl,a8,ba,aU,ay⟩;exact⟨rfl,⟨_,_,_,_,aU⟩,ay.jy aO⟩
   ·refine AN au o aT p ?_ _ s (λah aH=>QQ f (k - 10000+5000) (QD a b σ.step).1 ah/\Lg ah aH/\∀j ∈ QA a,QE j.2=true->K4 ah.M (QD a b σ.step).1.scope j.2.tx) ⟨aX,ax.up ak.ex,aJ⟩ (λj d ah aH hP=>?_)
    ·have:=U.ct;have:=SL a.2;rw[Tz];omega
    ·obtain⟨af,aQ,aK⟩:=hP;have gk:=U.ks _ (QW d);refine⟨A.s af gk (aK j d) aQ al,λaM aW i T=>?_⟩;have C:=(ae.s af.q gk (aK j d) aQ).1;rw[T] at C;exact⟨af.jd C,C.la,λj d bO=>C.ex.k4 _ _ (aK j d bO)⟩
  |lA d X M af aD aQ=>
   rw[wD q d];have z:=(ae.v e.q M).1;refine QR t.st D E d N q b R λB o p s=>?_
   rcases X with j|j
   ·refine M8 au o p j b s (A.v e M) λa1 i T=>?_;rw[T] at z;exact A.s (e.next z) af (λc=>by rw[aD] at c;cases c) (ax.up z.ex) al
   ·obtain⟨aK,U⟩:=aQ j;refine MV au o p j b s (A.v e M) λa1 i T=>?_;rw[T] at z;exact⟨A.s (e.next z) af (λc=>by rw[aD] at c;cases c) (ax.up z.ex) al,A.s (e.next z) aK (λc=>by rw[U] at c;cases c) (ax.up z.ex) al⟩
  |loop d X M af aD=>
   rcases d with d|d
   ·rw[us q d];refine RR t.st D E d N q b R λB o p s=>?_;refine aqk au o p X b s f (λj ah aH=>QQ f (k - 10000) b ah/\20001<ah.steps+j/\Lg ah aH) ⟨e,e.q.fu,ax⟩ (λah aH hP=>by have:=hP.1.q.st;have:=hP.2.1;omega) (λj ah aH hP=>?_)
    obtain⟨ay,aJ,aE⟩:=hP;obtain⟨z,a6⟩:=ae.v ay.q M;refine⟨A.v ay M,λv i T _=>?_⟩;rw[T] at z a6;have U:=ay.next z;obtain⟨C,aU⟩:=ae.s U.q af (λc=>by rw[aD] at c;cases c) (aE.up z.ex)
    refine⟨A.s U af (λc=>by rw[aD] at c;cases c) (aE.up z.ex) al,λaM aW ba a8=>?_⟩
    rw[a8] at C aU;exact⟨U.jd C,by dsimp only at a6 aU;omega,C.la⟩
   ·rw[uJ q d];obtain⟨ay,aJ,aE,_⟩:=p3 ae e.q (d:=Px a 0) M;refine Zs t.st D E d N q b R λB o p s=>ayw au o p X b s (A.v e M) (λaM i T=>?_) (cS:=400000000) Pv;rw[T] at ay aJ aE;have a6:=aJ.st
    dsimp only at a6
    have ak:=ay.gv b.scope aM (-2);have U{G}(h:G:=by
    have aX:QQ f (k - 10000+1) { b with scope:=i.gu } (i.gv b.scope aM (-2)):=⟨⟨by have:=e.q.fu;show 20001<i.steps+f;omega,by rw[ak.st];exact aE,ak.iv,aU⟩,by rw[ak.st];dsimp only;omega⟩
    exact⟨A.s aX af (λc=>by rw[aD] at c;cases c) ((ax.up aJ).up ak.ex) al,ay.sz (by dsimp only;omega) aE.le,(e.q.po.up aJ).some⟩):=Pq h;exact FR
  |h6 d X ap=>
   rw[uC q d];exact abL t.st D E d N q b R λB bi o p aT=>Kv o p X aT b (LA ad) (λaY d=>A.v e (ap aY d))
  |one d X M=>
   rcases d with d|d
   ·rw[vY q d];exact S7 t.st D E d N q b R λB o p s=>g3.x s (WK au o p X b (LA ad) (A.v e M))
   ·rw[yJ q d];refine adD t.st D E d N q b R λB o p s=>?_
    cases ad with
    |none=>
     cases n with
     |none=>exact acv au o p X b (A.v e M)
     |some v=>exact s.elim
    |some O=>
     cases n with
     |none=>exact s.elim
     |some v=>exact UB au o p X b s (al O rfl) (A.v e M)
  |mj d X M ba ap=>
   rw[wZ q d];have C:=(ae.s e.q M (λc=>by rw[ba] at c;cases c) ax).1
   obtain⟨bb,aL⟩:∃bb,a.2.fS.length=bb+1:=⟨a.2.fS.length - 1,by omega⟩;refine aeI t.st D E d N q b R λB o p s=>UT au o p aL Pv Pv b s (A.s e M (λc=>by rw[ba] at c;cases c) ax al) (λaM c n σ=>∃aI:Int,Z f aI b σ aM c n/\aI+2<=99000000+10 * σ.steps) (λaM c aW i T=>?_) (λj d aM c n σ hP=>?_)
   ·rw[T] at C;have aU:=C.ex.st
    dsimp only at aU
    exact⟨k - 10000,⟨by have:=e.q.fu;omega,C.iv,e.q.po.up C.ex,C.er,C.va,C.la⟩,by omega⟩
   ·obtain⟨aI,U,be⟩:=hP;obtain⟨bx,a6,gk,aJ⟩:=ap j d;refine⟨λB ay bv o p s a8=>⟨λ_=>?_,λ_=>?_⟩,λbf aE aW i T=>?_⟩
    ·refine K8 t.st t.b o p a6 b aM a8 s (cS:=400000000) Pv λx aO=>?_;subst aO;obtain⟨aE,bf⟩:=U.cq (a:=j);have ay:=(U.q Qh).iv.gv b.scope (-1) (own j);have bv:=(U.q Qh).st;refine⟨U.iv.sz Pv Pv,U.po.some,ay.iv.sz (by rw[ay.st];omega) (by rw[ay.st];omega),A.s ⟨bf,by rw[aE.st];omega⟩ gk (λc=>by rw[aJ] at c;cases c) (U.la.up aE.ex) al⟩
    ·refine anB t.st o p a6 b aM a8 s λay=>?_;exact A.s ⟨U.q ay,by omega⟩ gk (λc=>by rw[aJ] at c;cases c) U.la al
    ·have aE:=Oy ae U gk aJ;have ay:SO (aI+2) σ (VK g j b aM c n σ):=by
      unfold VK
      split
      ·exact Gg ae U gk aJ
      ·exact JP ae U gk aJ
     rw[T] at aE ay
     rcases aE with aE|aE
     ·
      cases aE;exact⟨aI,U,be⟩
     ·have aU:=ay.ex.st
      dsimp only at aU aE
      exact⟨aI+2,⟨by have:=U.fu;omega,ay.iv,U.po.up ay.ex,ay.er,ay.va,ay.la⟩,by omega⟩
 ·rw[xq q];exact R8 t.st D E N Pv b R
variable {e:St}{s:Pl}{j:PO}{aJ:List Ad}{U:List Nd}{o:List Va}
theorem uM (D:Cx H r F u L aR)(E:FI g f)(M:FC H r F u L g f)(h:QQ f k b σ)(z:∀d ∈ U,Nk 1 d.2)(P:∀d ∈ U,QE d.2=true->K4 σ.M b.scope d.2.tx)(T:Lg σ n)(N:∀l,ad=some l->r<=l)(S:U.length<=1000000)(C:Ms H r F u w σ)(p:Uk 0 w j aJ)(O:U7 u w aJ U)(R:P9 w ad n) :
  PN 28 #[Pm r,j,QN b (LA ad)] w (QU H r F u L ad w (Ti g b U n σ)):=by
 refine AN D.st.X8 C p O S b R (λe B=>QQ f k b e/\Lg e B/\∀d ∈ U,QE d.2=true->K4 e.M b.scope d.2.tx) ⟨h,T,P⟩ (λd l e B hP=>?_);obtain⟨q,A,t⟩:=hP;refine⟨M.s q (z d l) (t d l) A N,λaM I i p=>?_⟩;have m:=(E.s q.q (z d l) (t d l) A).1;rw[p] at m;exact⟨q.jd m,m.la,λd l I=>m.ex.k4 _ _ (t d l I)⟩
theorem vS (h:Bk a.2):(QA a).length<=1000000:=by
 have:=h.ct;have:=SL a.2;rw[Tz];omega
theorem Ht (h:Q f k b σ){d:Fu}(E:Fg d.d.2)(X:o.length<=1500)(C:∀v ∈ o,Gv σ.M.objs.length v)(B:σ.fW≠40) :
  Nx (k+9000) { σ with fW:=σ.fW+1 } (S9 d.d ⟨σ.gu,σ.gu,d.f3⟩ o (St.gv { σ with fW:=σ.fW+1 } d.scope (-1) (own d.d)))/\Bk (Px d.d 1).2 /\
  (∀l ∈ QA (Px d.d 1),QE l.2=true->K4 (S9 d.d ⟨σ.gu,σ.gu,d.f3⟩ o (St.gv { σ with fW:=σ.fW+1 } d.scope (-1) (own d.d))).M σ.gu l.2.tx) /\
  Q f (k+9000) ⟨σ.gu,σ.gu,d.f3⟩ (S9 d.d ⟨σ.gu,σ.gu,d.f3⟩ o (St.gv { σ with fW:=σ.fW+1 } d.scope (-1) (own d.d))):=by
 have M:=h.call B;have q:=M.iv.gv d.scope (-1) (own d.d);have N:∀v ∈ o,Gv (St.gv { σ with fW:=σ.fW+1 } d.scope (-1) (own d.d)).M.objs.length v:=C;have D:=qf { σ with fW:=σ.fW+1 } d.scope (own d.d);have z:Po ⟨σ.gu,σ.gu,d.f3⟩ (St.gv { σ with fW:=σ.fW+1 } d.scope (-1) (own d.d)):=
  ⟨by show (0:Int)<=(σ.M.PL.length:Int);omega,by show (σ.M.PL.length:Int)<_;simp[St.gv,Mo.scope];omega⟩
 obtain⟨t,R,A⟩:=q.iv.body (d:=d.d) (p:=⟨σ.gu,σ.gu,d.f3⟩) E z D X N;have p:=(q.trans t).up (N':=k+9000) Pv;exact⟨p,R,A,by rw[p.st];exact h.fu,by rw[p.st];exact h.st,p.iv,z.up t.ex⟩
theorem anQ (z:Cx H r F u L aR)(M:FI g f)(ak:FC H r F u L g f)(h:QQ f k b σ)(al:k+9000<=99000000+10 * σ.steps){d:Fu}(l:Fg d.d.2)(ap:0<=d.scope/\d.scope<σ.M.PL.length)(p:o.length<=1500)(N:∀v ∈ o,Gv σ.M.objs.length v)(T:Ms H r F u w σ)(X:U9 w j o){O:Ad}(ah:Qc u w O d.d) :
  PN 301 #[Pm r,.agg #[Pm O.p,Ph d.scope,PD d.f3],j] w (Qg H r F u L w (XC g d o σ)):=by
 obtain⟨aO,aK,aH,aL,ae⟩:=T;have m:Bk (Px d.d 1).2/\(Px d.d 0).2.fS.length<=8:=by
  obtain⟨aQ,aU,aT,P,q,E,aE,R⟩:=l.sh;have S:(Px d.d 0).2=P:=by rw[UK,E];rfl
  have af:(Px d.d 1).2=q:=by rw[UK,E];rfl
  have I:q ∈ d.d.2.fS:=by rw[E];exact gO _ gt
  have au:Nk 4 q:=⟨R,by have:=ZJ I;have:=l.ct;omega,(sS l.nb).1 q I⟩
  rw[S,af];refine⟨au.bk Pv,?_⟩
  cases aE with
  |p9 _ p=>exact p
 refine SW z.b z.tb ae h.sz Pv h.q.iv.ca ah (xM l) l.ct m.2 (λE q=>xM (o5 m.1 E q)) (Po.some (p:=⟨d.scope,0,false⟩) ap) X p (b:=fun σ=>Ti g ⟨σ.gu,σ.gu,d.f3⟩ (QA (Px d.d 1)) none (S9 d.d ⟨σ.gu,σ.gu,d.f3⟩ o (σ.gv d.scope (-1) (own d.d)))) (λA=>?_) (λA q E I ax ay aD=>?_)
 ·obtain⟨C,_,B,t⟩:=Ht h.q l p N A;have q:=pI M (QA (Px d.d 1)) (o:=none) t (λa D=>m.1.ks _ (QW D)) B (λ_ c=>by cases c);exact(C.ex.trans q.ex).ca
 ·obtain⟨C,_,B,t⟩:=Ht h.q l p N A;exact uM z M ak ⟨t,by rw[C.st];exact al⟩ (λa D=>m.1.ks _ (QW D)) B (λ_ c=>by cases c) (λ_ c=>by cases c) (vS m.1) ax ay aD trivial (ad:=none)
theorem GK {p:PS}{q:Bool}{d:Tr}(h:j5 p q=some d):Bk d:=by
 unfold j5 at h
 split at h
 ·rename_i t m
  split at h
  ·rename_i l
   cases h;exact(Y5 m l).bk Pv
  ·
   cases h
 ·
  cases h
theorem aze (h:Q f k b σ){d:Tr}(D:Bk d)(p:jD (none,d) b σ=some (s,e)):Nx (k+9000) σ (P5 (none,d) s e).2/\Q f (k+9000) (P5 (none,d) s e).1 (P5 (none,d) s e).2/\∀z ∈ QA (none,d),QE z.2=true->K4 (P5 (none,d) s e).2.M (P5 (none,d) s e).1.scope z.2.tx:=by
 have q:Nx (k+1) σ e/\Po s e:=by
  unfold jD at p
  split at p
  ·
   cases p
  ·simp only[he] at p
   split at p
   ·
    cases p;exact⟨h.iv.gv _ _ _,by show (0:Int)<=(σ.M.PL.length:Int);omega,by show (σ.M.PL.length:Int)<_;simp[St.gv,Mo.scope];omega⟩
   ·
    cases p;exact⟨(Nx.refl h.iv).up Pv,h.po⟩
 obtain⟨q,E⟩:=q;obtain⟨B,C,A⟩:=q.iv.A9 (b:=(none,d)) D E;have t:=(q.trans B).up (N':=k+9000) Pv;exact⟨t,⟨by rw[t.st];exact h.fu,by rw[t.st];exact h.st,t.iv,C⟩,A⟩
theorem KP (p:FI g f)(h:Q f k b σ)(q:PS):VO (k+9000) σ (j1 g q b σ):=by
 unfold j1
 split
 ·rename_i l d
  exact D6 p h (GK d)
 ·exact .ga ((Nx.refl h.iv).up Pv) h.st ua
section
variable (d:Cx H r F u L aR)(C:FI g f)(N:FC H r F u L g f)(h:QQ f k b σ)(aH:k+9000<=99000000+10 * σ.steps)
include d C N h aH
theorem SM (ah:Ms H r F u w σ)(A:U9 w j o){T:Ad}(S:Qc u w T a)(q:Option Addr) :
  PN 300 #[Pm r,Pm T.p,QN b q,j] w (Qg H r F u L w (Yp g a.2 b o σ)):=by
 obtain⟨aU,aQ,aO,aT,B⟩:=ah
 cases o with
 |nil=>exact UI B b q A
 |cons v o=>
  rw[aqD]
  by_cases m:v.k≠4
  ·rw[fY m];exact Oj B b q A m
  rw[fT m];have m:v.k=4:=Pv
  have t:∀z:Pl,Po z σ->(σ.fW≠40->(j1 g v.s z { σ with fW:=σ.fW+1 }).2.fW=σ.fW+1)/\(σ.fW≠40->∀l,j5 v.s z.f3=some l->∀(R:Ad) s e,jD (none,l) z { σ with fW:=σ.fW+1 }=some (s,e)->∀p j (M:Nat),r<=M->Ms H r F u p (P5 (none,l) s e).2->Uk 0 p j R.ks->U7 u p R.ks (QA (none,l))->P9 p (some M) (some vU)->PN 28 #[Pm r,j,QN (P5 (none,l) s e).1 (LA (some M))] p (QU H r F u L (some M) p (Ti g (P5 (none,l) s e).1 (QA (none,l)) (some vU) (P5 (none,l) s e).2))):=λz al=>by
   have X:σ.fW≠40->Q f k z { σ with fW:=σ.fW+1 }:=λD=>⟨h.q.fu,h.q.st,(h.q.call D).iv,al⟩;refine⟨λD=>(KP C (X D) v.s).ex.ca,λD l ak R s e au p j M aD aE aK aL ae=>?_⟩;have P:=GK ak;obtain⟨ax,af,ap⟩:=aze (X D) P au;exact uM d C N ⟨af,by rw[ax.st];exact aH⟩ (λa ay=>P.ks _ (QW ay)) ap (λ_ c=>by cases c;exact WJ _) (λay c=>by cases c;exact aD) (vS (a:=(none,l)) P) aE aK aL ae
  have O:Po ⟨1,0,false⟩ σ:=⟨by show (0:Int)<=1;omega,by show (1:Int)<_;have:=h.q.iv.lr;omega⟩
  by_cases I:a.2.kd=23
  ·by_cases D:a.2.tx=TQ
   ·have E:qm a.2 b=b:=fT (by simp[I,D]);rw[E];exact aiy d.st.X8 d.b d.gl B h.sz Pv h.q.iv.ca S I D b q h.q.po h.q.iv.lr A m (t b h.q.po).1 (t b h.q.po).2
   ·have E:qm a.2 b=⟨1,0,false⟩:=fY (.inr D);rw[E];exact Wu d.st.X8 d.b d.gl B h.sz Pv h.q.iv.ca S I D b q h.q.po h.q.iv.lr A m (t _ O).1 (t _ O).2
  ·have E:qm a.2 b=⟨1,0,false⟩:=fY (.inl I);rw[E];exact Lf d.st.X8 d.b d.gl B h.sz Pv h.q.iv.ca S I b q h.q.po h.q.iv.lr A m (t _ O).1 (t _ O).2
theorem aq4 (ax:Nk 0 a.2)(D:a.2.kd=35)(aL:Ms H r F u w σ){I:Ad}(aU:Qc u w I a)(X:Option Addr) :
  PN 263 #[Pm r,Pm I.p,QN b X] w (Qg H r F u L w (Zk g a b σ)):=by
 obtain⟨aY,aX⟩:=ax.D0 D;have ah:∀x ∈ QA a,Nk 0 x.2:=λx aO=>aY _ (QW aO);have q:=qt C (QA a) [] h.q ah (λ_ h=>by cases h);have al:∀p z i,Vq g b (QA a) [] σ=((p::z,.no),i)->QQ f k b i/\k+9000<=99000000+10 * i.steps/\Gv i.M.objs.length p/\(∀v ∈ z,Gv i.M.objs.length v)/\z.length<=9:=λp z i T=>by
  rw[T] at q;have aK:=q.ex.st;have ay:=q.ln;have:=Tz a;have:=h.bd
  dsimp only at aK ay
  refine⟨⟨⟨by have:=h.q.fu;omega,q.er,q.iv,h.q.po.up q.ex⟩,by omega⟩,by omega,q.va p gt,λv E=>q.va v (gO _ E),?_⟩
  simp at ay;omega
 refine ay4 d.st.X8 aL aU ?_ aX b X (λak j A B M=>?_) (λp z i T aD aQ ak j A B=>?_) (λp z i T aD aQ ak j m A B M=>?_) (λp z i T aD O au ay=>?_)
 ·have O:=ax.sh
  cases au:a.2 with
  |mk ay aT bB aK=>
   rw[au] at O D
   cases O with
   |call _ _ _=>simp[Tr.fS]
   |lit q=>simp only[Tr.kd] at D;omega
   |one q=>simp only[Tr.kd] at D;omega
   |two q=>simp only[Tr.kd] at D;omega
   |_=>cases D
 ·refine IU d.st.X8 A B M (by rw[Tz];omega) b X (λe=>QQ f k b e) h (λau ay e O=>⟨N.v O (ah au ay),λv i T=>?_⟩)
  have E:=(C.v O.q (ah au ay)).1;rw[T] at E;exact O.next E
 ·obtain⟨t,ae,ap,af,aE⟩:=al _ _ _ T;have R:=t.sz;refine S4 d.b d.tb A B Pv (λv E=>?_) (by have:=R.lg;omega)
  have:=sy (d:=i.M) (af v E) R.go.sm.o;exact⟨⟨by omega,by omega⟩,this.1⟩
 ·obtain⟨t,ae,ap,af,aE⟩:=al _ _ _ T;exact SM d C N t ae A B M X
 ·obtain⟨t,ae,ap,af,aE⟩:=al _ _ _ T;have R:=t.sz;have a1:0<=i.M.gA p.n/\i.M.gA p.n<3+i.SE.length:=by
   unfold Mo.gA
   rcases SY i.M p.n with ⟨aK,_⟩|⟨l,x,_,aT,aW⟩
   ·rw[aK];exact⟨by decide,by show (0:Int)<_;omega⟩
   ·rw[aW];exact t.q.iv.gm.co x (gC aT)
  have aZ:=R.fn;obtain⟨O,au⟩:∃O,i.SE[(i.M.gA p.n - 3).toNat]?=some O:=⟨_,gq Pv⟩;have ay:=t.q.iv.fn O (gC au);exact⟨O,by omega,by omega,au,λak j m A B M=>anQ d C N t ae ay.1 ay.2 Pv af A B M⟩
end
theorem tT (d:Cx H r F u L aR):∀f,FC H r F u L (fx f) f
 |0=>⟨λh _=>by have:=h.q.fu;have:=h.q.st;omega,λh _ _ _ _=>by have:=h.q.fu;have:=h.q.st;omega⟩
 |f+1=>⟨λh l=>ay5 d (pg f) (tT d f) h l (λp _ _ q t A m=>aq4 d (pg f) (tT d f) m (by have:=h.bd;have:=m.q.fu;show _ - 10000+9000<=99000000+10 * ((_+1:Nat):Int);omega) l p t A q),λh l _ B z=>Lt d (pg f) (tT d f) h l B z⟩
theorem Oe {I:Ad}{a:Nd}(aQ:Qc u w I a)(t:a.2.kd=1) :
  PN 29 #[Pm I.p] w λc q=>q=w/\∃j,c=PY j/\Uk 0 w j I.ks:=by
 obtain⟨z,A,p,T⟩:=aQ.ar;obtain⟨C,m,_⟩:=aQ.cells;rw[t] at m;obtain⟨D,d⟩:=xE I.p;rw[<-d] at p m C ⊢;obtain⟨B,l⟩:=xE a.2.fS.length;rw[<-l] at p T;clear d l;go_enter func29,ntmps29;go_wp2_with fail;exact Uj (v:=.slice z B A) ⟨rfl,_,rfl,T⟩
end
section
variable {U:Py}{k g:Nat}{z:List Nat}{al C B n u:PO}{w w':Py}{c:St}{aH:Nat}
theorem HE (p:Mx U k g z C B n u w c)(f:Sz aH c)(r:aH+1<1000000000)(b:PS)(m:Int) :
  PN 52 #[Pm k,PI b,Ph m] w λj w'=>j=PY (.tuple #[])/\Mx U k g z C B n u w' (({ c with M:=c.M.Qo m }:St).Ru 0 b (UU c.M.objs.length) false)/\Qv Th k w w':=by
 have ae:=p.lt;have s:=(gi w.heap.size w).drew;have A:=p.fQ s;have a:w.drew.cell? (Pn k 11)=some (Ph 0):=(A.hh.at_ 9 _ rfl).1;have ay:Qv Th k w w.drew:=Qv.of s (Qe ae);have X:Sz (aH+1) ({ c with M:=c.M.Qo m }:St):=f.heap (gw _) (f.go.Qo m) rfl;have i:=ve A f Pv m
 have e:Hid (∀t,Mx U k g z C B n u t { c with M:=c.M.Qo m }->PN 56 #[Pm k,Ph 0,PI b,vA (UU c.M.objs.length),PD false] t λj w'=>j=PY (Vg (({ c with M:=c.M.Qo m }:St).M.put 0 b (UU c.M.objs.length) false).1)/\Mx U k g z C B n u w' (({ c with M:=c.M.Qo m }:St).Ru 0 b (UU c.M.objs.length) false)/\Qv Th k t w'):=λt h=>Z4 h X r 0 b (UU c.M.objs.length) false
 generalize Vg (({ c with M:=c.M.Qo m }:St).M.put 0 b (UU c.M.objs.length) false).1=aK at e
 generalize (({ c with M:=c.M.Qo m }:St).Ru 0 b (UU c.M.objs.length) false)=aJ at e ⊢
 generalize ({ c with M:=c.M.Qo m }:St)=aO at i e
 obtain⟨aM,b3⟩:=xE (c.M.objs.length:Int);rw[<-b3] at i e;clear r b3;go_enter func52,ntmps52;have aI:PG w w.drew:=RV.drew;refine Qd 14 (λt=>t.cell? (Pn k 11)=some (Ph 0)) Qz ?_;refine up 0 k 0 a ?_;refine up 1 k 0 a ?_;refine up 2 k 0 a ?_;refine up 3 k 0 a ?_;refine up 4 k 0 a ?_;refine up 5 k 11 a ?_;refine uc 6 (Ph 0) rfl (fU ⟨by kernel_rfl,λt R=>by have aD:=R;go_simp⟩) (a) ?_
 refine uh 7 (PI b) (a) ?_;refine up 8 k 0 a ?_;refine up 9 k 0 a ?_;refine up 10 k 0 a ?_;refine uh 11 (Ph m) (a) ?_;refine QX 12 λK d=>?_;go_simp;refine cm i ?_;rintro j q ⟨rfl,o,af⟩;have D:q.cell? (Pn k 11)=some (Ph 0):=(o.hh.at_ 9 _ rfl).1;refine d.out _ _ (λ_=>D) ?_;clear d K;have ap:=ay.trans af;refine QX 13 λK d=>?_;go_simp;refine cm (tQ aM q) ?_;rintro j ak ⟨rfl,E⟩;have F:=o.fQ E;have H:ak.cell? (Pn k 11)=some (Ph 0):=(F.hh.at_ 9 _ rfl).1
 refine d.out _ _ (λ_=>H) ?_;clear d K;have ax:=ap.trans (Qv.of E (Qe o.lt));refine QX 14 λK d=>?_;go_simp;refine cm (Pj e _ F) ?_;rintro j aE ⟨rfl,L,M⟩;refine ko d ?_;clear d K;have N:=ax.trans M;clear a D H;refine Ud ?_ _;go_simp;go_wp2
 go_end0
 exact⟨rfl,L,N⟩
variable {c8:Addr}
def Ks (U:Py)(k g:Nat)(z:List Nat)(C B n u:PO)(w:Py)(c:St)(b:Int)(d:Ending)(w':Py):Prop:=
 d=PY (.tuple #[])/\∃a,Mx U k g z C B n u a c/\PG w a/\w'=a.setCell (Pn k 3) (Ph b)
theorem azh (i:Mx U k g z C B n u w c):PN 31 #[Pm k,RI] w (Ks U k g z C B n u w c 1):=by
 obtain⟨f,d⟩:=xH (w.alloc (.cells #[Rz] 122));have b:PG w f:=by rw[d.out];exact QK
 obtain⟨l,e⟩:=xE w.heap.size;have a:=i.fQ b;have j:=ID l f 123;go_enter func31,ntmps31;go_wp2_with fail;rw[<-d.out,<-e];clear e;refine cm j ?_;rintro p wz ⟨rfl,rfl⟩;have m:=a.lt;obtain⟨o,q⟩:=a.hh.at_ 1 _ rfl;go_wp2
 go_end0
 exact⟨rfl,_,a,b,rfl⟩
theorem aq6 (i:kh U k al c8)(r:Mx U k g z C B n u w c):PN 31 #[Pm k,al] w (Ks U k g z C B n u w c 3):=by
 obtain⟨f,b⟩:=xH (w.alloc (.cells #[Rz] 122));have a:PG w f:=by rw[b.out];exact QK
 obtain⟨q,d⟩:=xE w.heap.size;have l:f.heap[q]?=some (Qb #[Rz] 122):=by rw[b.out,d];exact Pz _ _
 have j:=r.fQ a;obtain⟨p,tf,tl⟩:=pW l;have o:=i.t8 ⟨_,_,_,_,j⟩;have s:=Ir c8 q f p (tf 0) tl o;rw[i.is];clear l p tf tl o;go_enter func31,ntmps31;go_wp2_with fail;rw[<-b.out,<-d];clear d;refine cm s ?_;rintro D wz ⟨rfl,m⟩;have e:=j.fQ m;have t:=a.trans (m.mono (by have:=a.size;omega))
 have v:=e.lt;obtain⟨A,E⟩:=e.hh.at_ 1 _ rfl;go_wp2
 go_end0
 exact⟨rfl,_,e,t,rfl⟩
theorem auY (aO:Bs U k g z al)(N:kV U)(aR:kh U k al c8)(ae:Mx U k g z C B n u w c){v:Va}{o:Nat}(L:w.heap[o]?=some (Qb #[Ph v.k,Ph v.n,PI v.s] 126))(ak:-9223372036854775808<=v.n/\v.n<=9223372036854775807) :
  PN 31 #[Pm k,.iface 122 (PZ o 0)] w λj w'=>j=PY (.tuple #[])/\∃t,Mx U k g z C B n u t c/\PG w t/\w'=(t.setCell (Pn k 3) (Ph 2)).setCell (Pn k 4) (PI (c.M.hE v)):=by
 obtain⟨F,s⟩:=xH (w.alloc (.cells #[Rz] 122));have M:PG w F:=by rw[s.out];exact QK
 obtain⟨ay,E⟩:=xH w.heap.size;have A:F.heap[ay]?=some (Qb #[Rz] 122):=by rw[s.out,E.out];exact Pz _ _
 have aX:=ae.fQ M;have bb:=Y L;obtain⟨ax,tf,tl⟩:=pW A;have ap:=aR.t8 ⟨_,_,_,_,aX⟩;have a7:=F5 o ay F A ax (tf 0) tl ap;have H:Hid (∀t,Mx U k g z C B n u t c->PN 61 #[Pm k,vA v] t λj w'=>j=PY (PI (c.M.hE v))/\PG t w'):=λt h=>s1 aO N ⟨_,_,_,_,h⟩ v ak;obtain⟨bo,aE⟩:=xE (c.M.hE v);rw[<-aE] at H ⊢;clear A ax tf tl ap N ak L aE;obtain⟨bn,bi,bm⟩:=v;go_enter func31,ntmps31;go_wp2_with fail;rw[<-s.out,<-E.out];refine cm a7 ?_;rintro j wz ⟨rfl,aI,a6⟩
 have q:PG w wz:=M.trans (a6.mono (iL E.out.symm));have D:=ae.fQ q;have aJ:=Y (f7 (fZ q bb.out));have a8:=Y (pW aI);have bh:=D.lt;clear aI;go_wp2_with fail;refine UG 13 λa=>?_;refine iF ?_;refine sV ?_;refine uk 5 (a8.out.1) a ?_;refine up 6 o 0 a ?_;refine up 7 o 0 a ?_;refine jY 8 aJ.out a ?_;refine QX 9 λK d=>?_;go_simp;refine cm (Pj H _ (D.fQ a)) ?_;rintro j aQ ⟨rfl,aY⟩;have b:PG wz aQ:=a.trans (aY.mono a.size);refine d.out _ _ (λ_=>b) ?_
 clear d K;have p:=D.fQ b;have bf:=p.lt;have be:=q.trans (b.mono q.size);obtain⟨aT,a1⟩:=p.hh.at_ 1 _ rfl;obtain⟨aW,aK⟩:=p.hh.at_ 2 _ rfl;refine up 10 k 0 b ?_;refine up 11 k 2 b ?_;refine up 12 k 3 b ?_;refine VH 13 ?_;refine uz 14 (PZ k 0) ?_;refine uz 15 (PZ k 2) ?_;refine uz 16 (PZ k 4) ?_;refine VH 17 ?_;refine Ud ?_ _;go_simp;clear aT aW a1 aK;go_wp2
 go_end0
 exact⟨rfl,_,p,be,rfl⟩
abbrev E3 (a:Int)(c:St)(C B n u:PO)(g:Nat):List PO:=(mR c C B n u g).set 11 (Ph a)
structure My (t:Int)(w0:Py)(mb ag:Nat)(A:List Nat)(aS aB aA aN:PO)(w:Py)(σ:St):Prop where
 bw:Below mb w0 w
 hh:QM mb (E3 t σ aS aB aA aN ag) w σ.M
 lg:w.ownsRow mb 9 1 aS σ.hF.length (σ.hF.map Value.string)
 se:w.ownsRow mb 54 2 aB σ.seen.length (σ.seen.flatMap ma)
 ow:w.ownsRow mb 3 1 aA σ.QL.length (σ.QL.map (Value.int .i64))
 fu:∃em:List Ad,em.length=σ.SE.length/\w.ownsRow mb 211 3 aN σ.SE.length ((em.zip σ.SE).flatMap o2)/\∀(i:Nat) a f,em[i]?=some a->σ.SE[i]?=some f->Qc A w a f.d
variable {F:Int}
section
variable (h:My F U k g z C B n u w c)
include h
theorem My.lt:k<w.heap.size:=h.hh.lt
theorem My.fQ (a:PG w w'):My F U k g z C B n u w' c:=GP
theorem My.heap {b:Mo}(e:QM k (E3 F c C B n u g) w' b)(a:Qv Th k w w'):My F U k g z C B n u w' { c with M:=b }:=HU
end
theorem K3 (o:Bs U k g z al)(f:My F U k g z C B n u w c){e:Ad}{i:Nd}(q:Qc z w e i) :
  PN 51 #[Pm k,Pm e.p] w λp w'=>p=PY (Ph (own i))/\w'=w:=by
 have b:=yA o f.bw q;obtain⟨v,s⟩:=f.hh.at_ 5 _ rfl;have t:=f.lt;obtain⟨j,l⟩:=xE e.p;rw[<-l] at b ⊢;obtain⟨no,m⟩:=i;clear l
 cases no with
 |none=>
  have d:own (none,m) = -3:=rfl;exact H1
 |some a=>
  have d:own (some a,m)=(a:Int):=rfl;exact Eg
theorem My.t1 (h:My F U k g z C B n u w c)(x:Int){b:Py}{a:PO}(m:w.grownBy b n.ownBlock)(r:b.ownsRow k 3 1 a (c.QL.length+1) (c.QL.map (Value.int .i64)++[Ph x]))(v:∀d,a.ownBlock=some d->n.ownBlock=some d\/w.heap.size<=d) :
  My F U k g z C B a u (b.setCell (Pn k 8) a) { c with QL:=c.QL++[x] }/\Td k n u a u w (b.setCell (Pn k 8) a):=Ac
theorem Gf (b:My F U k g z C B n u w c)(e d x:Int)(I:c.QL.length<=1000000000)(l:∀i R,QM k R i c.M->PN 105 #[Pm k,Ph e,Ph d] i λa w'=>a=PY (Ph (c.M.PL.length:Int))/\QM k R w' (c.M.scope e d)/\Qv Th k i w') :
  PN 50 #[Pm k,Ph e,Ph d,Ph x] w λa w'=>a=PY (Ph c.gu)/\∃f,My F U k g z C B f u w' (c.gv e d x)/\Td k n u f u w w':=by
 have O{G}(h:G:=by
 show PN 50 #[Pm k,Ph e,Ph d,Ph x] w λa w'=>a=PY (Ph (c.M.PL.length:Int))/\∃f,My F U k g z C B f u w' (c.gv e d x)/\Td k (.slice E m H) u f u w w'
 exact Eh):=Pq h;exact Km
theorem My.made (h:My F U k g z C B n u w c):Mx U k g z C B n u (w.setCell (Pn k 13) (Ph 1)) c/\Qv [84] k w (w.setCell (Pn k 13) (Ph 1)):=by
 obtain⟨r,a⟩:=h.hh.cell 11 (Ph 1);obtain⟨o,v,l,q⟩:=h.fu;exact⟨⟨h.bw.trans a.below,r,Qa h.lg a PK,Qa h.se a PK,Qa h.ow a PK,o,v,Qa l a PK,λt d p f s=>(q t d p f s).kp (λi j m b e=>a.rest i j m b (by rcases e with rfl|rfl <;> decide))⟩,a⟩
def bare:St:=⟨⟨[],[]⟩,[],0,[],[],[],0⟩
theorem aq9 (b:Below k U w)(a:w.heap[k]?=some (Qb #[RF,RF,RF,Ph 0,QB,Ph 0,RF,.map (some g),RF,RF,Ph 0,Ph 0,Ph 0,Ph 0] 84)) :
  My 0 U k g z RF RF RF RF w bare:=
 ⟨b,⟨_,_,_,_,a,Tb.nil PK,Tb.nil PK⟩,iR _ _ _ _,iR _ _ _ _,iR _ _ _ _,[],rfl,iR _ _ _ _,λf d e h=>by simp at h⟩
theorem My.zero (h:My F U k g z C B n u w c):My F U k g z C B n u (w.setCell (Pn k 11) (Ph 0)) c/\My F U k g z C B n u (w.setCell (Pn k 12) (Ph 0)) c:=by
 obtain⟨s,v,r,t⟩:=h.fu;obtain⟨D,a⟩:=h.hh.cell 9 (Ph 0);obtain⟨A,b⟩:=h.hh.cell 10 (Ph 0);exact⟨⟨h.bw.trans a.below,D,Qa h.lg a PK,Qa h.se a PK,Qa h.ow a PK,s,v,Qa r a PK,λp e q j f=>(t p e q j f).kp (λl m o d i=>a.rest l m o d (by rcases i with rfl|rfl <;> decide))⟩,
  ⟨h.bw.trans b.below,A,Qa h.lg b PK,Qa h.se b PK,Qa h.ow b PK,s,v,Qa r b PK,λp e q j f=>(t p e q j f).kp (λl m o d i=>b.rest l m o d (by rcases i with rfl|rfl <;> decide))⟩⟩
mutual
theorem Rl.qL {i:Nat->Prop}{w:Py}:∀d:Ad,Rl i w d->∀b ∈ d.TB,Cl w b
 |.mk o l p m j,h,b,a=>by
  rw[Rl] at h;obtain⟨_,_,⟨q,e,_⟩,f⟩:=h;rw[Ad.TB] at a
  rcases gE.1 a with rfl|a
  ·exact⟨_,_,e⟩
  ·exact Sl.qL j f b a
theorem Sl.qL {d:Nat->Prop}{w:Py}:∀al:List Ad,Sl d w al->∀b ∈ Ad.RQ al,Cl w b
 |[],_,b,a=>by rw[Ad.RQ] at a;cases a
 |e::al,h,b,a=>by
  rw[Sl] at h;rw[Ad.RQ] at a
  rcases gB.1 a with a|a
  ·exact Rl.qL e h.1 b a
  ·exact Sl.qL al h.2 b a
end
variable {I:Ad}
theorem BP (h:Rl (λ_=>True) w I):Qc I.TB w I (some 0,I.tr):=⟨h,rfl,[],[],by simp,rfl⟩
theorem Pt (h:Rl (λ_=>True) w I)(j:I.TB.Nodup)(f:w.cell? (Pn 1 0)=some al)(a:PG w w')(b:w'.heap[g]?=some (.map (XF (VZ I.TB)) I.TB.length)):Bs w' w'.heap.size g I.TB al/\Qc I.TB w' I (some 0,I.tr):=
 ⟨⟨rfl,b,λl d=>by
  obtain⟨i,F,e⟩:=Rl.qL I h l d;exact⟨i,F,fZ a e⟩,j,PV a f⟩,(BP h).kp (Kp.of a)⟩
def uN:St:={ bare with M:=bare.M.Qo 0 }
def qD:St:=uN.gv (-1) 0 (-1)
def nk:St:=qD.gv 0 (-1) 0
def zf:St:=({ nk with M:=nk.M.Qo 1 }:St).Ru 0 Xy (UU nk.M.objs.length) false
theorem Kp.NL {U w:Py}{k g:Nat}{z:List Nat}{al:PO}(a:Bs U k g z al)(h:Below k U w):Kp U w:=Kp.of (h.mono (iL a.sz))
theorem y7:bare.M.Small 9/\uN.M.Small 9/\qD.M.Small 9:=by
 refine⟨⟨by decide,by decide,by decide,by decide⟩,⟨by decide,by decide,by decide,by decide⟩,⟨by decide,by decide,by decide,by decide⟩⟩
theorem agG (h:Rl (λ_=>True) w I)(aQ:I.TB.Nodup)(ae:I.hU<=90000)(ak:w.cell? (Pn 1 0)=some al)(ay:∀b k g C B n u t,Mx b k g I.TB C B n u t nk->PN 52 #[Pm k,PI Xy,Ph 1] t λj w'=>j=PY (.tuple #[])/\Mx b k g I.TB C B n u w' zf/\Qv Th k t w')(aE:∀b k g C B n u t,Mx b k g I.TB C B n u t zf->PN 52 #[Pm k,PI TQ,Ph 2] t λj w'=>j=PY (.tuple #[])/\Mx b k g I.TB C B n u w' RU/\Qv Th k t w') :
  PN 27 #[Pm I.p] w λj w'=>∃b k g n,j=PY (Pm k)/\PG w b/\Bs b k g I.TB al/\Mx b k g I.TB RF RF n RF w' RU:=by
 have ax:=DF I w h aQ ae;have aT:Hid (∀w' g,PG w w'->w'.heap[g]?=some (.map (XF (VZ I.TB)) I.TB.length)->Bs w' w'.heap.size g I.TB al/\Qc I.TB w' I (some 0,I.tr)):=λ_ _ ad dl=>Pt h aQ ak ad dl;have bv:=Y ay;have aW:=Y aE;obtain⟨aJ,ap⟩:=xH I.p;rw[<-ap.out] at ax ⊢;clear h aQ ae ak ay aE;go_enter func27,ntmps27;go_wp2_with fail;refine cm ax ?_;rintro j b ⟨⟨g,rfl,_,dl⟩,ad⟩;obtain⟨q,bf⟩:=Pj aT b g ad dl
 obtain⟨L,H⟩:=xH (b.alloc (.cells #[RF,RF,RF,Ph 0,QB,Ph 0,RF,.map (some g),RF,RF,Ph 0,Ph 0,Ph 0,Ph 0] 84));obtain⟨k,o⟩:=xE b.heap.size;rw[<-o] at q;have aR:My 0 b k g I.TB RF RF RF RF L bare:=aq9 (by rw[H.out,o];exact QK) (by rw[H.out,o];exact Pz _ _)
 have bo:PN 49 #[Pm k,Ph 0] L λj w'=>j=PY (Ph 0)/\My 0 b k g I.TB RF RF RF RF w' uN/\Qv Th k L w':=(uG aR.hh y7.1 PK 0).mono (by
  rintro j w' ⟨rfl,ah,aL⟩;exact⟨rfl,aR.heap ah aL,aL⟩)
 clear dl;go_wp2_with fail;rw[<-H.out,<-o];clear o;refine cm bo ?_;rintro j be ⟨rfl,A,bN⟩;have bq:=A.lt;obtain⟨aY,a8⟩:=A.hh.at_ 9 _ rfl;obtain⟨bm,aI⟩:=xH (be.setCell (Pn k 11) (Ph 0));have r:=A.zero.1;rw[<-aI.out] at r;have br:=r.lt;have a7:=(r.hh.at_ 9 _ rfl).1;have bn:PN 50 #[Pm k,Ph (-1),Ph 0,Ph (-1)] bm λj w'=>j=PY (Ph 0)/\∃e,My 0 b k g I.TB RF RF e RF w' qD:=(Gf r (-1) 0 (-1) PK λt R f=>wv f y7.2.1 PK (-1) 0 (.inl rfl) (.inr rfl)).mono (by
  rintro j w' ⟨rfl,e,ah,_⟩;exact⟨rfl,e,ah⟩)
 go_wp2_with (rw[<-aI.out])
 refine cm bn ?_;rintro j bi ⟨rfl,bJ,D⟩;have bS:=D.lt;obtain⟨bD,bR⟩:=D.hh.at_ 10 _ rfl;obtain⟨M,aO⟩:=xH (bi.setCell (Pn k 12) (Ph 0));have p:=D.zero.2;rw[<-aO.out] at p;have bU:=p.lt;have bz:=Y (p.hh.at_ 10 _ rfl).1;have bx:Hid (∀t,PG M t->PN 51 #[Pm k,Pm aJ] t λj w'=>j=PY (Ph 0)/\w'=t):=λt f=>by
  have N:=p.fQ f;have aU:Qc I.TB t I (some 0,I.tr):=bf.kp (Kp.NL q N.bw);have:=K3 q N aU;rw[ap.out];exact this
 have a6:Hid (∀t,PG M t->PN 50 #[Pm k,Ph 0,Ph (-1),Ph 0] t λj w'=>j=PY (Ph 1)/\∃e,My 0 b k g I.TB RF RF e RF w' nk):=λt f=>(Gf (p.fQ f) 0 (-1) 0 PK λt R f=>wv f y7.2.2 PK 0 (-1) (.inr rfl) (.inl rfl)).mono (by
  rintro j w' ⟨rfl,e,ah,_⟩;exact⟨rfl,e,ah⟩)
 clear aY a8 a7 bq br
 go_wp2_with (rw[<-aO.out])
 refine UG 9 λa=>?_;refine iF ?_;refine up 3 k 0 a ?_;refine up 4 k 12 a ?_;refine uk 5 bz.out a ?_;refine up 6 k 0 a ?_;refine up 7 aJ 0 a ?_;refine QX 8 λK d=>?_;go_simp;refine cm (Pj bx _ a) ?_;rintro j bP ⟨rfl,rfl⟩;refine d.out _ _ (λ_=>a) ?_;clear d K;refine QX 9 λK d=>?_;go_simp;refine cm (Pj a6 _ a) ?_;rintro j bh ⟨rfl,bK,E⟩;refine ko d ?_;clear d K;have bE:=E.lt;obtain⟨bA,a1⟩:=E.hh.at_ 11 _ rfl;have s:=E.made.1;refine uz 10 (PZ k 0) ?_;refine uz 11 (PZ k 13) ?_
 refine VH 12 ?_;refine Ud ?_ _;go_simp;obtain⟨bQ,aK⟩:=xE (bh.setCell (Pn k 13) (Ph 1));rw[<-aK] at s ⊢;clear aK bA a1;have bF:=s.lt;go_wp2_with fail;refine cm (Pj bv _ _ _ _ _ _ _ _ s) ?_;rintro j bH ⟨rfl,aX,bG⟩;go_wp2_with fail;refine cm (Pj aW _ _ _ _ _ _ _ _ aX) ?_;rintro j bL ⟨rfl,bb,bI⟩;go_wp2_with fail;exact Uj (v:=Pm k) ⟨_,_,_,_,rfl,ad,q,bb⟩
theorem xU:Sz 10 nk:=by
 obtain⟨bB,a,d⟩:=It.pz;have b:nk=ii:=rfl;rw[b];exact a.up (by have:ii.steps=0:=rfl;omega)
theorem Ng:Sz 12 zf:=by
 have a:Sz 11 ({ nk with M:=nk.M.Qo 1 }:St):=xU.heap (gw _) (xU.go.Qo 1) rfl;exact a.Ru 0 Xy (UU nk.M.objs.length) false
theorem adM (h:Rl (λ_=>True) w I)(i:I.TB.Nodup)(d:I.hU<=90000)(e:w.cell? (Pn 1 0)=some al) :
  PN 27 #[Pm I.p] w λf w'=>∃b k g n,f=PY (Pm k)/\PG w b/\Bs b k g I.TB al/\Mx b k g I.TB RF RF n RF w' RU:=
 agG h i d e (λ_ _ _ _ _ _ _ _ a=>HE a xU PK Xy 1) (λ_ _ _ _ _ _ _ _ a=>HE a Ng PK TQ 2)
variable {da:PO}{L:List Ad}
theorem PA (d:Cx U k g z al c8){F:Tr}(a:Bk F)(j:Ms U k g z w (Rf (some 0,F) RU).2)(T:Uk 0 w da L)(q:U7 z w L (QA (some 0,F))) :
  PN 28 #[Pm k,da,QN (Rf (some 0,F) RU).1 none] w (QU U k g z al none w (Ti (fx 20002) (Rf (some 0,F) RU).1 (QA (some 0,F)) none (Rf (some 0,F) RU).2)):=by
 obtain⟨e,i,p⟩:=Yy.1.prog (d:=(some 0,F)) a Yy.2;have o:QQ 20002 9000 (Rf (some 0,F) RU).1 (Rf (some 0,F) RU).2:=⟨⟨by omega,by rw[e.st];decide,e.iv.up Pv,i⟩,by omega⟩
 exact uM d (pg 20002) (tT d 20002) o (λl f=>a.ks _ (QW f)) p (λ_ b=>by cases b) (λ_ b=>by cases b) (vS (a:=(some 0,F)) a) j T q (ad:=none) (n:=none) trivial
def kR (d:List PS)(b:Nat)(c:St):St:=(d.take b).foldl (λc a=>if c.M.has 0 a then c else c.Ru 0 a vU true) c
theorem DX (b:List PS)(a:Nat)(c:St)(d:a<b.length):kR b (a+1) c=if (kR b a c).M.has 0 b[a] then kR b a c else (kR b a c).Ru 0 b[a] vU true:=by
 unfold kR;exact qg
theorem Sz.kR (b:List PS):∀(a:Nat){c:St},Sz aH c->a<=b.length->Sz (aH+a) (kR b a c)
 |0,_,h,_=>h
 |a+1,c,h,d=>by
  rw[DX b a c Pv]
  split
  ·exact(Sz.kR b a h Pv).up Pv
  ·exact(Sz.kR b a h Pv).Ru _ _ _ _
def uQ (b:Pl)(a:Nd)(c:St):St:=(gd a b c).2.Ru 0 a.2.tx (gd a b c).1 true
def ml (d:Pl)(b:List Nd)(a:Nat)(c:St):St:=(b.take a).foldl (λc a=>uQ d a c) c
theorem Bb (e:Pl)(a:List Nd)(b:Nat)(c:St)(d:b<a.length):ml e a (b+1) c=uQ e a[b] (ml e a b c):=by
 unfold ml;exact qg
theorem Sz.ml (d:Pl)(b:List Nd):∀(a:Nat){c:St},Sz aH c->a<=b.length->Sz (aH+2 * a) (ml d b a c)
 |0,_,h,_=>h
 |a+1,c,h,e=>by
  rw[Bb d b a c Pv];exact((Sz.ml d b a h Pv).gd _ _).Ru _ _ _ _
theorem M3 (a:Nd)(c:St):Rf a c=(⟨1,0,PU a.2⟩,ml ⟨1,0,PU a.2⟩ (TK a) (TK a).length (Q5 (Qi a.2) 1 (kR (QF a.2) (QF a.2).length c))):=by
 unfold Rf ml kR;rw[gV,gV];rfl
theorem N9 (D:Mx U k g z C B n u w c)(cG:Sz aH c)(d8:aH+9000<1000000000){I:Ad}{o:Nd}(aQ:Qc z w I o)(d5:o.2.count<=1500)(aL:∀i ∈ TK o,i.2.fS.length=2) :
  PN 30 #[Pm k,Pm I.p] w λj w'=>j=PY (QN (Rf o c).1 none)/\∃cE,Mx U k g z C B n cE w' (Rf o c).2/\Td k n u n cE w w':=by
 have di:=D.lt;have bH:=M3 o c;obtain⟨H,bN⟩:=xH (w.alloc (.cells #[Ph 0,Ph 0,PD false,Rz] 73));have bL:PG w H:=by rw[bN.out];exact QK
 obtain⟨ap,b2⟩:=xE w.heap.size;have cS:H.heap[ap]?=some (Qb #[Ph 0,Ph 0,PD false,Rz] 73):=by rw[bN.out,b2];exact Pz _ _
 have cJ:w.heap.size<=ap:=Pv;have dz:=SL o.2;have aI:=aQ.kp (Kp.of bL);have dP:UN H o.2 I.p:=by rw[<-aI.tr];exact aI.at_.nat.nt
 have bP:=Yf o.2 I.p H dP Pv;have bx:=Y (λt (f:Kp H t)=>TG o.2 I.p t (by rw[<-aI.tr];exact(Rl.kp f _ aI.at_).nat.nt))
 obtain⟨e,ba⟩:=xE (QF o.2);obtain⟨q,hG⟩:=xE (TK o);obtain⟨cw,bI⟩:=xE (Qi o.2);obtain⟨r,bQ⟩:=xE (PU o.2);obtain⟨L,b5⟩:=xE (I.ks.filter λi=>Uw i.tr);have cp:U7 z H L q:=by rw[b5,hG];exact U7.filter Uw _ _ aI.l8
 have dM:L.length=q.length:=U7.len _ _ cp;have ei:q.length<=1500:=EF
 have d4:cw.length<=1500:=by
  have dg:=hu QE o.2.fS;rw[bI];show (o.2.fS.filter QE).length<=_;omega
 have d9:e.length<=1500:=by
  have b{G}(h:G:=by
  rw[ba];omega):=Pq h;exact tB
 rw[<-ba] at bP;rw[<-bQ] at bx;rw[<-ba,<-hG,<-bI,<-bQ] at bH;rw[<-hG] at aL;obtain⟨eh,cL⟩:=xE (Rf o c);rw[<-cL] at bH ⊢;obtain⟨dR,dj⟩:=xH I.p;have cP:=D.fQ bL;have dC:=Td.of (o:=n) (f:=u) bL (Qe di);have dv:=Y cS;have ci:=Y (λt (f:Rl (λ_=>True) t I)=>YF I t f (by rw[aQ.ks];omega))
 rw[<-b5] at ci;have cy:=Y (λt a (f:Mx U k g z C B n u t a) (d:Kp H t) (m:Sz (aH+1500) a)=>rA f m (aI.kp d) Pv Pv 1);rw[<-bI] at cy;have cr:=Y bH;have dN:=Y aL;have cH:=Y cJ;rw[<-dj.out] at bP bx ci cy ⊢;clear D cS bH cL ba hG bI bQ b5 aL cJ dz;go_enter func30,ntmps30;go_wp2_with fail;rw[<-bN.out,<-b2];clear b2;refine cm bP ?_;rintro j dh ⟨⟨u3,rfl,cR⟩,bq⟩;obtain⟨dY,dx,dW⟩:=P7 cR;subst dW;have dG:=cP.fQ bq;have dD:=dC.trans (Td.of bq (Qe cP.lt))
 have dc:=Y (fZ bq dv.out);have dH:Kp H dh:=Kp.of bq;go_wp2_with fail
 go_loopw [13] (λl wr=>∃i:Nat,i<=e.length/\l=Ph i/\Mx U k g z C B n u wr (kR e i c)/\Td k n u n u w wr/\wr.heap[ap]?=some (Qb #[Ph 0,Ph 0,PD false,Rz] 73)/\QV H.heap.size wr (.slice dY e.length dx) e/\Kp H wr) (λl _=>e.length - (intOf l).toNat)
 case atStart=>exact⟨0,ge _,rfl,dG,dD,dc.out,cR,dH⟩
 case round=>
  obtain⟨i,af,rfl,aX,bU,a7,cZ,bX⟩:=hrel;have A:=aX;have aJ:=bU;have ae:=Y a7;have ak:=bX;have bZ:=aX.lt;clear a7
  by_cases ax:i<e.length
  ·obtain⟨dJ,dE,s,b7,_,a8⟩:=Xi cZ i ax;have b{G}(h:G:=by
   have aW:(i:Int)<(e.length:Int):=Pv;have E:=DX e i c ax;obtain⟨x,D⟩:=xE (e[i]);rw[<-D] at a8 E;obtain⟨aK,aE⟩:=xE (kR e i c);rw[<-aE] at A E;have bn:Sz (aH+i) aK:=by rw[aE];exact Sz.kR e i cG Pv
   have a6:=Y (λt (f:PG wr t)=>Jm (A.fQ f).hh bn.go.sm Pv 0 x);have bf:=Y (λt (f:Mx U k g z C B n u t aK)=>Z4 f bn Pv 0 x vU true);have cC:=Y (A.hh.at_ 10 _ rfl).1;obtain⟨be,a1⟩:=xE (aK.M.has 0 x);rw[<-a1] at a6 E;have aO:=Y E;clear D aE a1 E;go_wp2_with fail;clear a8 b7
   cases be with
   |true=>
    have b{G}(h:G:=by
    refine uz 9 (PD false) ?_;refine Ud ?_ _;go_simp;go_wp2_with fail;refine⟨⟨i+1,by omega,by go_num,?_,bJ,bo.out,bb,aT⟩,by simp[intOf];omega⟩
    rw[aO.out,fY rfl];exact aR):=Pq h;exact zx
   |false=>
    have b{G}(h:G:=by
    refine uz 9 (PD true) ?_;refine Ud ?_ _;go_simp;have bK:=Y (aR.hh.at_ 9 _ rfl).1;go_wp2_with fail;refine UG 9 λa=>?_;refine iF ?_;refine sV ?_;refine up 5 k 11 a ?_;refine uk 6 bK.out a ?_;refine uh 7 (PI x) (a) ?_;refine uh 8 (.agg #[Ph 0,Ph 0,QB]) (a) ?_;refine QX 9 λK d=>?_;go_simp;refine cm (Pj bf _ (aR.fQ a)) ?_;rintro j aY ⟨rfl,bm,N⟩;refine ko d ?_;clear d K;have ce:=bm;have cg:=(bJ.trans (Td.of a (Qe cB))).Yw N;have cj:=Y (N.rest _ _ _ (fZ a bo.out) PK)
    have bh:=Qa (Qs bb a) N PK;have ck:Kp H aY:=λO m j ad p=>Qv.kp N O m j (Kp.of a O m j (aT O m j ad p) p) p;refine Ud ?_ _;go_simp;go_wp2_with fail;refine⟨⟨i+1,by omega,by go_num,?_,cg,cj.out,bh,ck⟩,by simp[intOf];omega⟩
    rw[aO.out,fT Qh];exact ce):=Pq h;exact zx):=Pq h;exact Vt
  ·have b{G}(h:G:=by
   obtain⟨cz,cx⟩:=xE (kR e e.length c);rw[<-cx] at A cr;have cQ:Sz (aH+1500) cz:=by rw[cx];exact(Sz.kR e e.length cG Qq).up Pv
   have cK:=Pj cy wr cz A ak cQ;obtain⟨a6,b6⟩:=xE (Q5 cw 1 cz);rw[<-b6] at cK cr;have dQ:Sz (aH+3000) a6:=by show Sz _ _;rw[b6];exact(cQ.lets cw 1).up Pv
   have dX:=(A.hh.at_ 11 _ rfl).1;clear cx b6;go_wp2_with fail;refine cm cK ?_;rintro j M ⟨rfl,bF,b8⟩;have aR:=bF;have bJ:=aJ.Yw b8;have bo:=Y (b8.rest _ _ _ ae.out PK);have aT:Kp H M:=λO m j ad p=>Qv.kp b8 O m j (ak O m j ad p) p;have cB:=bF.lt;have de:=Y (bF.hh.at_ 11 _ rfl).1;have cC:=Y (bF.hh.at_ 10 _ rfl).1;clear dX;go_wp2_with fail;refine mE (H:=λwz ay=>PG M wz/\wz.heap[ay]?=some (Qb #[Ph 1,Ph 0,PD r,Rz] 73)/\M.heap.size<=ay) (G:=?GG) (λd2=>?ways) ?rest
   case ways=>
    refine UG 12 λa=>?_;refine up 0 k 0 a ?_;refine up 1 k 0 a ?_;refine up 2 k 13 a ?_;refine uk 3 de.out a ?_;refine up 4 k 0 a ?_;refine up 5 k 0 a ?_;refine up 6 k 12 a ?_;refine uk 7 cC.out a ?_;refine up 8 dR 0 a ?_;refine jZ 9 11 (λK d=>?_) λK d=>?_
    ·go_simp;refine cm (Pj bx _ (λO m j ad p=>Kp.of a O m j (aT O m j ad p) p)) ?_;rintro j a1 ⟨rfl,rfl⟩;refine d.out _ _ (λ_=>a) ?_;clear d K;refine uh 10 (.agg #[Ph 1,Ph 0,PD r,Rz]) (a) ?_;refine QX 11 λK d=>?_;go_simp;refine kS ?_;clear d K;exact IA
    ·go_simp;refine kS ?_;clear d K;refine QX 9 λK d=>?_;go_simp;refine cm (Pj bx _ (λO m j ad p=>Kp.of (QK.drew) O m j (aT O m j ad p) p)) ?_;rintro j a1 ⟨rfl,rfl⟩;refine d.out _ _ (λ_=>QK.drew) ?_;clear d K;refine uh 10 (.agg #[Ph 1,Ph 0,PD r,Rz]) (QK.drew) ?_;exact IA
   case rest=>
    rintro wz ay ⟨bG,cT,df⟩;have bS:=aR.fQ bG;have dq:=bJ.trans (Td.of bG (Qe cB));have dp:=Y cT;have dm:=Y (fZ bG bo.out);have bR:Kp H wz:=λO m j ad p=>Kp.of bG O m j (aT O m j ad p) p;have dr:=bS.lt;have d7:ay≠ap:=λj=>by have:=fR bo.out;omega
    have ec:=Pj ci wz (Rl.kp bR _ aI.at_);clear cT df;have b{G}(h:G:=by
    go_wp2_with fail
    go_loopw [59] (λl wr=>∃(i:Nat)(cn:PO),i<=L.length/\l=Ph i/\Mx U k g z C B n cn wr (ml ⟨1,0,r⟩ q i a6)/\Td k n u n cn w wr/\wr.heap[ay]?=some (Qb #[Ph 1,Ph 0,PD r,Rz] 73)/\wr.heap[ap]?=some (Qb #[Ph 0,Ph 0,PD false,Rz] 73)/\Kp bD wr) (λl _=>L.length - (intOf l).toNat)
    case atStart=>exact⟨0,_,ge _,rfl,ef,ee,eg.out,ed.out,λ_ _ _ h _=>h⟩
    case round=>
     obtain⟨i,cn,af,rfl,aX,bU,cq,a7,bX⟩:=hrel;have b{G}(h:G:=by
     by_cases ax:i<L.length
     ·obtain⟨dJ,dE,s,b7,a8,d6⟩:=(du.kp ak).cell i ax;have b{G}(h:G:=by
      have b{G}(h:G:=by
      obtain⟨aK,aE⟩:=xE (ml ⟨1,0,r⟩ q i a6);rw[<-aE] at A;have bn:Sz (aH+3000+2 * i) aK:=by rw[aE];exact Sz.ml _ q i dQ Pv
      have cA:=Pj dN q[i] (gU _);have bi:=Y (λt (f:PG wr t)=>qz (A.fQ f) (bW.kp (Kp.of f)) cA bn Pv ⟨1,0,r⟩ none);obtain⟨bA,bh⟩:=xE ((gd q[i] ⟨1,0,r⟩ aK).1);obtain⟨bz,bf⟩:=xE ((gd q[i] ⟨1,0,r⟩ aK).2);rw[<-bh,<-bf] at bi;have d0:Sz (aH+3000+2 * i+1) bz:=by rw[bf];exact bn.gd _ _
      have cY:=Y (λt dO (f:Mx U k g z C B n dO t bz)=>Z4 f d0 Pv 0 x bA true);have cO:bz.Ru 0 x bA true=ml ⟨1,0,r⟩ q (i+1) a6:=by
       rw[Bb _ q i a6 dt,<-aE];unfold uQ;rw[<-bf,<-bh,<-D]
      rw[cO] at cY;obtain⟨aO,cU⟩:=xE ((L[i]).p);have br:=bW.gG;rw[<-cU] at a8 ea a1 bi br;have dd:=Y br;have dF:=Y a1;have bK:=Y (A.hh.at_ 9 _ rfl).1;clear D aE cA bh bf cO cU br a1;go_wp2_with fail;clear a8 b7;have a:PG wr wr.drew:=RV.drew;have E:wr.drew.heap[ay]?=some (Qb #[Ph 1,Ph 0,PD r,Rz] 73)/\wr.drew.cell? (Pn aO 1)=some (PI x)/\wr.drew.cell? (Pn k 11)=some (Ph 0):=⟨fZ a bE.out,PV a dF.out,PV a bK.out⟩
      refine Qd 15 (λt=>t.heap[ay]?=some (Qb #[Ph 1,Ph 0,PD r,Rz] 73)/\t.cell? (Pn aO 1)=some (PI x)/\t.cell? (Pn k 11)=some (Ph 0)) Qz ?_;refine up 0 k 0 E ?_;refine up 1 k 0 E ?_;refine up 2 k 0 E ?_;refine up 3 k 0 E ?_;refine up 4 k 0 E ?_;refine up 5 k 11 E ?_;refine uc 6 (Ph 0) rfl (fU ⟨by kernel_rfl,λt f=>by have aD:=f.2.2;go_simp⟩) (E) ?_
      refine up 7 aO 0 E ?_;refine up 8 aO 0 E ?_;refine up 9 aO 1 E ?_;refine uc 10 (PI x) rfl (fU ⟨by kernel_rfl,λt f=>by have aD:=f.2.1;go_simp⟩) (E) ?_
      refine up 11 k 0 E ?_;refine up 12 aO 0 E ?_;refine uc 13 (.agg #[Ph 1,Ph 0,PD r,Rz]) rfl (fU ⟨by kernel_rfl,λt f=>by have aD:=(fV f.1).1;have ah:=(fV f.1).2.1;have aL:=(fV f.1).2.2.1;have dg:=(fV f.1).2.2.2.1;go_simp⟩) (E) ?_
      refine QX 14 λK d=>?_;go_simp;refine cm (Pj bi _ a) ?_;rintro j aY ⟨rfl,d1,bm,N⟩;have bb:=A.fQ a;have bv:=(N.jy (L:=none) bb).f2 E.1 PK;have cX:aY.cell? (Pn aO 1)=some (PI x):=by
       obtain⟨m,ad⟩:=Pj dd;exact(N.kp bb).YV E.2.1 ⟨m,fZ a ad⟩
      refine d.out _ _ (λ_=>⟨bv,cX,(bm.hh.at_ 9 _ rfl).1⟩) ?_;clear d K;have d3:=bm.lt;have ce:=bm;have cg:=(aJ.trans (Td.of a (Qe bZ))).trans N;have db:=Y bv;have cj:=Y ((N.jy (L:=none) bb).f2 (fZ a ae.out) PK);have ck:Kp bD aY:=λO m j ad p=>N.kp bb O m j (Kp.of a O m j (ak O m j ad p) p) p;clear bv cX;refine QX 15 λK d=>?_;go_simp;refine cm (Pj cY _ _ ce) ?_;rintro j dK ⟨rfl,dS,be⟩;refine ko d ?_;clear d K;have dU:=cg.Yw be
      have dZ:=Y (be.rest _ _ _ db.out PK);have dT:=Y (be.rest _ _ _ cj.out PK);have dV:Kp bD dK:=λO m j ad p=>Qv.kp be O m j (ck O m j ad p) p;clear E;refine Ud ?_ _;go_simp;go_wp2_with fail;exact⟨⟨i+1,d1,by omega,by go_num,dS,dU,dZ.out,dT.out,dV⟩,by simp[intOf];omega⟩):=Pq h;exact zq):=Pq h;exact Vt
     ·have b{G}(h:G:=by
      obtain⟨aY,aO⟩:=xE ((((wr.setCell (Pn ap 0) (Ph 1)).setCell (Pn ap 1) (Ph 0)).setCell (Pn ap 2) (PD r)).setCell (Pn ap 3) Rz);rw[<-aO];have bW:=lY ae.out (Ph 1) (Ph 0) (PD r) Rz;have cU:k<=ap:=by have:=Pj cH;omega
      have N:=U8 ae.out cU (Ph 1) (Ph 0) (PD r) Rz;have a1:=aJ.new N (VJ cH.out _ _ _ _);have E:=A.ZR N PK;rw[<-aO] at bW a1 E;obtain⟨bf,bh,be,bi,_,_⟩:=fV bW;refine XE (v:=QN ⟨1,0,r⟩ none) ?_;rw[cr.out];rw[dM] at E;exact⟨rfl,_,E,a1⟩):=Pq h;exact FP):=Pq h;exact wR):=Pq h;exact IQ):=Pq h;exact tz
