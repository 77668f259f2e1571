import Derived.Test.YticfnaiehdpbmaaGreatDoorWa10
import Derived.Lib.AppendIntMem
set_option maxRecDepth 100000
set_option maxHeartbeats 0
set_option linter.all false
namespace Go.Proofs.YticfnaiehdpbmaaGreatDoor
open Go.RowKit Go.Proofs.Tryz
namespace Hp
section
variable {U:Py}{k D:Nat}{A:List Nat}{z bE ak bD aR:PO}{w w' w2:Py}{σ:St}{cR:Nat}
theorem Mx.fW (b:Mx U k D A bE ak bD aR w σ)(a:Nat):Mx U k D A bE ak bD aR (w.setCell (Pn k 10) (Ph (a:Int))) { σ with fW:=a }/\Qv [84] k w (w.setCell (Pn k 10) (Ph (a:Int))):=by
 obtain⟨o,d⟩:=b.hh.cell 8 (Ph (a:Int));have c:Qv Th k w (w.setCell (Pn k 10) (Ph (a:Int))):=⟨d.below,λj a l e i=>d.rest j a l e (λh=>i (by rw[gn.1 h];decide))⟩
 obtain⟨m,n,f,g⟩:=b.fu;exact⟨⟨b.bw.trans c.below,o,Qa b.lg c PK,Qa b.se c PK,Qa b.ow c PK,m,n,Qa f c PK,λp e j i l=>(g p e j i l).kp (Qv.kp c)⟩,d⟩
theorem Pa (b:Nat)(a:Nat)(c:FrameMode)(w:Py)(i:w.cell? (Pn b 0)=some (PZ k 0))(g:w.cell? (Pn k 10)=some (Ph ((a+1:Nat):Int)))(f:w.frozen? (Pn k 10)=false)(j:a<=40) :
  CallsD prog 338 #[PZ b 0] c w λd e w'=>e=c/\(d=PY (.tuple #[])/\w'=w.setCell (Pn k 10) (Ph (a:Int))):=by
 go_enter_d func338,ntmps338
 go_wp2
 go_end0
 exact⟨rfl,rfl⟩
def vV (w d:Py):Prop:=∀(b:Nat) c (a:TypeId),w.heap[b]?=some (Qb c a)->a≠84->d.heap[b]?=some (Qb c a)
theorem OR (C:Mx U k D A bE ak bD aR w σ)(aZ:σ.fW<40){B:Nat}{T:Array PO}(bP:WU B){a:(Va×Er)×St}(N:a.2.fW=σ.fW+1)(ay:∀b,Mx U k D A bE ak bD aR b { σ with fW:=σ.fW+1 }->vV w b->w.heap.size<=b.heap.size->PN B T b (Qg U k D A z b a)) :
  PN 319 #[Pm k,.func (.func B) #[] T] w (Qg U k D A z w (a.1,{ a.2 with fW:=a.2.fW - 1 })):=by
 have bO:=X9;have aL:=C.lt;obtain⟨ax,u⟩:=C.fW (σ.fW+1);obtain⟨i,H⟩:=xH (w.setCell (Pn k 10) (Ph ((σ.fW:Int)+1)));have O:((σ.fW+1:Nat):Int)=(σ.fW:Int)+1:=by push_cast;rfl
 rw[O,<-H.out] at ax u;have g:i.heap.size=w.heap.size:=by rw[H.out];simp
 obtain⟨w2,q⟩:=xH ((i.alloc (.cells #[Pm k] 62)).alloc (.cells #[Ph 0,Ph 0,QB] 65));have p:PG i w2:=by rw[q.out];exact QK.alloc Qh _
 obtain⟨l,al⟩:=xH w.heap.size;obtain⟨c,o⟩:=xH (w.heap.size+1);have L:w2.heap[l]?=some (Qb #[Pm k] 62):=by rw[q.out,al.out,<-g];exact f8 (Pz _ _)
 have af:w2.heap[c]?=some (Qb #[Ph 0,Ph 0,QB] 65):=by
  rw[q.out,o.out,<-g,show i.heap.size+1=(i.alloc (.cells #[Pm k] 62)).heap.size by simp];exact Pz _ _
 have a1:=ax.fQ p;have aQ:vV w w2:=λf n d e j=>by
  rw[p.block f (by rw[g];exact gM e)]
  exact u.rest f n d e (by simpa using j)
 have ah:w.heap.size<=w2.heap.size:=by rw[<-g];exact p.size
 have aE:Qj none k w w2:=(Qj.j6 (L:=none) (⟨u.below,λf n d e j=>u.rest f n d e (λh=>j (by rw[gn.1 h];decide))⟩:Qv Th k w i)).trans (Qj.of p (by rw[g];exact Qe aL))
 have a6:=ay w2 a1 aQ ah;obtain⟨bi,bm⟩:=C.hh.at_ 8 _ rfl;have bB:(σ.fW:Int)≠40:=Pv;have br:(σ.fW:Int)<40:=Pv;have bJ:(0:Int)<=(σ.fW:Int):=Pv;have I:a.2.fW=σ.fW+1:=N;obtain⟨b,au⟩:=xH a.1.1;obtain⟨bR,t⟩:=xH ((a.1,{ a.2 with fW:=a.2.fW - 1 }):(Va×Er)×St);rw[<-t.out];have X:=Y I;have aO:=Y L;have aU:=Y af;clear ay N L af ah g O I aZ
 go_enter_defers func319,ntmps319
 go_wp2_with fail;rw[<-H.out,<-q.out,<-o.out,<-al.out];clear bi bm;refine cm a6 ?_;rintro d aJ ⟨⟨ae,rfl,aI⟩,M,E⟩;rw[<-au.out];have F:=Y (E.f2 aU.out PK);have a7:=Y (E.f2 aO.out PK);have aX:=aE.trans E;have bK:=M.lt;obtain⟨bI,bz,bA,s,bQ⟩:=f7 F.out;have bF:=s 0;have bG:=s 1;have bH:=s 2;clear s;go_wp2_with fail;obtain⟨r,P⟩:=xE (((aJ.setCell (Pn c 0) (Ph b.k)).setCell (Pn c 1) (Ph b.n)).setCell (Pn c 2) (PI b.s));rw[<-P];have ad:=l9 F.out (Ph b.k) (Ph b.n) (PI b.s)
 have a8:k<=c:=by have:=Pj o;omega
 have aW:w.heap.size<=c:=by have:=Pj o;omega
 have m:=TL F.out a8 (Ph b.k) (Ph b.n) (PI b.s);have S:=aX.ia m (U6 aW _ _ _);have R:=M.ZR m PK;rw[<-P] at ad S R m;have bb:=aI.RP m PK;have bf:=m.rest l _ _ a7.out PK;obtain⟨bn,bo,bv,bx,ap⟩:=R;obtain⟨aD,aH⟩:=ap.hh.at_ 8 _ rfl;obtain⟨be,v⟩:=ap.fW σ.fW;have bj:r.cell? (Pn k 10)=some (Ph ((σ.fW+1:Nat):Int)):=by rw[<-X.out];exact aD
 have ba:r.cell? (Pn l 0)=some (PZ k 0):=by rw[cell_of bf];rfl
 have bq:k≠c:=by have:=Pj o;omega
 refine leaves_cons (f:=338) (args:=#[PZ l 0]) Qh (by simp[go_sem]) ?_;refine(Pa l σ.fW .returning r ba bj aH Pv).mono ?_;rintro d bL bN ⟨rfl,rfl,rfl⟩;have bh:=v.rest c _ _ ad PK;obtain⟨aM,aT,aK,_,_⟩:=f7 bh
 show Leaves _ _ _ _ [] .returning _
 refine⟨.tuple #[vA b,ae],by simp[results,results319,go_sem,aM,aT,aK],⟨ae,?_,?_⟩,?_,?_⟩
 ·rw[t.out,au.out]
 ·rw[t.out];exact bb.RP v PK
 ·rw[t.out];have aY:({ a.2 with fW:=a.2.fW - 1 }:St)={ a.2 with fW:=σ.fW }:=by rw[X.out];rfl
  show Ms _ _ _ _ _ ({ a.2 with fW:=a.2.fW - 1 }:St)
  rw[aY];exact⟨_,_,_,_,be⟩
 ·exact S.trans (Qj.j6 (⟨v.below,λf n d e j=>v.rest f n d e (λh=>j (by rw[gn.1 h];decide))⟩:Qv Th k r _))
theorem ail (b:Ms U k D A w σ)(p:σ.fW=40)(aR:PO) :
  PN 319 #[Pm k,aR] w (Qg U k D A z w ((vU,ga Vp),σ)):=by
 have C:=b.lt;obtain⟨w2,g⟩:=xH ((w.alloc (.cells #[Pm k] 62)).alloc (.cells #[Ph 0,Ph 0,QB] 65));have f:PG w w2:=by rw[g.out];exact QK.alloc Qh _
 obtain⟨a,d⟩:=xH (w.heap.size+1);have s:w2.heap[a]?=some (Qb #[Ph 0,Ph 0,QB] 65):=by
  rw[g.out,d.out,show w.heap.size+1=(w.alloc (.cells #[Pm k] 62)).heap.size by simp];exact Pz _ _
 have o:=b.fQ f;have M:=o.lt;have N:=VI (es:=z) M Vp;obtain⟨bE,ak,bD,aR,b⟩:=b;obtain⟨t,R⟩:=b.hh.at_ 8 _ rfl;rw[p] at t;have H:=Y s;clear s p
 go_enter_defers func319,ntmps319
 go_wp2_with fail;rw[<-g.out,<-d.out];clear t R;refine cm N ?_;rintro al v ⟨⟨r,rfl,u⟩,i⟩;have j:=Y (fZ i H.out);have P:=o.fQ i;have L:=Qj.of (L:=none) (f.trans (i.mono f.size)) (Qe C);obtain⟨ah,S,X,e,ap⟩:=f7 j.out;have ad:=e 0;have ae:=e 1;have af:=e 2;clear e;go_wp2_with fail;obtain⟨T,l⟩:=xE (((v.setCell (Pn a 0) (Ph 0)).setCell (Pn a 1) (Ph 0)).setCell (Pn a 2) (QB));rw[<-l];have q:=l9 j.out (Ph 0) (Ph 0) (QB)
 have O:k<=a:=by have:=Pj d;omega
 have I:w.heap.size<=a:=by have:=Pj d;omega
 have c:=TL j.out O (Ph 0) (Ph 0) (QB);have n:=L.ia c (U6 I _ _ _);have m:=P.ZR c PK;rw[<-l] at q n m c;obtain⟨E,F,B,_,_⟩:=f7 q
 show Leaves _ _ _ _ [] .returning _
 exact⟨.tuple #[vA vU,r],by simp[results,results319,go_sem,E,F,B,vU],⟨r,rfl,u.RP c PK⟩,m,n⟩
theorem xR (e:Mx U k D A bE ak bD aR w σ)(j:σ.fW<=40){d:Nat}{c:Array PO}(g:WU d){a:St->(Va×Er)×St}(f:σ.fW≠40->(a { σ with fW:=σ.fW+1 }).2.fW=σ.fW+1)(i:σ.fW≠40->∀b,Mx U k D A bE ak bD aR b { σ with fW:=σ.fW+1 }->vV w b->w.heap.size<=b.heap.size->PN d c b (Qg U k D A z b (a { σ with fW:=σ.fW+1 }))) :
  PN 319 #[Pm k,.func (.func d) #[] c] w (Qg U k D A z w (within σ a)):=by
 unfold Hp.within
 split
 ·rename_i h;exact ail ⟨_,_,_,_,e⟩ h _
 ·rename_i h;exact OR e Pv g (f h) (i h)
def ZV (a:Va):List PO:=[Ph a.k,Ph a.n,PI a.s]
def my (b:Nat)(w:Py)(c:PO)(a:List Va):Prop:=w.ownsRow b 65 3 c a.length (a.flatMap ZV)
variable {X:Fx}
theorem my.nil (a:Nat)(w:Py):my a w RF []:=⟨rfl,fU ⟨rfl,rfl⟩⟩
theorem my.f2 {l:Nat}{a:PO}{b:List Va}(h:my l w a b)(c:Qj none k w w'):my l w' a b:=j3 h λ_ _ _ d=>c.f2 d PK
def JC (U:Py)(k D:Nat)(A:List Nat)(z:PO)(w:Py)(a:(List Va×Er)×St)(d:Ending)(w':Py):Prop:=
 (∃c b,d=PY (.tuple #[c,b])/\my w.heap.size w' c a.1.1/\Yu z w' b a.1.2)/\Ms U k D A w' a.2/\Qj none k w w'
theorem aye:(prog.info? 65).map (λa=>(a.zero,a.size,a.bytes))=some (some (.agg #[Ph 0,Ph 0,QB]),3,32):=by kernel_rfl
theorem Up (w:Py)(H:Nat)(d:w.heap.size=H)(b:Va)(a:Nat)(c:PO)(h:(ZV b)[a]?=some c) :
  (w.alloc (.cells #[Ph b.k,Ph b.n,PI b.s] 65)).cell? (((Pn H 0):Addr).add a)=some c:=by
 subst d;unfold ZV at h
 rcases a with _|_|_|a <;> simp at h
 all_goals subst h;simp[Addr.add]
theorem val_one (c:Va):∀b ∈ ZV c,b.oneCell'=true:=by
 intro b a;unfold ZV at a;simp at a
 rcases a with rfl|rfl|rfl <;> rfl
section
variable {b:Pl}{c:Nd}{d:List Nd}{e:List Va}{f:Va}
include b c d e f
theorem FQ {a:St}(h:X.v c b σ=((f,.no),a)):Vq X b (c::d) e σ=Vq X b d (e++[f]) a:=by rw[Vq,h]
theorem CB {a:Er}{g:St}(h:X.v c b σ=((f,a),g))(j:a≠.no):Vq X b (c::d) e σ=(([],a),g):=by
 rw[Vq,h];exact vm
end
theorem IU (bJ:ip z)(l:Ms U k D A w σ){bA:PO}{e:List Ad}{d:List Nd}(T:Uk 0 w bA e)(be:U7 A w e d)(cK:d.length<=1000000)(q:Pl)(n:Option Addr)(P:St->Prop)(hP:P σ)(a6:∀a ∈ d,∀σ,P σ->UH U k D A z σ a q (X.v a q σ)/\∀v p,X.v a q σ=((v,.no),p)->P p) :
  PN 293 #[Pm k,bA,QN q n] w (JC U k D A z w (Vq X q d [] σ)):=by
 obtain⟨b5,bY,b0,bL,bS⟩:=g2 aye;have bN:=l.lt;have b{G}(h:G:=by
 have bZ:w.heap.size<=H:=Pv;have bf:=U7.len _ _ be;obtain⟨aL,bh⟩:=xH (Vq X ⟨c,B,C⟩ d [] σ);rw[<-bh.out];have ba:=l.fQ aI;have a8:=Qj.of (L:=none) aI (Qe bN);have bO:=Y E;have bW:=T.fQ aI;have cg:=U7.kp (Kp.of aI) _ _ be;have cj:=Y hP;have bK:=Y a6;have b4:=aI.size;obtain⟨cA,cC,bH⟩:=T.form;subst bH;have bX:=ba.lt;have aM:=Y bf;have cw:e.length<=1000000:=Pv;clear E hP a6 bZ bf;go_enter func293,ntmps293;go_wp2_with fail;rw[<-a1.out,<-aO];clear aO
 go_loopw [8,15] (λa aJ wr=>∃(i:Nat)(g:List Va)(j:St),i<=e.length/\aJ=Ph i/\g.length=i/\my w2.heap.size wr a g/\Ms U k D A wr j/\P j/\Qj none k w2 wr/\aL=Vq X ⟨c,B,C⟩ (d.drop i) g j) (λ_ aJ _=>e.length - (intOf aJ).toNat)
 case atStart=>exact⟨0,[],σ,ge _,rfl,rfl,my.nil _ _,ba,cj.out,Qj.of RV (Qe bX),bh.out⟩
 case round=>
  obtain⟨i,g,j,cr,rfl,bj,bn,l,br,m,bq⟩:=hrel;have bz:=bn;have b8:=Y br;have aK:=Y bq;have bF:=Y bj;have cL:=l.lt;obtain⟨aW,bb,bG⟩:=P7 bn;subst bG;have cP:=m.below.size;clear br bq bj
  by_cases af:i<e.length
  ·have a7:i<d.length:=by rw[<-aM.out];exact af
   obtain⟨cE,cB,s,cJ,L,cz⟩:=(bW.kp m.Ve).cell i af;have b{G}(h:G:=by
   have b3:(i:Int)<(e.length:Int):=Pv;obtain⟨bU,bo⟩:=Pj bK d[i] (gU _) j b8.out;have ah:=bU wr e[i] n l ((U7.get _ _ cg i af a7).kp m.Ve);obtain⟨cQ,aX⟩:=xE ((e[i]).p);rw[<-aX] at L ah
   rcases ax:X.v d[i] ⟨c,B,C⟩ j with ⟨⟨a,aZ⟩,p⟩
   rw[ax] at ah;have ce:=Y bo;have ay:=Y ax;have bv:d.drop i=d[i]::d.drop (i+1):=h7 a7;have bx:=Y bv;obtain⟨bI,ci,bQ,bP,_,b1⟩:=fV (m.f2 bO.out PK);have aT:Hid (g.length=i):=bF;clear bo aX ax bv;go_wp2_with fail;refine cm ah ?_;rintro N f ⟨⟨b2,rfl,ae⟩,aE,aH⟩;have aD:=m.trans aH;have cn:=bz.f2 aH;have bi:=aE.lt;have cM:wr.heap.size<=f.heap.size:=aH.below.size;clear bI ci bQ bP b1 L
   by_cases o:aZ=.no
   ·subst o;have al:b2=RI:=ae;subst al;obtain⟨ad,O⟩:=xH g.length;have ck:ad=i:=by rw[O.out];exact Pj aT
    have S:f.ownsRow w2.heap.size 65 3 (.slice aW ad bb) ad (g.flatMap ZV):=by rw[O.out];exact cn
    rw[<-O.out];have cq:ad<=1000000:=Pv;clear ck
    go_wp2_with (at_builtin;refine wpList_append_lies _ rfl _ _ 311 rfl w2.heap.size 65 b5 _ 3 32 underlying311 bY b0 bL bS rfl PK _ _ _ rfl ((S.alloc _).alloc _) (Pn (f.heap.size+1) 0) 1 1 (ZV a) rfl rfl (Up (f.alloc (.cells #[Ph a.k,Ph a.n,PI a.s] 65)) _ Qh a) (val_one a) PK (by unfold maxLen;omega) Pv SC (f.heap.size+2) Qh ?_)
    intro cG cp aY hown' bm b6 _;have M:PG f ((f.alloc (.cells #[Ph a.k,Ph a.n,PI a.s] 65)).alloc (.cells #[Ph a.k,Ph a.n,PI a.s] 65)):=QK.alloc Qh _;have bB:Qv [65] k ((f.alloc (.cells #[Ph a.k,Ph a.n,PI a.s] 65)).alloc (.cells #[Ph a.k,Ph a.n,PI a.s] 65)) aY:=Qv.grown bm (by have:=M.size;omega) λF r=>by
     obtain⟨ap,L⟩:=QZ ((S.alloc _).alloc _) r;exact⟨by have:=(Qm S F r).2;omega,ap,65,L,by simp⟩
    have b7:=(aE.fQ M).ZR bB PK;have bR:Qj none k w2 aY:=by
     refine⟨aD.below.trans ((M.mono (Qe bi)).trans bB.below),λF ap N r o aU=>?_⟩;have t:=fZ M (aD.rest F ap N r o aU);refine(bm.block F (fR t) (λN=>?_)).trans t;have cx:=(Qm S F N.symm).2;have cy:=fR r;omega
    clear b6;go_wp2
    go_roundw
    case rel=>
     refine⟨i+1,g++[a],p,by omega,by go_num,by rw[gg,aT.out];rfl,?_,b7,Pj ce a p ay.out,bR,?_⟩
     ·refine mq ?_;rw[gg,iT,<-O.out];simpa using hown'
     ·rw[aK.out,bx.out];exact FQ ay.out
    case measure=>simp[intOf];omega
   ·obtain⟨t,F,al⟩:=ae.X8 o bJ;subst al;have u:aL=(([],aZ),p):=by rw[aK.out,bx.out];exact CB ay.out o
    have au:=Y u;clear u o;go_wp2_with fail;have r:=(gi f.heap.size f).alloc Qq (.cells #[Ph a.k,Ph a.n,PI a.s] 65);refine Uj (v:=.tuple #[RF,.iface t F]) ?_;rw[au.out];exact⟨⟨_,_,rfl,my.nil _ _,ae.fQ r⟩,aE.fQ r,a8.trans (aD.trans (Qj.of (L:=none) r (Qe bi)))⟩):=Pq h;exact Vt
  ·have a:i=e.length:=Pv;have u:aL=((g,.no),j):=by rw[aK.out,a,aM.out,lS];rfl
   have au:=Y u;have b3:¬ (i:Int)<(e.length:Int):=Pv;clear u a;go_wp2_with fail;refine Uj (v:=.tuple #[.slice aW g.length bb,RI]) ?_;rw[au.out];exact⟨⟨_,_,rfl,N6 bz b4,rfl⟩,l,a8.trans m⟩):=Pq h;exact mQ
abbrev kV (w : Py) : Prop := Lib.TabIs prog w "internal/strconv.uint64pow10" .u64 Lib.pow10Tab
theorem Ms.FB (h:Ms U k D A w σ)(b:Bs U k D A z)(a:kV U):kV w:=Lib.tabBelow_of_tabIs a w (by rw[b.sz];exact h.below)
theorem ah9 (a:Bool)(w:Py):PN 131 #[PD a] w λb w'=>b=PY (PI (if a then o4 else pa))/\w'=w:=by
 have h:PN 207 #[PD a] w λb w'=>b=PY (PI (if a then o4 else pa))/\w'=w:=by
  cases a
  all_goals
   go_enter func207,ntmps207;go_wp2;go_ret;exact⟨rfl,rfl⟩
 obtain⟨d,c⟩:=xE ((if a then o4 else pa));rw[<-c] at h ⊢;clear c;go_enter func131,ntmps131;go_wp2_with fail;refine cm h ?_;exact xd
theorem aga (f:Ms U k D A w σ)(a:Int):PN 134 #[Pm k,Ph a] w λb w'=>b=PY (PI (if σ.M.gA a≠0 then QY else ZF))/\w'=w:=by
 obtain⟨_,_,_,_,g⟩:=f;obtain⟨i,d⟩:=xE (σ.M.gA a);have c:=y4 g.hh a;rw[<-d] at c ⊢;clear d
 by_cases e:i=0
 ·subst e;rw[fT Qh];go_enter func134,ntmps134;go_wp2_with fail;refine cm c ?_;exact xd
 ·rw[fY e];go_enter func134,ntmps134;go_wp2_with fail;refine cm c ?_;exact xd
theorem s1 (N:Bs U k D A z)(M:kV U)(L:Ms U k D A w σ)(e:Va)(p:-9223372036854775808<=e.n/\e.n<=9223372036854775807):PN 61 #[Pm k,vA e] w λi w'=>i=PY (PI (σ.M.hE e))/\PG w w':=by
 have g:=(gi w.heap.size w).alloc Qq (.cells #[Ph e.k,Ph e.n,PI e.s] 65);have o:=L.fQ g;have H:=o.FB N M;have q:=Y p;clear p;obtain⟨f,a,d⟩:=e
 by_cases u:f=0
 ·subst u;have b:σ.M.hE ⟨0,a,d⟩=Tt:=rfl;exact tW
 by_cases v:f=1
 ·subst v;have b:σ.M.hE ⟨1,a,d⟩=r9:=rfl;exact tW
 by_cases r:f=2
 ·subst r;obtain⟨F,n⟩:=xE (Va.jv ⟨2,a,d⟩);obtain⟨ak,c⟩:=xE ((if F then o4 else pa));have b:σ.M.hE ⟨2,a,d⟩=ak:=by rw[c,n];rfl
  rw[b];have s:=Yr ⟨2,a,d⟩ (w.alloc (.cells #[Ph 2,Ph a,PI d] 65));rw[<-n] at s;have C:=Y (λI=>ah9 F I);rw[<-c] at C;clear b n c;go_enter func61,ntmps61;go_wp2_with fail;refine cm s ?_;rintro i l ⟨rfl,O⟩;have m:=g.trans (O.mono g.size);go_wp2_with fail;refine cm (Pj C l) ?_;rintro i P ⟨rfl,rfl⟩;go_wp2;go_ret;exact⟨rfl,m⟩
 by_cases t:f=3
 ·subst t;have b:σ.M.hE ⟨3,a,d⟩=nG a:=rfl;rw[b];have s:=Tryz.strconv_Itoa a q.out.1 q.out.2 _ H;obtain⟨ak,c⟩:=xE (nG a);have n:(⟨(Lib.itoa a).toArray⟩:PS)=ak:=by rw[c];rfl
  rw[n] at s;rw[<-c];clear b c n;go_enter func61,ntmps61;go_wp2_with fail;refine cm s ?_;rintro i l ⟨rfl,C,F,j⟩;have m:PG w l:=by
   show Below _ _ _
   rw[j];exact g.trans (Lib.below_grow _ _ g.size C F)
  clear j;go_wp2;go_ret;exact⟨rfl,m⟩
 by_cases B:f=4
 ·subst B;have b:σ.M.hE ⟨4,a,d⟩=d:=rfl;exact tW
 by_cases E:f=5
 ·subst E;have n:=aga o a;obtain⟨ak,c⟩:=xE ((if σ.M.gA a≠0 then QY else ZF));have b:σ.M.hE ⟨5,a,d⟩=ak:=by rw[c];rfl
  rw[b];rw[<-c] at n;clear b c;go_enter func61,ntmps61;go_wp2_with fail;refine cm n ?_;rintro i l ⟨rfl,j⟩;rw[j];clear j;go_wp2;go_ret;exact⟨rfl,g⟩
 have b:σ.M.hE ⟨f,a,d⟩=PE:=by unfold Mo.hE;simp[u,v,r,t,B,E]
 exact tW
structure U9 (w:Py)(u:PO)(vs:List Va):Prop where
 form:∃ao cap,u=.slice ao vs.length cap
 at_:∀(i:Nat) v,vs[i]?=some v->∃g o cap c,u=.slice (some (Pn g o)) vs.length cap/\w.heap[g]?=some (Qb c 65)/\c[o+i * 3]?=some (Ph v.k)/\c[o+i * 3+1]?=some (Ph v.n)/\c[o+i * 3+2]?=some (PI v.s)
variable {L:Option Nat}{al:PO}{g:List Va}
section
variable (h:U9 w al g)
include h
theorem U9.f2 (c:∀(b:Nat) a,w.heap[b]?=some (Obj.cells a 65 (0,0))->w'.heap[b]?=some (Obj.cells a 65 (0,0))):U9 w' al g:=
 ⟨h.form,λl n f=>by obtain⟨b,m,i,a,j,d,e⟩:=h.at_ l n f;exact⟨b,m,i,a,j,c b a d,e⟩⟩
theorem U9.fQ (a:PG w w'):U9 w' al g:=h.f2 λ_ _ b=>fZ a b
theorem U9.jy (a:Qj none k w w'):U9 w' al g:=h.f2 λ_ _ b=>a.f2 b PK
theorem U9.cells {i:Nat}{c:Va}(l:g[i]?=some c):∃a b e,al=.slice (some (Pn a b)) g.length e/\a<w.heap.size/\w.cell? (Pn a (b+i * 3))=some (Ph c.k)/\w.cell? (Pn a (b+i * 3+1))=some (Ph c.n)/\w.cell? (Pn a (b+i * 3+2))=some (PI c.s):=by
 obtain⟨a,b,e,o,n,d,j,f,m⟩:=h.at_ i c l;refine⟨a,b,e,n,fR d,?_,?_,?_⟩
 ·simp[World.cell?,d,j]
 ·simp[World.cell?,d,f]
 ·simp[World.cell?,d,m]
end
theorem DA (x y:List UInt8)(a:List (List UInt8)):Lib.join (x::y::a) [32]=x++([32]++Lib.join (y::a) [32]):=by simp[Lib.join,List.intercalate,List.intersperse]
theorem Dc:∀(a:List ByteArray),(⟨(Lib.join (a.map (·.data.toList)) [32]).toArray⟩:ByteArray)=YU a
 |[]=>rfl
 |[b]=>by
  rw[YU,hv,List.map_nil,Lib.join_one]
 |b::c::a=>by
  have h:=Dc (c::a);rw[YU,hv,hv,DA,<-h];unfold Y0;simp;intro h;cases h
theorem join_le:∀(b:List ByteArray),(∀x ∈ b,x.size<=3000)->(Lib.join (b.map (·.data.toList)) [32]).length<=3001 * b.length
 |[],_=>by simp[Lib.join,List.intercalate]
 |[a],h=>by
  have:=h a gt;rw[hv,List.map_nil,Lib.join_one];simp;omega
 |a::f::b,h=>by
  have c:=join_le (f::b) (λx d=>h x (gO _ d));have i:=h a gt;have e:a.data.toList.length=a.size:=by simp
  rw[hv,hv,DA,gg,gg,e];rw[hv] at c;simp only[g4,kv] at c ⊢;omega
theorem aqr {l:Nat}{a:List ByteArray}(h:QV l w al a)(r:a.length<=1000)(m:∀x ∈ a,x.size<=3000):PN 318 #[al,PI ⟨#[32]⟩] w λi w'=>i=PY (PI (YU a))/\PG w w':=by
 rcases mC a.length with c|c
 ·obtain⟨e,f,rfl⟩:=P7 h;rw[c];obtain rfl:=mP c;exact(Tryz.strings_Join_none e f ⟨#[32]⟩ w).mono λi w' ⟨b,d⟩=>⟨b,by rw[d];exact RV⟩
 ·obtain⟨j,f,rfl,q,_⟩:=World.ownsRow.form h c;have n:a.length<=f:=by
   rcases h.2 with ⟨b,_⟩|⟨p,e,o,b,_,_,d,_⟩
   ·
    cases b
   ·simp only[g7] at b;omega
  rw[<-Dc];exact Tryz.strings_Join j 0 f a ⟨#[32]⟩ w (λo x e=>by
   rw[h3];have p:=(gs.1 e).1;rw[World.ownsRow.cellAt h o Pv];simp[e]) (World.ownsRow.lt h j rfl).2 Pv n (by have:=join_le a m;show (Lib.join _ [32]).length<=_;omega)
theorem S4 (bi:Bs U k D A z)(bh:kV U)(ay:Ms U k D A w σ)(T:U9 w al g)(ba:g.length<=1000)(aH:∀v ∈ g,(-9223372036854775808<=v.n/\v.n<=9223372036854775807)/\(σ.M.hE v).size<=3000)(b2:σ.hF.length<=1000000000) :
  PN 299 #[Pm k,al] w λj w'=>j=PY (.tuple #[])/\Ms U k D A w' { σ with hF:=σ.hF++[YU (g.map σ.M.hE)] }/\Qj none k w w':=by
 obtain⟨a7,aX,aY,aO,aW⟩:=g2 iQ;have bm:=ay.lt;have bH:=ay;have br:=T;have a8:=Y (λ(v:Va) (n:v ∈ g) (t:Py) (f:PG w t)=>s1 bi bh (ay.fQ f) v (aH v n).1);have bx:=Y aH;obtain⟨bW,bY,s⟩:=T.form;subst s;clear aH;go_enter func299,ntmps299;go_wp2_with fail
 go_loopw [4,9] (λaM l wr=>∃i:Nat,i<=g.length/\l=Ph i/\QV w.heap.size wr aM ((g.take i).map σ.M.hE)/\PG w wr) (λ_ l _=>g.length - (intOf l).toNat)
 case atStart=>exact⟨0,ge _,rfl,Xu _ _,RV⟩
 case round=>
  obtain⟨i,af,rfl,a6,a1⟩:=hrel;have ap:=a6;have M:=a1;obtain⟨u,C,rfl⟩:=P7 a6;have bq:=a1.size
  by_cases aE:i<g.length
  ·obtain⟨v,n⟩:=xE (g[i]);have ae:g[i]?=some v:=by rw[n];exact gq aE
   obtain⟨b1,aM,bX,s,bI,bn,bo,p⟩:=(br.fQ M).cells ae;simp only[g7] at s;obtain⟨rfl,_,rfl⟩:=s;have bZ:(i:Int)<(g.length:Int):=Pv;obtain⟨x,o⟩:=xE (σ.M.hE v);have aQ:=Y (Pj a8 v (gC ae));rw[<-o] at aQ;have bv:=Y o;obtain⟨q,E⟩:=xE ((g.take i).map σ.M.hE);have N:q.length=i:=by rw[E];simp;omega
   have bz:=Y E;rw[<-E] at ap ⊢;have bN:World.ownsRow wr w.heap.size 9 1 (.slice u i C) i (q.map Value.string):=by
    have h:World.ownsRow wr w.heap.size 9 1 (.slice u q.length C) q.length (q.map Value.string):=ap;rw[N] at h;exact h
   rw[N];have bP:=Y N;have be:=Y ae;clear o E N n ae;go_wp2_with fail;obtain⟨w2,c⟩:=xE (wr.alloc (.cells #[Ph v.k,Ph v.n,PI v.s] 65));obtain⟨bQ,ax⟩:=xE wr.heap.size;have aI:w2.heap[bQ]?=some (ZT v):=by rw[c,ax];exact Pz _ _
   have bF:=Y (f7 aI);have B:PG w w2:=by show Below _ _ _;rw[c];exact M.alloc bq _
   have bR:=Qs bN (show PG wr w2 by rw[c];exact QK)
   have bS:k<w2.heap.size:=by have:=B.size;omega
   have F:=fR aI;rw[<-c,<-ax];clear c ax aI bn bo p bI;refine UG 5 λa=>?_;refine uh 0 (.slice u i C) (a) ?_;refine up 1 k 0 a ?_;refine up 2 k 0 a ?_;refine up 3 k 0 a ?_;refine jY 4 bF.out a ?_;refine QX 5 λK d=>?_;go_simp;refine cm (Pj aQ _ (B.drew)) ?_;rintro j b ⟨rfl,H⟩;refine ko d ?_;clear d K;have aJ:=B.drew.trans (H.mono B.drew.size);have aK:=Qs bR ((gi _ w2).drew.trans H);have bf:=aJ.size;refine VH 6 ?_;refine QX 7 λK d=>?_
   refine step_append_lies _ rfl _ _ 26 rfl w.heap.size 9 a7 (PI ByteArray.empty) 1 16 i7 aX aY aO aW rfl PK _ _ _ rfl (aK.alloc _) (Pn b.heap.size 0) 1 1 [PI x] rfl rfl (Xv b x _ rfl) (o7 x) PK (by unfold maxLen;omega) Pv SC (b.heap.size+1) Qh ?_
   intro bG bb bU hown' bJ bK _;refine ko d ?_;clear d K;have bA:=(aJ.alloc bf (.cells #[PI x] 9)).grown bJ SC (λO ad=>(Qm aK O ad).2);clear bK;refine uz 8 (.slice (some (Pn bG 0)) (i+1) bb) ?_;refine Ud ?_ _;go_simp;go_wp2
   go_roundw
   case rel=>
    refine⟨i+1,by omega,by go_num,?_,bA⟩;have bL:g.take (i+1)=g.take i++[v]:=by
     rw[ha aE];have aT:=Pj be;rw[gq aE] at aT;cases aT;rfl
    rw[bL,hc,<-bz.out];refine mq ?_;rw[gg,hc,bP.out]
    show World.ownsRow _ _ _ _ _ _ (_++[Value.string (σ.M.hE v)])
    rw[<-bv.out];exact hown'
   case measure=>simp[intOf];omega
  ·have bb:i=g.length:=Pv;subst bb;have ez:=aqr (Qs ap (gi wr.heap.size wr).drew) (by rw[gF,gV];exact ba) (λx o=>by
    obtain⟨v,n,rfl⟩:=h4.1 o;rw[gV] at n;exact(Pj bx v n).2)
   obtain⟨e,r⟩:=xE (YU ((g.take g.length).map σ.M.hE));obtain⟨bN,F⟩:=xE (((g.take g.length).map σ.M.hE).length);rw[<-r,<-F] at ez;rw[<-F];rw[gV] at r;have aQ:=Y r;obtain⟨bE,ak,bD,aR,bP⟩:=bH;have q:=bP.fQ M;have bG:=q.lt;obtain⟨bJ,bI,bL⟩:=P7 q.lg;subst bL;have be:=q;obtain⟨p,_⟩:=q.hh.at_ 0 _ rfl;obtain⟨aK,ae⟩:=xE σ.hF.length;rw[<-ae] at p;have bo:=Y p;have ax:=Y ae;have bS:aK<=1000000000:=Pv;clear r F p ae;go_wp2_with fail
   refine UG 9 λa=>?_;refine iF ?_;refine up 3 k 2 a ?_;refine up 4 k 2 a ?_;refine uk 5 bo.out a ?_;refine uh 6 (.slice u bN C) (a) ?_;refine QX 7 λK d=>?_;go_simp;refine cm ez ?_;rintro j b ⟨rfl,H⟩;have c:PG wr b:=(gi _ wr).drew.trans H;refine d.out _ _ (λ_=>c) ?_;clear d K;refine QX 8 λK d=>?_;go_simp;refine d.out _ _ (λ_=>c.alloc c.size _) ?_;clear d K;refine QX 9 λK d=>?_;have aI:=be.fQ (c.alloc c.size (.cells #[PI e] 9));have B:=aI.lg;rw[<-ax.out] at B
   have bU:=c.size;refine step_append_lies _ rfl _ _ 26 rfl k 9 a7 (PI ByteArray.empty) 1 16 i7 aX aY aO aW rfl PK _ _ _ rfl B (Pn b.heap.size 0) 1 1 [PI e] rfl rfl (Xv b e _ rfl) (o7 e) PK (by unfold maxLen;omega) Pv SC (b.heap.size+1) Qh ?_
   intro bF bA E hown4 N bK _;refine ko d ?_;clear d K;have bv:World.grownBy (b.alloc (.cells #[PI e] 9)) E (Value.slice bJ σ.hF.length bI).ownBlock:=by rw[<-ax.out];exact N
   obtain⟨bz,bf⟩:=aI.aC2 e (a:=.slice (some (Pn bF 0)) (aK+1) bA) bv (by rw[<-ax.out];exact hown4)
   obtain⟨bQ,bR⟩:=(aI.hh.f2 (a:=[9]) (l:=k) (w':=E) (Qv.grown N SC λi af=>by
    obtain⟨m,aT⟩:=QZ B af;exact⟨(B.lt i af).1,m,9,aT,by simp⟩) PK PK PK PK PK).at_ 0 _ rfl
   have bn:=(Qj.of (L:=none) M (Qe bm)).trans ((Qj.of (L:=none) (c.alloc c.size (.cells #[PI e] 9)) (Qe bG)).trans bf);have bX:k<E.heap.size:=by have:=N.size;simp at this;omega
   clear bK;refine uz 10 (PZ k 0) ?_;refine uz 11 (PZ k 2) ?_;refine uz 12 (PZ k 2) ?_;refine VH 13 ?_;refine Ud ?_ _;go_simp;go_wp2
   go_end0
   have aJ:=bz;rw[aQ.out] at aJ;exact⟨rfl,⟨_,_,_,_,aJ⟩,bn⟩
theorem Kn (a b:PS):a++b=Y0 a b:=by
 apply ByteArray.ext;simp[Y0]
def oZ (c a b:Int):Va×Er:=if c=28 then (Ri (decide (a<b)),.no) else if c=29 then VR (a+b) else if c=30 then VR (a - b) else VR (a * b)
def oU (a b:PS):Va×Er:=if 500<a.size+b.size then (vU,ga Vp) else (Xx (Y0 a b),.no)
def zc (z:PO)(w:Py)(b:Va×Er)(c:Ending)(w':Py):Prop:=(∃a,c=PY (.tuple #[vA b.1,a])/\Yu z w' a b.2)/\PG w w'
theorem yN (a:Int)(w:Py):PN 314 #[Ph a] w (zc z w (VR a)):=by
 by_cases h:a < -1000000000\/1000000000<a
 ·exact akr z a h w
 ·exact anu z a h w
theorem aia (n I a:Int)(af:-1000000000<=I/\I<=1000000000)(ad:-1000000000<=a/\a<=1000000000)(w:Py):PN 294 #[Ph n,Ph I,Ph a] w (zc z w (oZ n I a)):=by
 obtain⟨aO,aJ⟩:=af;obtain⟨aL,aK⟩:=ad;have j{G}(h:G:=by
 obtain⟨p,c⟩:=xE (oZ n I a);rw[<-c]
 by_cases C:n=28
 ·subst C
  by_cases S:I<a
  ·have f:Hid (p=(Ri true,.no)):=by show _=_;rw[c];unfold oZ;rw[fY rfl,hr S]
   clear c;go_enter func294,ku;go_wp2_with fail;rw[<-l.out];refine cm (WX true w2) ?_;rintro t i ⟨rfl,e⟩;obtain⟨b,d⟩:=xE (Ri true);exact GZ
  ·have f:Hid (p=(Ri false,.no)):=by show _=_;rw[c];unfold oZ;rw[fY rfl,hi S]
   clear c;go_enter func294,ku;go_wp2_with fail;rw[<-l.out];refine cm (WX false w2) ?_;rintro t i ⟨rfl,e⟩;obtain⟨b,d⟩:=xE (Ri false);exact GZ
 by_cases E:n=29
 ·subst E;have f:Hid (p=VR (I+a)):=by show _=_;rw[c];rfl
  clear c C;go_enter func294,ku;go_wp2_with fail;rw[<-l.out];refine cm (yN (z:=z) (I+a) w2) ?_;rintro t i ⟨⟨H,rfl,F⟩,e⟩;obtain⟨b,d⟩:=xE ((VR (I+a)).1);exact yl
 by_cases O:n=30
 ·subst O;have f:Hid (p=VR (I - a)):=by show _=_;rw[c];rfl
  clear c C E;go_enter func294,ku;go_wp2_with fail;rw[<-l.out];refine cm (yN (z:=z) (I - a) w2) ?_;rintro t i ⟨⟨H,rfl,F⟩,e⟩;obtain⟨b,d⟩:=xE ((VR (I - a)).1);exact yl
 have f:Hid (p=VR (I * a)):=by show _=_;rw[c];unfold oZ;rw[fT C,fT E,fT O]
 have aM:-1000000000000000000<=I * a/\I * a<=1000000000000000000:=by
  have S:(I * a).natAbs<=1000000000000000000:=by
   rw[Int.natAbs_mul];exact Nat.mul_le_mul (show I.natAbs<=1000000000 by omega) (show a.natAbs<=1000000000 by omega)
  omega
 have ae:IntKind.i64.wrap (I * a)=I * a:=mB _ Pv;clear c;go_enter func294,ku;go_wp2_with fail;rw[<-l.out]
 try rw[ae]
 refine cm (yN (z:=z) (I * a) w2) ?_;rintro t i ⟨⟨H,rfl,F⟩,e⟩;obtain⟨b,d⟩:=xE ((VR (I * a)).1);exact yl):=Pq h;exact DV
theorem So (I a:PS)(H:I.size<=1000000)(F:a.size<=1000000)(w:Py):PN 295 #[PI I,PI a] w (zc z w (oU I a)):=by
 have j{G}(h:G:=by
 obtain⟨p,c⟩:=xE (oU I a);rw[<-c]
 by_cases d:500<I.size+a.size
 ·have f:Hid (p=(vU,ga Vp)):=by show _=_;rw[c];unfold oU;rw[fY d]
  have t:(I.size:Int)+(a.size:Int) > 500:=Pv;clear c d;go_enter func295,ntmps295;go_wp2_with fail;rw[<-l.out];refine cm (Yq Vp w2) ?_;rintro C i ⟨⟨b,rfl,E,n⟩,e⟩;have q:Yu z i (.iface 122 (PZ b 0)) (ga Vp):=⟨b,rfl,n⟩;have j{G}(h:G:=by
  clear n E;go_wp2_with fail;obtain⟨aI,s⟩:=xE (((i.setCell (Pn w.heap.size 0) (Ph 0)).setCell (Pn w.heap.size 1) (Ph 0)).setCell (Pn w.heap.size 2) (QB));rw[<-s];have B:=l9 m.out (Ph 0) (Ph 0) (QB);have o:=hA N Qq (Ph 0) (Ph 0) (QB);have u:=TL (k:=w.heap.size) m.out Qq (Ph 0) (Ph 0) (QB);rw[<-s] at B o u;obtain⟨bA,bf,bi,_,_⟩:=f7 B;refine ng (v:=.tuple #[vA vU,.iface 122 (PZ b 0)]) ?_;rw[f.out];exact⟨⟨_,rfl,q.RP u PK⟩,o⟩):=Pq h;exact v8
 ·have f:Hid (p=(Xx (Y0 I a),.no)):=by show _=_;rw[c];unfold oU;rw[fT d]
  have t:¬ (I.size:Int)+(a.size:Int) > 500:=Pv;clear c d;go_enter func295,ntmps295;go_wp2_with fail;rw[<-l.out,Kn];refine cm (ql (Y0 I a) w2) ?_;rintro C i ⟨rfl,e⟩;obtain⟨b,q⟩:=xH (Xx (Y0 I a));rw[<-q.out];have m:=Y (fZ e M.out);have N:=r.trans (e.mono r.size);obtain⟨ax,ap,au,ay,aD,aE,aH⟩:=Ql m.out;exact AQ):=Pq h;exact DV
structure Gv (m:Nat)(v:Va):Prop where
 n:v.k≠5->Nb v.n
 s:Sm v.s
 r:v.k=5->0<=v.n/\v.n<m
theorem Gv.up {bB b:Nat}{v:Va}(h:Gv bB v)(c:bB<=b):Gv b v:=⟨h.n,h.s,λa=>⟨(h.r a).1,by have:=(h.r a).2;omega⟩⟩
theorem pV:Sm PE:=by decide
theorem WJ (b:Nat):Gv b vU:=⟨λ_=>by decide,pV,λa=>by cases a⟩
theorem nO (c:Nat)(a:Bool):Gv c (Ri a):=⟨λ_=>by cases a <;> decide,pV,λb=>by cases b⟩
theorem lZ {c:Nat}{a:PS}(h:Sm a):Gv c (Xx a):=⟨λ_=>show Nb 0 by decide,h,λb=>by cases b⟩
theorem xT {c:Nat}{a:Int}(h:Nb a):Gv c (Yo a):=⟨λ_=>h,pV,λb=>by cases b⟩
structure Gm (l7:Nat)(M:Mo):Prop where
 pv:∀x ∈ M.objs,∀p ∈ x.ps,Gv M.objs.length p.v
 cv:∀x ∈ M.PL,∀c ∈ x.cs,Gv M.objs.length c.v
 co:∀x ∈ M.objs,0<=x.code/\x.code<3+l7
def K4 (c:Mo)(e:Int)(d:PS):Prop:=∃(b:Nat)(x:Ro)(a:Ce),e=b/\c.PL[b]?=some x/\a ∈ x.cs/\ZO d a.name=true/\a.kind≠4
inductive kw (V:Va->Prop)(k0:Int)(M:Mo):Mo->Prop
 |same:kw V k0 M M
 |ob (i:Nat) (x:Ob) (ps:List Pr) (ab:M.objs[i]?=some x) (aj:∀p ∈ ps,V p.v\/p ∈ x.ps):kw V k0 M (M.Ux i ⟨x.code,ps⟩)
 |ro (i:Nat) (x:Ro) (cs:List Ce) (ab:M.PL[i]?=some x) (aj:∀c ∈ cs,V c.v\/c ∈ x.cs) (E:∀c ∈ x.cs,c.kind≠4->∃eq ∈ cs,eq.name=c.name/\eq.kind=c.kind) (az:∀c ∈ cs,c.kind=k0\/∃q ∈ x.cs,q.kind=c.kind):kw V k0 M (M.TJ i ⟨x.outer,x.gf,cs⟩)
variable {u:Va->Prop}{i:Int}{a l:Mo}{I:Nat}
section
variable (h:kw u i a l)
include h
theorem kw.ol:l.objs.length=a.objs.length:=by cases h <;> simp[Mo.Ux,Mo.TJ]
theorem kw.rl:l.PL.length=a.PL.length:=by cases h <;> simp[Mo.Ux,Mo.TJ]
theorem kw.k4 {r:Int}{q:PS}(m:K4 a r q):K4 l r q:=by
 obtain⟨j,x,e,rfl,c,d,f,b⟩:=m
 cases h with
 |same=>exact⟨j,x,e,rfl,c,d,f,b⟩
 |ob=>exact⟨j,x,e,rfl,c,d,f,b⟩
 |ro p y F o C m E=>
  by_cases n:p=j
  ·subst n;rw[c] at o;cases o;obtain⟨B,t,s,v⟩:=m e d b;exact⟨p,_,B,rfl,hW (gs.1 c).1,t,by rw[s];exact f,by rw[v];exact b⟩
  ·exact⟨j,x,e,rfl,(h8 n).trans c,d,f,b⟩
theorem kw.gm (q:∀b,u b->Gv a.objs.length b)(c:Gm I a):Gm I l:=by
 have r:=h.ol
 cases h with
 |same=>exact c
 |ob s x t j n=>
  have f:=gC j;refine⟨λy b o p=>?_,λy b d e=>?_,λy b=>?_⟩
  ·rw[r]
   rcases iq b with b|rfl
   ·exact c.pv y b o p
   ·rcases n o p with h|m
    ·exact q _ h
    ·exact c.pv x f o m
  ·rw[r];exact c.cv y b d e
  ·rcases iq b with b|rfl
   ·exact c.co y b
   ·exact c.co x f
 |ro s x t j n o p=>
  have f:=gC j;refine⟨c.pv,λy b d e=>?_,c.co⟩
  rcases iq b with b|rfl
  ·exact c.cv y b d e
  ·rcases n d e with h|m
   ·exact q _ h
   ·exact c.cv x f d m
end
section
variable {α:Type}{b:α->Va}{P:Va->Prop}{c:List α}
include α b P c
theorem uF {m:Nat}{e:α}(j:P (b e)):∀d ∈ c.set m e,P (b d)\/d ∈ c:=λd f=>by
 rcases iq f with h|rfl
 ·exact .inr h
 ·exact .inl j
theorem HD {e:α}(j:P (b e)):∀d ∈ c++[e],P (b d)\/d ∈ c:=λd f=>by
 rcases gB.1 f with h|h
 ·exact .inr h
 ·rw[gn.1 h];exact .inl j
end
theorem Kj {j:List Ce}{f:Nat}{e c:Ce}(m:j[f]?=some e)(q:c.name=e.name)(p:c.kind=e.kind):∀b ∈ j,b.kind≠4->∃o ∈ j.set f c,o.name=b.name/\o.kind=b.kind:=λb s _=>by
 obtain⟨t,d⟩:=List.mem_iff_getElem?.1 s;have r:=(gs.1 m).1
 by_cases n:f=t
 ·subst n;rw[m] at d;cases d;exact⟨c,gC (hW r),q,p⟩
 ·exact⟨b,gC ((h8 n).trans d),rfl,rfl⟩
theorem B2 {i:Int}{d:List Ce}{f:Nat}{c e:Ce}(m:d[f]?=some c)(j:e.kind=c.kind):∀b ∈ d.set f e,b.kind=i\/∃o ∈ d,o.kind=b.kind:=λb n=>by
 rcases iq n with h|rfl
 ·exact .inr ⟨b,h,rfl⟩
 ·exact .inr ⟨c,gC m,j.symm⟩
theorem NQ {i:Int}{d:List Ce}{c:Ce}(e:c.kind=i):∀b ∈ d++[c],b.kind=i\/∃j ∈ d,j.kind=b.kind:=λb f=>by
 rcases gB.1 f with h|h
 ·exact .inr ⟨b,h,rfl⟩
 ·rw[gn.1 h];exact .inl e
theorem Wv (a:Mo)(j:Int)(f:PS)(b:Va)(fx:Bool):kw (· = b) 0 a (a.put j f b fx).2:=by
 unfold Mo.put
 rcases SY a j with ⟨m,_⟩|⟨e,x,rfl,d,n⟩
 ·rw[m];exact .same
 ·rw[n]
  cases c:fP f x.ps with
  |none=>simp only[c];exact .ob e x _ d (HD (b:=Pr.v) (P:=(· = b)) rfl)
  |some o=>
   simp only[c]
   cases p:x.ps[o]? with
   |none=>exact .same
   |some q=>exact .ob e x _ d (uF (b:=Pr.v) (P:=(· = b)) rfl)
theorem JW (a:Mo)(d:Int)(c:PS):kw (λ_=>False) 0 a (a.cut d c).2:=by
 unfold Mo.cut
 rcases SY a d with ⟨j,_⟩|⟨n,x,rfl,e,m⟩
 ·rw[j];exact .same
 ·rw[m]
  cases b:fP c x.ps with
  |none=>simp only[b];exact .same
  |some o=>
   simp only[b]
   cases p:x.ps[o]? with
   |none=>exact .same
   |some q=>
    simp only
    split
    ·exact .same
    ·exact .ob n x _ e λr f=>.inr (lV f)
theorem Ug (a:Mo)(e:Int)(d:PS)(c:Int)(b:Va):kw (· = b) c a (a.gc e d c b).2:=by
 unfold Mo.gc
 rcases QC a e with ⟨n,_⟩|⟨p,x,rfl,f,o⟩
 ·rw[n];exact .same
 ·rw[o];simp only
  split
  ·exact .same
  ·
   cases q:fC d x.cs with
   |some j=>exact .same
   |none=>exact .ro p x _ f (HD (b:=Ce.v) (P:=(· = b)) rfl) (λm j _=>⟨m,iB _ j,rfl,rfl⟩) (NQ rfl)
theorem JD (a:Mo)(f:Int)(e:PS)(b:Va):kw (· = b) 0 a (a.start f e b).2:=by
 unfold Mo.start
 rcases QC a f with ⟨m,_⟩|⟨o,x,rfl,j,n⟩
 ·rw[m];exact .same
 ·rw[n]
  cases c:fC e x.cs with
  |none=>simp only[c];exact .same
  |some p=>
   simp only[c]
   cases d:x.cs[p]? with
   |none=>exact .same
   |some q=>exact .ro o x _ j (uF (b:=Ce.v) (P:=(· = b)) rfl) (Kj d rfl rfl) (B2 d rfl)
theorem IF {a:Mo}{m:Nat}{x:Ro}{f:PS}{b:Ce}(q:a.ro m=some x)(c:a.Y2 m f=some b):∃d,fC f x.cs=some d/\x.cs[d]?=some b:=by
 unfold Mo.Y2 at c;rw[q] at c
 rcases Wq (λb=>ZO f b.name) x.cs with ⟨j,e⟩|⟨d,p,j,e,n,_⟩
 ·exact absurd (e.symm.trans c) Qh
 ·have o:some p=some b:=n.symm.trans c;cases o;exact⟨d,j,e⟩
theorem Xk (a:Mo)(b:Int)(f:PS)(c:Va):kw (· = c) 0 a (a.write b f c).2:=by
 unfold Mo.write
 split
 ·
  cases n:a.Y2 b f with
  |none=>exact Wv _ _ _ _ _
  |some q=>
   simp only
   split
   ·exact .same
   ·split
    ·exact .same
    ·split
     ·exact .same
     ·rcases QC a b with ⟨o,_⟩|⟨p,x,rfl,m,e⟩
      ·rw[o];exact .same
      ·obtain⟨r,j,d⟩:=IF e n;rw[e];simp only[j];exact .ro p x _ m (uF (b:=Ce.v) (P:=(· = c)) rfl) (Kj d rfl rfl) (B2 d rfl)
 ·exact .same
theorem A8 (a:Mo)(d:Int)(m:PS):kw (λ_=>False) 0 a (a.drop d m).2:=by
 unfold Mo.drop
 cases c:a.Y2 d m with
 |none=>exact JW _ _ _
 |some e=>
  simp only
  split
  ·exact .same
  ·rename_i n
   rcases QC a d with ⟨B,_⟩|⟨E,x,rfl,q,f⟩
   ·rw[B];exact .same
   ·obtain⟨F,o,s⟩:=IF f c;rw[f];simp only[o];refine .ro E x _ q (λH r=>.inr (lV r)) (λr C p=>⟨r,?_,rfl,rfl⟩) λe c=>.inr ⟨e,lV c,rfl⟩;obtain⟨j,b⟩:=List.mem_iff_getElem?.1 C;have t:j≠F:=λv=>by
     subst v;rw[s] at b;cases b;exact p (by simpa using n)
    refine List.mem_eraseIdx_iff_getElem?.2 ⟨j,t,b⟩
def N4 (a:Mo)(d:Int):Prop:=∃(b:Nat)(x:Ro),d=b/\a.PL[b]?=some x/\x.gf = -1/\∀c ∈ x.cs,c.kind≠4
theorem N4.mi {u:Va->Prop}{i:Int}{a l:Mo}{o:Int}(h:N4 a o)(f:kw u i a l)(p:i≠4):N4 l o:=by
 obtain⟨e,x,rfl,b,d,c⟩:=h
 cases f with
 |same=>exact⟨e,x,rfl,b,d,c⟩
 |ob=>exact⟨e,x,rfl,b,d,c⟩
 |ro n y C m B v r=>
  by_cases j:n=e
  ·subst j;rw[b] at m;cases m;refine⟨n,_,rfl,hW (gs.1 b).1,d,λs f=>?_⟩
   rcases r s f with h|⟨t,q,h⟩
   ·rw[h];exact p
   ·rw[<-h];exact c t q
  ·exact⟨e,x,rfl,(h8 j).trans b,d,c⟩
theorem N4.k4 {a:Mo}{n:Int}(h:N4 a n)(d:PS){c:Int}(s:c≠4)(r:Va):K4 (a.gc n d c r).2 n d:=by
 obtain⟨e,x,rfl,f,F,t⟩:=h;have B:a.ro e=some x:=by
  rcases QC a e with ⟨_,b⟩|⟨p,y,j,m,b⟩
  ·have:=(gs.1 f).1;omega
  ·have j:e=p:=Pv;subst j;rw[f] at m;cases m;exact b
 unfold Mo.gc;rw[B];simp only[F]
 cases o:fC d x.cs with
 |some q=>
  obtain⟨b,p,v⟩:∃b,x.cs[q]?=some b/\ZO d b.name=true:=by
   rcases Wq (λb=>ZO d b.name) x.cs with ⟨m,_⟩|⟨H,b,m,C,_,E⟩
   ·exact absurd (m.symm.trans o) Qh
   ·have j:some H=some q:=m.symm.trans o;cases j;exact⟨b,C,E⟩
  exact⟨e,x,b,rfl,f,gC p,v,t b (gC p)⟩
 |none=>
  refine⟨e,_,⟨d,r,c,!(c==1||c==2)⟩,rfl,hW (gs.1 f).1,jI _ (gn.2 rfl),?_,s⟩;simp[ZO]
mutual
def Tr.nM:Tr->Bool
 |.mk b _ _ c=>!((b==7||b==8||b==9)&&c.any Yc)&&Tr.ph c
def Tr.ph:List Tr->Bool
 |[]=>true
 |c::b=>Tr.nM c&&Tr.ph b
end
mutual
theorem zQ:∀(q:Tr)(j o m:Bool),hD q j o m=none->Tr.nM q=true
 |.mk b e d c,j,o,m,h=>by
  rw[hD] at h;rw[Tr.nM]
  cases n:lT (.mk b e d c) (s2 (.mk b e d c) j) (i2 (.mk b e d c) o) m with
  |some f=>rw[n] at h;cases h
  |none=>
   rw[n] at h;rw[H6 c _ _ _ h,lU]
   by_cases p:b=7\/b=8\/b=9
   ·have f:mm (.mk b e d c) (s2 (.mk b e d c) j)=none:=by
     rw[<-n];unfold lT
     rcases p with rfl|rfl|rfl <;> rfl
    unfold mm at f
    split at f
    ·
     cases f
    ·rename_i s
     have r:c.any Yc=false:=by
      cases t:c.any Yc with
      |false=>rfl
      |true=>exact absurd (show _ from by rw[show (Tr.mk b e d c).fS=c from rfl,t,Bool.or_true]) s
     rw[r,mY];rfl
   ·have f:(b==7||b==8||b==9)=false:=by simpa[not_or,and_assoc] using p
    rw[f];rfl
theorem H6:∀(e:List Tr)(d c b:Bool),Vk e d c b=none->Tr.ph e=true
 |[],_,_,_,_=>by rw[Tr.ph]
 |j::e,d,c,b,h=>by
  rw[Vk] at h;rw[Tr.ph]
  cases f:hD j d c b with
  |some m=>rw[f] at h;cases h
  |none=>
   rw[f] at h;rw[zQ j d c b f,H6 e d c b h];rfl
end
theorem Jl:∀{c:List Tr},Tr.ph c=true->∀d ∈ c,Tr.nM d=true
 |[],_,_,h=>by cases h
 |al::c,h,d,b=>by
  rw[Tr.ph,lf] at h
  rcases gE.1 b with rfl|b
  ·exact h.1
  ·exact Jl h.2 d b
theorem sS {b:Tr}(h:Tr.nM b=true):(∀d ∈ b.fS,Tr.nM d=true)/\((b.kd=7\/b.kd=8\/b.kd=9)->∀d ∈ b.fS,Yc d=false):=by
 cases b with
 |mk e q p f=>
  rw[Tr.nM,lf] at h;refine⟨Jl h.2,λc d m=>?_⟩;have j:(e==7||e==8||e==9)=true:=by
   rcases c with c|c|c <;> (change e=_ at c;subst c;rfl)
  rw[j,Bool.true_and] at h;have n:f.any Yc=false:=by simpa using h.1
  exact Bool.eq_false_iff.2 λo=>absurd (show f.any Yc=true from jV.2 ⟨d,m,o⟩) (by rw[n];simp)
structure Nk (c:Nat)(t:Tr):Prop where
 sh:Tf Sm Sm Nb c t
 ct:t.count<=1500
 nb:Tr.nM t=true
theorem ZJ {e c:Tr}(h:c ∈ e.fS):c.count<e.count:=by
 cases e with
 |mk m o n d=>
  obtain⟨b,j,f⟩:=jk h;have:=UO d b j;rw[Tr.count];change (d[b]).count<=_ at this;change d[b]=c at f;rw[f] at this;omega
theorem Nk.iK {j d:Nat}{e b:Tr}(h:Nk j e)(c:b ∈ e.fS)(f:Tf Sm Sm Nb d b):Nk d b:=⟨f,by have:=ZJ c;have:=h.ct;omega,(sS h.nb).1 b c⟩
structure Fg (t:Tr):Prop where
 ct:t.count<=1500
 nb:Tr.nM t=true
 sh:∃kd s n p b,t=.mk kd s n [p,b]/\Tf Sm Sm Nb 5 p/\Tf Sm Sm Nb 4 b
structure Iv (N:Int)(σ:St):Prop where
 pz:∃n:Nat,Sz n σ/\(n:Int)<=N+10000 * σ.steps
 gm:Gm σ.SE.length σ.M
 fn:∀f ∈ σ.SE,Fg f.d.2/\0<=f.scope/\f.scope<σ.M.PL.length
 ca:σ.fW<=40
 lr:2<=σ.M.PL.length
 lo:1<=σ.M.objs.length
structure Ex (σ bT:St):Prop where
 ro:σ.M.PL.length<=bT.M.PL.length
 ob:σ.M.objs.length<=bT.M.objs.length
 ca:bT.fW=σ.fW
 st:σ.steps<=bT.steps
 k4:∀s nm,K4 σ.M s nm->K4 bT.M s nm
 lg:σ.hF <+:bT.hF
def Po (b:Pl)(σ:St):Prop:=0<=b.scope/\b.scope<σ.M.PL.length
structure Nx (N:Int)(σ bT:St):Prop where
 iv:Iv N bT
 ex:Ex σ bT
 st:bT.steps=σ.steps
end
section
variable {a N':Int}{σ e r:St}{v:Va}
theorem Ex.refl (σ:St):Ex σ σ:=⟨Qq,Qq,rfl,Qq,λ_ _ h=>h,hO⟩
theorem Ex.trans (h:Ex σ e)(b:Ex e r):Ex σ r:=⟨gr h.ro b.ro,gr h.ob b.ob,b.ca.trans h.ca,gr h.st b.st,λd c x=>b.k4 d c (h.k4 d c x),h.lg.trans b.lg⟩
theorem Iv.up (h:Iv a σ)(d:a<=N'):Iv N' σ:=by
 obtain⟨bB,b,c⟩:=h.pz;exact⟨⟨bB,b,by omega⟩,h.gm,h.fn,h.ca,h.lr,h.lo⟩
theorem Nx.refl (h:Iv a σ):Nx a σ σ:=⟨h,Ex.refl _,rfl⟩
theorem Nx.trans (h:Nx a σ e)(b:Nx N' e r):Nx N' σ r:=⟨b.iv,h.ex.trans b.ex,b.st.trans h.st⟩
theorem Nx.up (h:Nx a σ e)(b:a<=N'):Nx N' σ e:=⟨h.iv.up b,h.ex,h.st⟩
theorem Po.up {b:Pl}(h:Po b σ)(c:Ex σ e):Po b e:=⟨h.1,by have:=h.2;have:=c.ro;omega⟩
theorem Po.some {p:Pl}(h:Po p σ):(σ.M.ro p.scope).isSome=true:=by
 rcases QC σ.M p.scope with ⟨_,b⟩|⟨c,x,_,_,b⟩
 ·have:=h.1;have:=h.2;omega
 ·rw[b];rfl
theorem Iv.heap {d:Va->Prop}{m:Int}{c:Mo}(h:Iv a σ)(b:kw d m σ.M c)(k:∀v,d v->Gv σ.M.objs.length v)(l:∀f,σ.M.Go f->c.Go (f+1)):Nx (a+1) σ { σ with M:=c }:=by
 obtain⟨i,g,n⟩:=h.pz;refine⟨⟨⟨i+1,g.heap (gw _) (l _ g.go) b.rl,by show ((i+1:Nat):Int)<=a+1+10000 * σ.steps;omega⟩,b.gm k h.gm,λf j=>?_,h.ca,?_,?_⟩,⟨iL b.rl.symm,iL b.ol.symm,rfl,Qq,λ_ _ x=>b.k4 x,hO⟩,rfl⟩
 ·show _/\_/\f.scope<(c.PL.length:Int)
  rw[b.rl];exact h.fn f j
 ·show 2<=c.PL.length
  rw[b.rl];exact h.lr
 ·show 1<=c.objs.length
  rw[b.ol];exact h.lo
section
variable (h:Iv a σ)(b:Gv σ.M.objs.length v)
include h b
theorem Iv.ho (i:Int)(g:PS)(f:Int):Nx (a+1) σ (σ.ho i g f v):=h.heap (Ug _ _ _ _ _) (λ_ c=>c ▸ b) λ_ d=>d.gc _ _ _ _
theorem Iv.put (g:Int)(f:PS)(fx:Bool):Nx (a+1) σ (σ.Ru g f v fx):=h.heap (Wv _ _ _ _ _) (λ_ c=>c ▸ b) λ_ d=>d.put _ _ _ _
theorem Iv.write (g:Int)(f:PS):Nx (a+1) σ { σ with M:=(σ.M.write g f v).2 }:=h.heap (Xk _ _ _ _) (λ_ c=>c ▸ b) λ_ d=>d.write _ _ _
theorem Iv.start (g:Int)(f:PS):Nx (a+1) σ { σ with M:=(σ.M.start g f v).2 }:=h.heap (JD _ _ _ _) (λ_ c=>c ▸ b) λ_ d=>d.start _ _ _
end
theorem Iv.drop (h:Iv a σ)(f:Int)(d:PS):Nx (a+1) σ { σ with M:=(σ.M.drop f d).2 }:=h.heap (A8 _ _ _) (λ_ b=>b.elim) λ_ c=>c.drop _ _
theorem Iv.cut (h:Iv a σ)(f:Int)(d:PS):Nx (a+1) σ { σ with M:=(σ.M.cut f d).2 }:=h.heap (JW _ _ _) (λ_ b=>b.elim) λ_ c=>c.cut _ _
theorem K4.rZ {b:Mo}{f:Int}{d:PS}{m:List Ob}{l:List Ro}(h:K4 b f d):K4 ⟨m,b.PL++l⟩ f d:=by
 obtain⟨k,x,i,j,c,g⟩:=h;exact⟨k,x,i,j,(g6 (gs.1 c).1).trans c,g⟩
theorem Gm.Qo {j f:Nat}{d:Mo}{m:Int}(h:Gm j d)(b0:j<=f)(k:0<=m/\m<3+f):Gm f (d.Qo m):=by
 have i:(d.Qo m).objs.length=d.objs.length+1:=by simp[Mo.Qo]
 refine⟨λx b g c=>?_,λx b g c=>?_,λx b=>?_⟩
 ·rw[i]
  rcases gB.1 b with b|b
  ·exact(h.pv x b g c).up (gw _)
  ·rw[gn.1 b] at c;cases c
 ·rw[i];exact(h.cv x b g c).up (gw _)
 ·rcases gB.1 b with b|b
  ·have:=h.co x b;omega
  ·rw[gn.1 b];exact k
theorem Iv.Qo (h:Iv a σ){m:Int}(d:0<=m/\m<3+σ.SE.length):Nx (a+1) σ { σ with M:=σ.M.Qo m }:=by
 obtain⟨c,b,f⟩:=h.pz;exact⟨⟨⟨c+1,b.heap (gw _) (b.go.Qo _) rfl,by show ((c+1:Nat):Int)<=a+1+10000 * σ.steps;omega⟩,h.gm.Qo Qq d,h.fn,h.ca,h.lr,by have:=h.lo;simp[Mo.Qo]⟩,⟨Qq,by simp[Mo.Qo],rfl,Qq,λ_ _ x=>x,hO⟩,rfl⟩
theorem Iv.gd (h:Iv a σ){b:Nd}{c:Pl}(m:Fg b.2)(g:Po c σ):Nx (a+1) σ (gd b c σ).2/\Gv (gd b c σ).2.M.objs.length (gd b c σ).1:=by
 obtain⟨f,l,o⟩:=h.pz;have n:(Hp.gd b c σ).2.M.objs.length=σ.M.objs.length+1:=by simp[Hp.gd,Mo.Qo]
 have k:(Hp.gd b c σ).2.SE.length=σ.SE.length+1:=by simp[Hp.gd]
 refine⟨⟨⟨⟨f+1,l.gd b c,by show ((f+1:Nat):Int)<=a+1+10000 * σ.steps;omega⟩,?_,λj d=>?_,h.ca,h.lr,by omega⟩,⟨Qq,by omega,rfl,Qq,λ_ _ x=>x,hO⟩,rfl⟩,?_⟩
 ·rw[k];exact h.gm.Qo (gw _) ⟨by omega,by push_cast;omega⟩
 ·rcases gB.1 d with d|d
  ·exact h.fn j d
  ·rw[gn.1 d];exact⟨m,g⟩
 ·rw[n];exact⟨λi=>absurd rfl i,pV,λ_=>⟨by show 0<=((σ.M.objs.length:Nat):Int);omega,by show ((σ.M.objs.length:Nat):Int)<_;omega⟩⟩
theorem Iv.gv (h:Iv a σ)(f d x:Int):Nx (a+1) σ (σ.gv f d x):=by
 obtain⟨g,l,o⟩:=h.pz;have n:(σ.gv f d x).M.PL.length=σ.M.PL.length+1:=by simp[St.gv,Mo.scope]
 refine⟨⟨⟨g+1,l.gv f d x,by show ((g+1:Nat):Int)<=a+1+10000 * σ.steps;omega⟩,⟨h.gm.pv,λy b j c=>?_,h.gm.co⟩,λk i=>?_,h.ca,by have:=h.lr;omega,h.lo⟩,⟨by omega,Qq,rfl,Qq,λ_ _ m=>m.rZ,hO⟩,rfl⟩
 ·rcases gB.1 b with b|b
  ·exact h.gm.cv y b j c
  ·rw[gn.1 b] at c;cases c
 ·have:=h.fn k i;rw[n];exact⟨this.1,this.2.1,by omega⟩
theorem Nx.fold {α:Type}{f:St->α->St}{k:Nat}{P:St->Prop}(hP:∀σ c,Ex σ c->P σ->P c):∀(b:List α),(∀I ∈ b,∀a σ,Iv a σ->P σ->Nx (a+k) σ (f σ I))->∀{a:Int}{σ:St},Iv a σ->P σ->Nx (a+(k * b.length:Nat)) σ (b.foldl f σ)
 |[],_,a,σ,h,_=>(Nx.refl h).up Qh
 |I::b,b0,a,σ,h,d=>by
  have c:=b0 I gt a σ h d;have i:=Nx.fold hP b (λO g=>b0 O (gO _ g)) c.iv (hP _ _ c.ex d);refine(c.trans i).up ?_;rw[g4,Nat.mul_succ]
  push_cast
  omega
theorem Iv.settle (h:Iv a σ)(b:Gv σ.M.objs.length v)(d:Int)(c:PS):Nx (a+1) σ (settle d c v σ):=by
 unfold Hp.settle
 split
 ·exact h.ho b _ _ _
 ·exact h.write b _ _
theorem T5 {b:Int}(h:N4 σ.M b)(c:Int)(d:PS)(v:Va):N4 (settle c d v σ).M b:=by
 unfold Hp.settle
 split
 ·exact h.mi (Ug _ _ _ _ _) PK
 ·exact h.mi (Xk _ _ _ _) PK
theorem Iv.lets (h:Iv a σ)(b:List Tr)(s:Int):Nx (a+b.length) σ (Q5 b s σ):=by
 have:=Nx.fold (P:=λ_=>True) (k:=1) (f:=fun σ (c:Tr)=>σ.ho s c.tx (if c.kd=4 then 2 else 1) vU) (λ_ _ _ h=>h) b (λc _ a σ h _=>h.ho (WJ _) _ _ _) h trivial;rw[Nat.one_mul] at this;exact this
theorem qo:∀(c:List Tr){b:Int}{a:Int}{σ:St},Iv a σ->N4 σ.M b->∀f ∈ c,K4 (Q5 c b σ).M b f.tx
 |[],_,_,_,_,_,_,h=>by cases h
 |g::c,b,a,σ,h,i,f,d=>by
  have k:=h.ho (WJ _) b g.tx (if g.kd=4 then 2 else 1);have j:(if g.kd=4 then (2:Int) else 1)≠4:=by split <;> decide
  rcases gE.1 d with rfl|d
  ·exact(k.iv.lets c b).ex.k4 _ _ (i.k4 _ j _)
  ·exact qo c k.iv (i.mi (Ug _ _ _ _ _) j) f d
theorem qf (σ:St)(c x:Int):N4 (σ.gv c (-1) x).M σ.gu:=by
 refine⟨σ.M.PL.length,_,rfl,by simp[St.gv,Mo.scope];rfl,?_,λd b=>by cases b⟩
 simp
theorem QW {c b:Nd}(h:b ∈ QA c):b.2 ∈ c.2.fS:=by
 have d:b.2 ∈ (QA c).map (·.2):=h4.2 ⟨b,h,rfl⟩
 rwa [Yv] at d
structure Bk (t:Tr):Prop where
 ct:t.count<=1500
 ks:∀u ∈ t.fS,Nk 1 u
theorem Nk.bk {d:Nat}{g:Tr}(h:Nk d g)(i:d=3\/d=4\/d=9):Bk g:=by
 refine⟨h.ct,λf c=>?_⟩;have b:=h.sh
 cases b with
 |gG b=>exact h.iK c (b f c)
 |body _ b=>exact h.iK c (b f c)
 |prog _ b=>exact h.iK c (b f c)
 |_=>omega
theorem Nk.fg {d:Tr}(h:Nk 1 d)(b:d.kd=5):Fg d:=by
 refine⟨h.ct,h.nb,?_⟩;have g:=h.sh
 cases g with
 |func _ i f=>exact⟨_,_,_,_,_,rfl,i,f⟩
 |decl c=>simp only[Tr.kd] at b;omega
 |Y6 c=>cases c;cases b
 |loop c=>simp only[Tr.kd] at b;omega
 |h6 c=>simp only[Tr.kd] at b;omega
 |_=>cases b
theorem o5 {b:Nd}(h:Bk b.2):∀c ∈ TK b,Fg c.2:=λc d=>by
 obtain⟨g,f⟩:=ir.1 d;exact(h.ks _ (QW g)).fg (by simpa[Uw] using f)
theorem xm {b:Nd}(h:Bk b.2):(TK b).length<=1500:=by
 have i:=hu (λc:Nd=>Uw c.2) (QA b);have d:=Tz b;have g:=SL b.2;have f:=h.ct;unfold TK;omega
section
variable {b:Tr}(h:Bk b)
include b h
theorem TI:(Qi b).length<=1500:=by
 have f:=hu QE b.fS;have d:=SL b;have c:=h.ct;unfold Qi;omega
theorem Q6:(Ue b).length<=1500:=by
 have f:=hu Uw b.fS;have d:=SL b;have c:=h.ct;unfold Ue;omega
theorem uS:(QF b).length<=1500:=by
 have f:=Ye b;have c:Tr.f5 b.fS<b.count:=by cases b;rw[Tr.count];exact Nat.lt_add_of_pos_left Pv
 have d:=h.ct;omega
end
theorem y2 {c:Pl}:∀σ b,Ex σ b->Po c σ->Po c b:=λ_ _ d h=>h.up d
theorem Iv.funcs (h:Iv a σ){d:Nd}{b:Pl}(i:Bk d.2)(f:Po b σ):Nx (a+3000) σ (UF d b σ):=by
 have c:=Nx.fold (P:=Po b) (k:=2) (f:=fun σ j=>let k:=Hp.gd j b σ;Hp.settle b.scope j.2.tx k.1 k.2) y2 (TK d) (λI j a σ h f=>by
  obtain⟨c,g⟩:=h.gd (o5 i I j) f;exact(c.trans (c.iv.settle g _ _)).up (by push_cast;omega)) h f
 have g:=xm i;exact c.up (by push_cast;omega)
theorem V1 {b:List PS}(h:(XV b).length=0):b=[]:=by
 cases b with
 |nil=>rfl
 |cons d b=>
  exfalso;have g:∀(b c:List PS),c.length<=(b.foldl ZN c).length:=by
   intro b
   induction b with
   |nil=>intro c;exact Qq
   |cons j b f=>
    intro c;refine gr ?_ (f _);unfold ZN
    split
    ·exact Qq
    ·simp
  have k:=g b (ZN [] d);unfold XV at h;rw[kg] at h;have i:(ZN [] d).length=1:=by unfold ZN;rw[fT (by simp[hasB])];rfl
  omega
theorem ZK {c b:Tr}(d:b ∈ c.fS)(f:QE b=true):b ∈ Qi c:=ir.2 ⟨d,f⟩
section
variable (h:Iv a σ)
include h
theorem Iv.block {b:Nd}{c:Pl}(o:Bk b.2)(p:Po c σ):Nx (a+5000) σ (QD b c σ).2/\Po (QD b c σ).1 (QD b c σ).2/\∀j ∈ QA b,QE j.2=true->K4 (QD b c σ).2.M (QD b c σ).1.scope j.2.tx:=by
 unfold QD
 split
 ·rename_i n
  refine⟨(Nx.refl h).up Pv,p,λj k i=>?_⟩;unfold gp at n;have g:=V1 n;have f:(Qi b.2).map Tr.tx=[]:=(List.append_eq_nil_iff.1 g).2;have d:=ZK (QW k) i;rw[List.map_eq_nil_iff.1 f] at d;cases d
 ·have g:=h.gv c.scope (-1) (own b);have f:=g.iv.lets (Qi b.2) σ.gu;have n:Po { c with scope:=σ.gu } (Q5 (Qi b.2) σ.gu (σ.gv c.scope (-1) (own b))):=by
   refine Po.up ?_ f.ex;exact CJ
  have d:=f.iv.funcs o n;have i:=TI o;refine⟨((g.trans f).trans d).up Pv,n.up d.ex,λj k i=>?_⟩;exact d.ex.k4 _ _ (qo _ g.iv (qf _ _ _) _ (ZK (QW k) i))
theorem Iv.lB {b:Nd}{c:Pl}(j:Fg b.2)(k:Po c σ):Nx (a+5) σ (Xz b c σ).2/\Gv (Xz b c σ).2.M.objs.length (Xz b c σ).1:=by
 unfold Xz
 split
 ·obtain⟨f,d⟩:=h.gd j k;exact⟨f.up Pv,d⟩
 ·have f:=h.gv c.scope (-1) (own b);have n:Po { c with scope:=σ.gu } (σ.gv c.scope (-1) (own b)):=
   ⟨by show (0:Int)<=(σ.M.PL.length:Int);omega,by show (σ.M.PL.length:Int)<_;simp[St.gv,Mo.scope];omega⟩
  obtain⟨d,i⟩:=f.iv.gd j n;have g:=d.iv.ho i σ.gu b.2.tx 3;exact⟨((f.trans d).trans g).up Pv,i.up g.ex.ob⟩
theorem Iv.look (c:Nd)(d:Pl):Nx (a+1) σ (look c d σ).2:=by
 unfold Hp.look;simp only
 split
 ·split
  ·obtain⟨bB,b,f⟩:=h.pz;exact⟨⟨⟨bB+1,⟨b.go.up (gw _),gR b.ow,gR b.fn,gR b.lg,by have:=b.se;simp;omega,b.oe⟩,by show ((bB+1:Nat):Int)<=a+1+10000 * σ.steps;omega⟩,h.gm,h.fn,h.ca,h.lr,h.lo⟩,⟨Qq,Qq,rfl,Qq,λ_ _ x=>x,hO⟩,rfl⟩
  ·exact(Nx.refl h).up Pv
 ·exact(Nx.refl h).up Pv
theorem Iv.hF (c:PS):Nx (a+1) σ { σ with hF:=σ.hF++[c] }:=by
 obtain⟨bB,b,d⟩:=h.pz;exact⟨⟨⟨bB+1,⟨b.go.up (gw _),gR b.ow,gR b.fn,by have:=b.lg;simp;omega,gR b.se,b.oe⟩,by show ((bB+1:Nat):Int)<=a+1+10000 * σ.steps;omega⟩,h.gm,h.fn,h.ca,h.lr,h.lo⟩,⟨Qq,Qq,rfl,Qq,λ_ _ x=>x,List.prefix_append _ _⟩,rfl⟩
end
theorem sZ {c:Nat}{b:Int}(h:0<=b/\b<c):Gv c (UU b):=⟨λd=>absurd rfl d,pV,λ_=>h⟩
theorem tJ {c:List Va}:∀σ b,Ex σ b->(∀v ∈ c,Gv σ.M.objs.length v)->∀v ∈ c,Gv b.M.objs.length v:=λ_ _ f h v d=>(h v d).up f.ob
theorem Mf {α:Type}{b:List α}{x:α×Nat}(h:x ∈ b.zipIdx):x.1 ∈ b:=by
 obtain⟨c,d⟩:=x;exact ou h
theorem Iv.args (h:Iv a σ){b:List Va}(q:b.length<=1500)(o:∀v ∈ b,Gv σ.M.objs.length v):Nx (a+2+b.length) σ (Rx b σ).2/\Gv (Rx b σ).2.M.objs.length (Rx b σ).1:=by
 obtain⟨aM,j⟩:=xE (σ.M.objs.length:Int);have f:=h.Qo (m:=0) Pv;have g:=f.iv.put (v:=Yo b.length) (xT (by unfold Nb;omega)) aM ZG false
 have c:=f.trans g;have d:Nx _ _ (b.zipIdx.foldl (fun σ (v,l)=>σ.Ru aM (Y0 ⟨#[97]⟩ (nG l)) v false) _):=Nx.fold (P:=fun σ=>∀v ∈ b,Gv σ.M.objs.length v) (k:=1) tJ b.zipIdx (λx k a σ h n=>by
  have i:=Mf k;obtain⟨v,l⟩:=x;exact h.put (n _ i) _ _ _) c.iv (tJ _ _ c.ex o)
 unfold Rx;rw[<-j];refine⟨(c.trans d).up (by rw[je];push_cast;omega),sZ ⟨by omega,?_⟩⟩
 refine m3 ?_ (Int.ofNat_le.2 d.ex.ob);have p:(({ σ with M:=σ.M.Qo 0 }:St).Ru aM ZG (Yo b.length) false).M.objs.length=σ.M.objs.length+1:=by
  show (Mo.put _ _ _ _ _).2.objs.length=_
  rw[(Wv _ _ _ _ _).ol];simp[Mo.Qo]
 rw[p];omega
theorem DD:∀(no:Option Nat)(b:List Tr)(c:Nat),((Xe no b).getD c rP).2=b.getD c rP.2
 |_,[],c=>by simp[Xe]
 |no,d::b,0=>rfl
 |no,d::b,c+1=>by
  rw[Xe];exact DD _ b c
theorem UK (b:Nd)(c:Nat):(Px b c).2=b.2.fS.getD c rP.2:=DD _ _ _
theorem ZL {α:Type}{g:St->α->St}{b:Int}(f:∀σ c,N4 σ.M b->N4 (g σ c).M b):∀(d:List α){σ:St},N4 σ.M b->N4 (d.foldl g σ).M b
 |[],_,h=>h
 |c::d,σ,h=>ZL f d (f σ c h)
theorem avG {b:Int}(h:N4 σ.M b)(d:List Va):N4 (Rx d σ).2.M b:=by
 unfold Rx;refine ZL (fun σ c h=>?_) _ ?_
 ·obtain⟨v,f⟩:=c;exact h.mi (Wv _ _ _ _ _) PK
 ·exact N4.mi (a:=σ.M.Qo 0) h (Wv _ _ _ _ _) PK
section
variable (h:Iv a σ)
include h
theorem Iv.body {d:Nd}{p:Pl}(z:Fg d.2)(t:Po p σ)(H:N4 σ.M p.scope){b:List Va}(k:b.length<=1500)(C:∀v ∈ b,Gv σ.M.objs.length v) :
  Nx (a+8000) σ (S9 d p b σ)/\Bk (Px d 1).2/\∀c ∈ QA (Px d 1),QE c.2=true->K4 (S9 d p b σ).M p.scope c.2.tx:=by
 obtain⟨af,ah,bB,E,O,A,U,F⟩:=z.sh;have L:(Px d 0).2=E:=by rw[UK,A];rfl
 have M:(Px d 1).2=O:=by rw[UK,A];rfl
 have q:Bk (Px d 1).2:=by
  rw[M];have B:O ∈ d.2.fS:=by rw[A];exact gO _ (gn.2 rfl)
  exact Nk.bk (d:=4) ⟨F,by have:=ZJ B;have:=z.ct;omega,(sS z.nb).1 O B⟩ Pv
 have X:(Px d 0).2.fS.length<=8:=by
  rw[L]
  cases U with
  |p9 _ k=>exact k
 refine⟨?_,q,?_⟩
 all_goals
  have g:Nx _ _ (((Px d 0).2.fS.zipIdx).foldl (fun σ (c,l)=>Hp.settle p.scope c.tx (b.getD l vU) σ) σ):=Nx.fold (P:=fun σ=>∀v ∈ b,Gv σ.M.objs.length v) (k:=1) tJ (Px d 0).2.fS.zipIdx (λx B a σ h t=>by
   obtain⟨c,l⟩:=x;refine h.settle ?_ _ _;rw[hk]
   cases bO:b[l]? with
   |none=>exact WJ _
   |some v=>exact t v (gC bO)) h C
  have u:N4 (((Px d 0).2.fS.zipIdx).foldl (fun σ (c,l)=>Hp.settle p.scope c.tx (b.getD l vU) σ) σ).M p.scope:=ZL (fun σ I h=>by
   obtain⟨c,l⟩:=I;exact T5 h _ _ _) _ H
  unfold S9;simp only
  generalize ((Px d 0).2.fS.zipIdx).foldl (fun σ (c,l)=>Hp.settle p.scope c.tx (b.getD l vU) σ) σ=e at g u ⊢
  rw[je] at g;have R:=tJ _ _ g.ex C;obtain⟨r,s⟩:=xE (if hasArgs (Px d 0).2.fS (Px d 1).2=true then (Rx b e).2.ho p.scope gL 0 (Rx b e).1 else e);have i:Nx (a+1600) σ r/\N4 r.M p.scope:=by
   rw[s]
   split
   ·obtain⟨f,o⟩:=g.iv.args k R;have B:=f.iv.ho o p.scope gL 0;exact⟨((g.trans f).trans B).up (by push_cast;omega),(avG u b).mi (Ug _ _ _ _ _) PK⟩
   ·exact⟨g.up (by push_cast;omega),u⟩
  rw[<-s];obtain⟨i,N⟩:=i;clear s;have j:Nx _ _ ((QF (Px d 1).2).foldl (fun σ n=>σ.ho p.scope n 0 vU) r):=Nx.fold (P:=λ_=>True) (k:=1) (λ_ _ _ h=>h) (QF (Px d 1).2) (λx _ a σ h _=>h.ho (WJ _) _ _ _) i.iv trivial;have D:N4 ((QF (Px d 1).2).foldl (fun σ n=>σ.ho p.scope n 0 vU) r).M p.scope:=ZL (fun σ I h=>h.mi (Ug _ _ _ _ _) PK) _ N
  generalize (QF (Px d 1).2).foldl (fun σ n=>σ.ho p.scope n 0 vU) r=ak at j D ⊢
  have ad:=uS q;have ae:=TI q;have f:=j.iv.lets (Qi (Px d 1).2) p.scope;have o:=f.iv.funcs (d:=Px d 1) q ((t.up (i.trans j).ex).up f.ex)
 ·exact(((i.trans j).trans f).trans o).up (by push_cast;omega)
 ·exact λc B k=>o.ex.k4 _ _ (qo _ j.iv D _ (ZK (QW B) k))
theorem Iv.gP (c:Int)(b:PS):Nx (a+1) σ (gP c b σ):=by
 unfold Hp.gP
 split
 ·exact(Nx.refl h).up Pv
 ·split
  ·exact h.put (WJ _) _ _ _
  ·exact h.ho (WJ _) _ _ _
theorem Iv.A9 {b:Nd}{d:Pl}(k:Bk b.2)(p:Po d σ):Nx (a+8000) σ (P5 b d σ).2/\Po (P5 b d σ).1 (P5 b d σ).2/\∀c ∈ QA b,QE c.2=true->K4 (P5 b d σ).2.M (P5 b d σ).1.scope c.2.tx:=by
 have g:Nx _ _ ((Uf b.2).foldl (fun σ t=>Hp.gP d.gh t σ) σ):=Nx.fold (P:=λ_=>True) (k:=1) (λ_ _ _ h=>h) (Uf b.2) (λx _ a σ h _=>h.gP _ _) h trivial;unfold P5;simp only
 generalize (Uf b.2).foldl (fun σ t=>Hp.gP d.gh t σ) σ=e at g ⊢
 have D:(Uf b.2).length<=3000:=by
  have:=uS k;have:=Q6 k;unfold Uf;rw[gg,gF];omega
 obtain⟨f,o⟩:=xE (if 0<(Qi b.2).length then ({ d with scope:=e.gu },Q5 (Qi b.2) e.gu (e.gv d.scope (-1) (-3))) else (d,e):Pl×St);rw[<-o];have i:Nx (a+4600) σ f.2/\Po f.1 f.2/\∀c ∈ QA b,QE c.2=true->K4 f.2.M f.1.scope c.2.tx:=by
  rw[o]
  split
  ·have s:=g.iv.gv d.scope (-1) (-3);have z:=s.iv.lets (Qi b.2) e.gu;have C:=TI k;refine⟨((g.trans s).trans z).up (by push_cast;omega),Po.up ?_ z.ex,λc j n=>qo _ s.iv (qf _ _ _) _ (ZK (QW j) n)⟩
   exact⟨by show (0:Int)<=(e.M.PL.length:Int);omega,by show (e.M.PL.length:Int)<_;simp[St.gv,Mo.scope];omega⟩
  ·rename_i s
   refine⟨g.up (by push_cast;omega),p.up g.ex,λc j n=>?_⟩
   have:=ZK (QW j) n;rw[mP (by omega:(Qi b.2).length=0)] at this;cases this
 clear o;obtain⟨i,u,A⟩:=i;have q:Nx _ _ ((TK b).foldl (fun σ c=>let s:=Hp.gd c f.1 σ;{ s.2 with M:=(s.2.M.write f.1.gh c.2.tx s.1).2 }) f.2):=Nx.fold (P:=Po f.1) (k:=2) y2 (TK b) (λI s a σ h p=>by
  obtain⟨g,i⟩:=h.gd (o5 k I s) p;exact(g.trans (g.iv.write i _ _)).up (by push_cast;omega)) i.iv u
 have B:=xm k;exact⟨(i.trans q).up (by push_cast;omega),u.up q.ex,λc j n=>q.ex.k4 _ _ (A c j n)⟩
theorem Iv.prog {d:Nd}(i:Bk d.2)(p:N4 σ.M 1):Nx (a+8000) σ (Rf d σ).2/\Po (Rf d σ).1 (Rf d σ).2/\∀f ∈ QA d,QE f.2=true->K4 (Rf d σ).2.M (Rf d σ).1.scope f.2.tx:=by
 have c:Nx _ _ ((QF d.2).foldl (fun σ b=>if σ.M.has 0 b then σ else σ.Ru 0 b vU true) σ):=Nx.fold (P:=λ_=>True) (k:=1) (λ_ _ _ h=>h) (QF d.2) (λx _ a σ h _=>by
  split
  ·exact(Nx.refl h).up Pv
  ·exact h.put (WJ _) _ _ _) h trivial
 have n:N4 ((QF d.2).foldl (fun σ b=>if σ.M.has 0 b then σ else σ.Ru 0 b vU true) σ).M 1:=ZL (fun σ I h=>by
  split
  ·exact h
  ·exact h.mi (Wv _ _ _ _ _) PK) _ p
 unfold Rf;simp only
 generalize (QF d.2).foldl (fun σ b=>if σ.M.has 0 b then σ else σ.Ru 0 b vU true) σ=e at c n ⊢
 have t:=uS i;have u:=TI i;have g:=c.iv.lets (Qi d.2) 1;have k:Po ⟨1,0,PU d.2⟩ (Q5 (Qi d.2) 1 e):=⟨by show (0:Int)<=1;omega,by show (1:Int)<_;have:=g.iv.lr;omega⟩
 have j:Nx _ _ ((TK d).foldl (fun σ f=>let o:=Hp.gd f ⟨1,0,PU d.2⟩ σ;o.2.Ru 0 f.2.tx o.1 true) (Q5 (Qi d.2) 1 e)):=Nx.fold (P:=Po ⟨1,0,PU d.2⟩) (k:=2) y2 (TK d) (λI q a σ h o=>by
  obtain⟨c,g⟩:=h.gd (o5 i I q) o;exact(c.trans (c.iv.put g _ _ _)).up (by push_cast;omega)) g.iv k
 have s:=xm i;exact⟨((c.trans g).trans j).up (by push_cast;omega),k.up j.ex,λf o q=>j.ex.k4 _ _ (qo _ c.iv n _ (ZK (QW o) q))⟩
end
end
def g3 (k:Py)(c f:Nat)(e:List Nat)(i:PO)(j:Py)(d:Er×St)(g:Ending)(a:Py):Prop:=
 (∃b,g=PY b/\Yu i a b d.1)/\Ms k c f e a d.2/\Qj none c j a
theorem uU (a:Mo)(c:Int)(b:PS)(d:Va)(fx:Bool):(a.put c b d fx).1=0\/(a.put c b d fx).1=7:=by
 unfold Mo.put
 repeat' split
 all_goals first|exact fU rfl|exact f4 rfl
theorem Ln (a:Mo)(c:Int)(b:PS)(d:Va):(a.start c b d).1=0\/(a.start c b d).1=7:=by
 unfold Mo.start
 repeat' split
 all_goals first|exact fU rfl|exact f4 rfl
theorem wY {b:PO}{c:Py}{a:Int}(h:a=0\/a=7):Yu b c (Vg a) (mW a):=by
 rcases h with rfl|rfl
 all_goals
  rfl
section
variable {U:Py}{k M:Nat}{z:List Nat}{ay ec d9 d8 ea:PO}{w w':Py}{g:St}{ck:Nat}
theorem Ms.et (h:Ms U k M z w g)(b:Bs U k M z ay)(a:Tv U):Tv w:=Wh a h.below (by rw[<-b.sz];exact ZW a)
theorem aeD (q:Ms U k M z w g)(l:Int)(f:PS)(v:Va)  :
  PN 268 #[Pm k,Ph l,PI f,vA v,PD true] w (g3 U k M z ay w (ga SK,g)):=by
 have n{G}(h:G:=by
 have a:=q.fQ A;have b:=a.lt;have e:=Qj.of (L:=none) A (Qe aE);clear L;go_enter func268,ntmps268;go_wp2_with fail;rw[<-F.out];refine cm (VI (es:=ay) b SK) ?_;rintro m p ⟨⟨o,rfl,d⟩,c⟩;have j:=a.fQ c;have i:=e.trans (Qj.of (L:=none) c (Qe b));go_wp2;go_ret;exact⟨⟨_,rfl,d⟩,j,i⟩):=Pq h;exact v6
section
variable (n:Ms U k M z w g)(q:Sz ck g)(s:ck<1000000000)(c:Int)(b:PS)(v:Va)
include n q s c b v
theorem ah1 (b3:g.M.SX c = -1) :
  PN 268 #[Pm k,Ph c,PI b,vA v,PD false] w (g3 U k M z ay w (mW (g.M.put 0 b v false).1,g.Ru 0 b v false)):=by
 have p{G}(h:G:=by
 rw[b3] at F;clear D;obtain⟨ae,L⟩:=xE ((g.M.put 0 b v false).1);have B:=Y (uU g.M 0 b v false);have C:=Y (λt (f:PG A t)=>Z4 (u.fQ f) q s 0 b v false);rw[<-L] at B C ⊢;have N:=Y (f7 o);have aT:=fR o;clear o L b3;have p{G}(h:G:=by
 refine uh 3 (Ph 0) (a) ?_;exact B9):=Pq h;exact JL):=Pq h;exact B4
theorem akl (b3:g.M.SX c≠-1) :
  PN 268 #[Pm k,Ph c,PI b,vA v,PD false] w (g3 U k M z ay w (mW (g.M.put (g.M.SX c) b v false).1,g.Ru (g.M.SX c) b v false)):=by
 have p{G}(h:G:=by
 rw[<-D] at F b3 ⊢;have aW:¬ aM = -1:=b3;clear D b3;obtain⟨ae,L⟩:=xE ((g.M.put aM b v false).1);have B:=Y (uU g.M aM b v false);have C:=Y (λt (f:PG A t)=>Z4 (u.fQ f) q s aM b v false);rw[<-L] at B C ⊢;have N:=Y (f7 o);have aT:=fR o;clear o L;have p{G}(h:G:=by
 refine uh 3 (Ph aM) (a) ?_;exact B9):=Pq h;exact JL):=Pq h;exact B4
theorem LQ (d:Bool) :
  PN 268 #[Pm k,Ph c,PI b,vA v,PD d] w (g3 U k M z ay w (XA c b v d g)):=by
 unfold XA
 cases d with
 |true=>exact aeD n c b v
 |false=>
  by_cases a:g.M.SX c = -1
  ·have h:=ah1 (ay:=ay) n q s c b v a;simp only[ic,ib,fY a];exact h
  ·have h:=akl (ay:=ay) n q s c b v a;simp only[ic,ib,fT a];exact h
end
section
variable (p:Bs U k M z ay)(o:Tv U)(q:Ms U k M z w g)(u:Sz ck g)(B:ck+1<1000000000)(c:Int)(b:PS)(v:Va)
include p o q u B c b v
theorem aC8 (ap:Bool)(aJ:(g.M.write c b v).1=7) :
  PN 197 #[Pm k,Ph c,PI b,vA v,PD ap] w (g3 U k M z ay w (XA c b v ap { g with M:=(g.M.write c b v).2 })):=by
 have n{G}(h:G:=by
 have aO:=Y L;have n{G}(h:G:=by
 rw[aJ] at ak;clear aJ;have n{G}(h:G:=by
 have a1:=Y (ae.f2 aO.out PK);have aK:=ax.trans ae;have aX:=s.lt;have a8:=Xg 7 E (s.et p o);refine QX 7 λK d=>?_;go_simp;refine cm a8 ?_;rintro j bn ⟨rfl,N⟩;refine ko d ?_;clear d K;have X:=s.fQ N;have a7:=Y (fZ N a1.out);have aW:=aK.trans (Qj.of (L:=none) N (Qe aX));have bq:=X.lt;refine Ud ?_ _;obtain⟨b6,e,r,_,_⟩:=f7 a7.out;go_simp;go_wp2_with fail;refine cm (LQ (ay:=ay) X bf B c b v ap) ?_;rintro j bm ⟨⟨bo,rfl,af⟩,ba,a6⟩
 have aY:=aW.trans a6;clear b6 e r;go_wp2;go_ret;exact⟨⟨_,rfl,af⟩,ba,aY⟩):=Pq h;exact FX):=Pq h;exact HV):=Pq h;exact v6
theorem aDb (aW:Bool)(N:(g.M.write c b v).1=6) :
  PN 197 #[Pm k,Ph c,PI b,vA v,PD aW] w (g3 U k M z ay w ((ga SK,{ g with M:=(g.M.write c b v).2 }))):=by
 have n{G}(h:G:=by
 have e:=Xg 6 E (s.et p o);have n{G}(h:G:=by
 refine cm (VI (es:=ay) r SK) ?_;exact GE):=Pq h;exact zb):=Pq h;exact sx
theorem aDd (aW:Bool)(N:(g.M.write c b v).1=1) :
  PN 197 #[Pm k,Ph c,PI b,vA v,PD aW] w (g3 U k M z ay w ((ga gJ,{ g with M:=(g.M.write c b v).2 }))):=by
 have n{G}(h:G:=by
 have e:=Xg 1 E (s.et p o);exact Bd):=Pq h;exact sx
theorem ax7 (N:(g.M.write c b v).1=5) :
  PN 197 #[Pm k,Ph c,PI b,vA v,PD true] w (g3 U k M z ay w ((ga gJ,{ g with M:=(g.M.write c b v).2 }))):=by
 have n{G}(h:G:=by
 have e:=Xg 5 E (s.et p o);exact Bd):=Pq h;exact sx
theorem RL (N:(g.M.write c b v).1=5) :
  PN 197 #[Pm k,Ph c,PI b,vA v,PD false] w (g3 U k M z ay w ((.no,{ g with M:=(g.M.write c b v).2 }))):=by
 have n{G}(h:G:=by
 have e:=Xg 5 E (s.et p o);exact Ga):=Pq h;exact sx
theorem ap4 (a7:Bool)(a6:¬ (g.M.write c b v).1=7)(aW:¬ (g.M.write c b v).1=6)(aX:¬ (g.M.write c b v).1=1)(a1:¬ (g.M.write c b v).1=5) :
  PN 197 #[Pm k,Ph c,PI b,vA v,PD a7] w (g3 U k M z ay w ((.no,{ g with M:=(g.M.write c b v).2 }))):=by
 have n{G}(h:G:=by
 have n{G}(h:G:=by
 obtain⟨aY,N⟩:=xE ((g.M.write c b v).1);rw[<-N] at ak a6 aW aX a1;clear N;have n{G}(h:G:=by
 have aJ:=ax.trans ae;have aK:=s.lt;have e:=Xg aY E (s.et p o);exact Ga):=Pq h;exact FX):=Pq h;exact HV):=Pq h;exact v6
theorem Cu (a:Bool) :
  PN 197 #[Pm k,Ph c,PI b,vA v,PD a] w (g3 U k M z ay w (iH c b v a g)):=by
 unfold iH;simp only
 by_cases i:(g.M.write c b v).1=7
 ·rw[fY i];exact aC8 p o q u B c b v a i
 rw[fT i]
 by_cases e:(g.M.write c b v).1=6
 ·rw[fY e];exact aDb p o q u B c b v a e
 rw[fT e]
 by_cases f:(g.M.write c b v).1=1
 ·rw[fY f];exact aDd p o q u B c b v a f
 rw[fT f]
 by_cases d:(g.M.write c b v).1=5
 ·rw[fY d]
  cases a with
  |true=>exact ax7 p o q u B c b v d
  |false=>exact RL p o q u B c b v d
 rw[fT d];exact ap4 p o q u B c b v a i e f d
end
def nE (i:Fx)(d l:Nd)(j:Pl)(g:St):(Va×Er)×St:=match i.v (Px d 0) j g with
 |((c,.no),f)=>match i.v l j f with
  |((e,.no),a)=>if c.k≠5 then ((vU,ga gJ),a) else ((e,mW (a.M.put c.n d.2.tx e false).1),a.Ru c.n d.2.tx e false)
  |((_,b),a)=>((vU,b),a)
 |((_,b),f)=>((vU,b),f)
def tn (f:Fx)(b e:Nd)(a:Pl)(g:St):(Va×Er)×St:=match f.v e a (look b a g).2 with
 |((d,.no),c)=>((d,(iH (look b a g).1 b.2.tx d a.f3 c).1),(iH (look b a g).1 b.2.tx d a.f3 c).2)
 |((_,d),c)=>((vU,d),c)
variable {X:Fx}
theorem Kp.UY {w w':Py}(h:Kp w w'){a e:Nat}{f:PO}{c:TypeId}(j:w.cell? (Pn a e)=some f)(b:∃d,w.heap[a]?=some (Qb d c))(l:c=40\/c=22):w'.cell? (Pn a e)=some f:=by
 obtain⟨d,b⟩:=b;have i:w'.heap[a]?=w.heap[a]?:=(h a d c b l).trans b.symm;exact(gN (w:=w) (a:=(Pn a e)) i).trans j
theorem Qc.sI {a:Ad}{j:Nd}(h:Qc z w a j){c l i:Nat}(b:w.cell? (Pn a.p 3)=some (.slice (some (Pn c 0)) l i)):∃e,w.heap[c]?=some (Qb e 22):=by
 obtain⟨_,_,_,_,m,f,d⟩:=h.cells;rw[f] at b;cases b;exact QZ d.1 rfl
theorem adt (au:ip ay)(ak:Ms U k M z w g){I O:Ad}{A b7:Nd}(aQ:Qc z w I A)(dO:Qc z w O b7)(af:A.2.fS.length=1)(c:Pl)(n:Option Addr)(ah:UH U k M z ay g (Px A 0) c (X.v (Px A 0) c g))(aL:∀e L,X.v (Px A 0) c g=((e,.no),L)->UH U k M z ay L b7 c (X.v b7 c L))(dx:∀e L r H,X.v (Px A 0) c g=((e,.no),L)->X.v b7 c L=((r,.no),H)->Sz ck H)(dZ:ck<1000000000) :
  PN 292 #[Pm k,Pm I.p,Pm O.p,QN c n] w (Qg U k M z ay w (nE X A b7 c g)):=by
 have b{G}(h:G:=by
 have cT:=Y E;have bE:=Y (fV E);have b{G}(h:G:=by
 obtain⟨cQ,cC,eg,bo,bn,cP,_⟩:=aX.Zm (a:=0) Pv;rw[af] at bo;obtain⟨al,a6⟩:=xH I.p;obtain⟨ee,dD⟩:=xH O.p;obtain⟨ep,b2⟩:=xE cQ.p;have b{G}(h:G:=by
 have dN:=dO.kp (Kp.of aI);obtain⟨cK,dq⟩:=xE (nE X A b7 ⟨F,B,C⟩ g);rw[<-dq,<-a6.out,<-dD.out];have b{G}(h:G:=by
 have be:=Y dq;have cB:=Y T;have d0:=Y aL;have dU:=Y dx;clear E a7 dq T ah bD bb bH bo bn b2 aL dx;go_enter func292,ntmps292;go_wp2_with fail;refine iJ ?_;clear bx bq;refine WY (H:=λwz D p=>VB U k M z ay w2 e u L wz D p) (G:=?GG) (λaT=>?ways) ?rest
 case ways=>
  exact nF
 case rest=>
  rintro wz D p q;have b{G}(h:G:=by
  have b{G}(h:G:=by
  have d4:=aX.kp q.fr.Ve;have dH:=dN.kp q.fr.Ve
  by_cases s:u=.no
  ·subst s;have ce:p=RI:=q.er;subst ce;have dr:=Pj d0 e L cB.out wz O n q.ms dH;rw[<-dD.out] at dr;obtain⟨dP,d2,dS,dR,_,dY⟩:=fV cZ.out
   rcases bq:X.v b7 ⟨F,B,C⟩ L with ⟨⟨r,bR⟩,H⟩
   rw[bq] at dr;have dc:=Y bq;clear bq;go_wp2_with fail;refine cm dr ?_;rintro j aR ⟨⟨p,rfl,aK⟩,ci,cY⟩;have dW:=aK;have bI:=Y (cY.f2 bQ.out PK);have dC:=Y (cY.f2 q.v PK);have cL:=b1.trans cY;have d3:=d4.kp cY.Ve;have dd:=ci.lt;clear dP d2 dS dR dY cg cp cq cr cw cx cy bK bJ bS bW bX bY bU;obtain⟨cg,cp,cq,cr,cw,cx,cy⟩:=Ql bI.out;obtain⟨bK,bJ,bS,bW,bX,bY,bU⟩:=Ql dC.out
   by_cases aO:bR=.no
   ·subst aO;have ce:p=RI:=aK;subst ce
    by_cases cH:e.k=5
    ·obtain⟨bv,df⟩:=xH e.n;have dT:=Pj dU e L r H cB.out dc.out;obtain⟨cj,dj⟩:=xE A.2.tx;obtain⟨db,da⟩:=xE ((H.M.put bv cj r false).1);have o:cK=((r,mW db),H.Ru bv cj r false):=by rw[be.out];unfold nE;rw[cB.out];dsimp only;rw[dc.out];dsimp only;rw[fT (by simp[cH]),da,df.out,dj]
     have di:=Y o;have dF:=Y (uU H.M bv cj r false);rw[<-da] at dF;rw[cH] at bK;rw[<-df.out] at bJ;have dJ:=Y cH;clear o cH;go_wp2_with fail;obtain⟨bm,ae⟩:=xE (aR.alloc (.cells #[Ph r.k,Ph r.n,PI r.s] 65));obtain⟨dz,dm⟩:=xE aR.heap.size;have b6:PG aR bm:=by rw[ae];exact QK
     have dh:bm.heap[dz]?=some (ZT r):=by rw[ae,dm];exact Pz _ _
     have b8:=ci.fQ b6;have cR:=Y (fZ b6 bI.out);have dv:=fZ b6 dC.out;have du:Hid (bm.heap[D]?=some (Qb #[Ph 5,Ph bv,PI e.s] 65)):=by
      show _=_
      rw[dv,dJ.out,df.out]
     have cn:=Y dh;have cS:=cL.trans (Qj.of (L:=none) b6 (Qe dd));have dt:=d3.kp (Kp.of b6);have cX:=dt.cells.2.2.1;have dK:=dt.cells.1;rw[<-a6.out] at cX dK;rw[<-dj] at cX;have dE:=Y dt.gG;rw[<-a6.out] at dE;have dX:=Y cX;have cG:=b8.lt;have en:=fR dh;have ef:=fR du.out;have d5:Hid (∀t,Ms U k M z t H->PN 56 #[Pm k,Ph bv,PI cj,vA r,PD false] t λj w'=>j=PY (Vg db)/\Ms U k M z w' (H.Ru bv cj r false)/\Qv Th k t w'):=λt f=>by
      obtain⟨_,_,_,_,dQ⟩:=f;refine(Z4 dQ dT dZ bv cj r false).mono ?_;rintro j w' ⟨rfl,aL,bZ⟩;rw[da];exact⟨rfl,⟨_,_,_,_,aL⟩,bZ⟩
     have eu:dz≠N:=λj=>by
      have ah:=fR bI.out;omega
     try rw[<-ae,<-dm]
     clear ae dh dv cX dj da dm cg cp cq cr cw cx cy bK bJ bS bW bX bY bU;have a:Qj none k bm bm.drew:=Qj.of RV.drew (Qe cG);refine Qd 12 (λt=>Qj none k bm t) Qz ?_;refine uc 0 (.agg #[Ph r.k,Ph r.n,PI r.s]) rfl (fU ⟨by kernel_rfl,λt f=>by have aD:=(f7 (f.f2 cn.out PK)).1;have ah:=(f7 (f.f2 cn.out PK)).2.1;have aL:=(f7 (f.f2 cn.out PK)).2.2.1;go_simp⟩) (a) ?_
     refine up 1 k 0 a ?_;refine up 2 k 0 a ?_;refine up 3 k 0 a ?_;refine up 4 D 1 a ?_;refine uc 5 (Ph bv) rfl (fU ⟨by kernel_rfl,λt f=>by have aD:=(f7 (f.f2 du.out PK)).2.1;go_simp⟩) (a) ?_
     refine up 6 al 0 a ?_;refine up 7 al 0 a ?_;refine up 8 al 1 a ?_;refine uc 9 (PI cj) rfl (fU ⟨by kernel_rfl,λt f=>by have aD:=f.Ve.YV dX.out dE.out;go_simp⟩) (a) ?_
     refine uc 10 (.agg #[Ph r.k,Ph r.n,PI r.s]) rfl (fU ⟨by kernel_rfl,λt f=>by have aD:=(f7 (f.f2 cn.out PK)).1;have ah:=(f7 (f.f2 cn.out PK)).2.1;have aL:=(f7 (f.f2 cn.out PK)).2.2.1;go_simp⟩) (a) ?_
     refine QX 11 λK d=>?_;go_simp;refine cm (Pj d5 _ (b8.fQ RV.drew)) ?_;rintro j dV ⟨rfl,d7,d6⟩;have dp:Qj none k bm dV:=a.trans (Qj.j6 d6);refine d.out _ _ (λ_=>dp) ?_;clear d K;have dG:=Y (dp.f2 cR.out PK);have d1:=cS.trans dp;obtain⟨ek,eh,el,ej,ed,eo,ei⟩:=Ql dG.out;refine VH 12 ?_;refine uz 13 (Vg db) ?_;refine Ud ?_ _;go_simp;go_wp2_with fail;obtain⟨bh,a1,aY,aH,aE,bA,bf,bi⟩:=i1 dG.out a8.out aW d1 d7 (Ph r.k) (Ph r.n) (PI r.s);rw[<-a1]
     refine YJ (v:=.tuple #[vA r,Vg db]) ?_;rw[di.out];exact⟨⟨_,rfl,wY dF.out⟩,aE,aH⟩
    ·have o:cK=((vU,ga gJ),H):=by rw[be.out];unfold nE;rw[cB.out];dsimp only;rw[dc.out];dsimp only;rw[fY cH]
     have di:=Y o;clear o;go_wp2_with fail;obtain⟨bm,ae⟩:=xE (aR.alloc (.cells #[Ph r.k,Ph r.n,PI r.s] 65));have b{G}(h:G:=by
     try rw[<-ae]
     clear ae cg cp cq cr cw cx cy bK bJ bS bW bX bY bU;refine cm (VI (es:=ay) cG gJ) ?_;rintro j db ⟨⟨p,rfl,aK⟩,bv⟩;have cn:=Y (fZ bv cR.out);have dp:=b8.fQ bv;have dm:=cS.trans (Qj.of (L:=none) bv (Qe cG));obtain⟨da,cj,cX,df,dh,dj,dt⟩:=Ql cn.out;have b{G}(h:G:=by
     have o:cK=((vU,ga gJ),H):=Pj di;rw[o];exact⟨⟨_,rfl,aK.RP aY PK⟩,aE,aH⟩):=Pq h;exact sN):=Pq h;exact x0
   ·obtain⟨bL,bN,ce⟩:=aK.X8 aO au;subst ce;have o:cK=((vU,bR),H):=by
     rw[be.out];unfold nE;rw[cB.out];dsimp only;rw[dc.out];exact xr
    have de:=Y o;clear aO o bK bJ bS bW bX bY bU;go_wp2_with fail;obtain⟨bh,a1⟩:=xE ((((aR.setCell (Pn N 0) (Ph 0)).setCell (Pn N 1) (Ph 0)).setCell (Pn N 2) (QB)).alloc (.cells #[Ph r.k,Ph r.n,PI r.s] 65));rw[<-a1];have bv:k<=N:=by have:=Pj a8;omega
    have aY:=TL bI.out bv (Ph 0) (Ph 0) (QB);have ae:=(gi _ (((aR.setCell (Pn N 0) (Ph 0)).setCell (Pn N 1) (Ph 0)).setCell (Pn N 2) (QB))).alloc Qq (.cells #[Ph r.k,Ph r.n,PI r.s] 65);have dM{G}(h:G:=by
    have bm:=(dW.RP aY PK).fQ ae;exact za):=Pq h;exact Ak
  ·obtain⟨bL,bN,ce⟩:=q.er.X8 s au;subst ce;have o:cK=((vU,u),L):=by
    rw[be.out];unfold nE;rw[cB.out];exact kc
   have de:=Y o;clear s o;have be:=de;exact sF):=Pq h;exact qO):=Pq h;exact rD):=Pq h;exact p7):=Pq h;exact o1):=Pq h;exact VQ):=Pq h;exact YA
theorem Qc.pR {i:Ad}{a:Nd}(h:Qc z w i a)(j:a.2.fS.length=2):∃b c f l,w.cell? (Pn i.p 3)=some (.slice (some (Pn f 0)) 2 l)/\w.cell? (Pn f 0)=some (Pm b.p)/\w.cell? (Pn f 1)=some (Pm c.p)/\Qc z w b (Px a 0)/\Qc z w c (Px a 1):=by
 obtain⟨b,o,m,e,n,p,_⟩:=h.Zm (a:=0) Pv;obtain⟨c,s,t,d,q,r,_⟩:=h.Zm (a:=1) Pv;rw[j] at e d;rw[e] at d;simp only[he,g7,iO,jU,kO] at d;obtain⟨rfl,rfl⟩:=d;exact⟨b,c,o,m,e,n,q,p,r⟩
theorem acs (au:ip ay)(ak:Ms U k M z w g){I:Ad}{o:Nd}(aQ:Qc z w I o)(af:o.2.fS.length=2)(c:Pl)(n:Option Addr)(A:(Px o 0).2.kd=36)(D:(Px o 0).2.fS.length=1)(ah:UH U k M z ay g (Px (Px o 0) 0) c (X.v (Px (Px o 0) 0) c g))(aL:∀e q,X.v (Px (Px o 0) 0) c g=((e,.no),q)->UH U k M z ay q (Px o 1) c (X.v (Px o 1) c q))(u:∀e q r a,X.v (Px (Px o 0) 0) c g=((e,.no),q)->X.v (Px o 1) c q=((r,.no),a)->Sz ck a)(aE:ck<1000000000) :
  PN 257 #[Pm k,Pm I.p,QN c n] w (Qg U k M z ay w (nE X (Px o 0) (Px o 1) c g)):=by
 have b{G}(h:G:=by
 have L:=Y (fV E);have b{G}(h:G:=by
 have b{G}(h:G:=by
 rw[A] at cB;have ax:=Y (λt (f:PG w2 t)=>adt au (br.fQ f) (bo.kp (Kp.of f)) (de.kp (Kp.of f)) D ⟨F,B,C⟩ n ah aL u aE);obtain⟨aH,s⟩:=xE (nE X (Px o 0) (Px o 1) ⟨F,B,C⟩ g);rw[<-s,<-bI.out,<-cC.out] at ax;rw[<-s];have b{G}(h:G:=by
 have aT:=f1 bE.out;clear E a7 cy bD bb bH cw bW bX bU s ah aL u A D;go_enter func257,ntmps257;go_wp2_with fail;refine iJ ?_;clear bx bq;refine UG 14 λa=>?_;refine rN ?_;refine uk 6 bE.out a ?_;refine up 7 al 0 a ?_;refine up 8 al 0 a ?_;refine up 9 al 3 a ?_;refine uk 10 cj.out a ?_;refine up 11 bJ 1 a ?_;refine uk 12 dg.out a ?_;refine kx 13 L.out a ?_;refine QX 14 λK d=>?_;go_simp;refine mp ?_;have b{G}(h:G:=by
 have b{G}(h:G:=by
 refine uz 15 (vA H) ?_;refine uz 16 p ?_;refine VH 17 ?_;refine uz 18 p ?_;refine Ud ?_ _;go_simp;exact q9):=Pq h;exact EB):=Pq h;exact kW):=Pq h;exact Cz):=Pq h;exact Dq):=Pq h;exact VQ):=Pq h;exact YA
theorem Nz (au:ip ay)(cP:Bs U k M z ay)(c8:Tv U)(ak:Ms U k M z w g){I:Ad}{o:Nd}(aQ:Qc z w I o)(af:o.2.fS.length=2)(c:Pl)(n:Option Addr)(dt:¬ (Px o 0).2.kd=36)(aL:UH U k M z ay (look (Px o 0) c g).2 (Px o 1) c (X.v (Px o 1) c (look (Px o 0) c g).2))(dj:Sz ck g)(b2:∀e A,X.v (Px o 1) c (look (Px o 0) c g).2=((e,.no),A)->Sz ck A)(dN:ck+1<1000000000) :
  PN 257 #[Pm k,Pm I.p,QN c n] w (Qg U k M z ay w (tn X (Px o 0) (Px o 1) c g)):=by
 have b{G}(h:G:=by
 have dr:=Y E;have dH:=Y (fV E);have b{G}(h:G:=by
 have b{G}(h:G:=by
 obtain⟨eu,cY⟩:=xE ((Px o 0).2.kd);rw[<-cY] at cB dt;obtain⟨bm,ci⟩:=xE ((look (Px o 0) ⟨F,B,C⟩ g).1);obtain⟨dU,bK⟩:=xE ((look (Px o 0) ⟨F,B,C⟩ g).2);have a6:=Y (λt (f:PG w2 t)=>HM cP (br.fQ f) dj Pv (bo.kp (Kp.of f)) ⟨F,B,C⟩ n);rw[<-ci,<-bK,<-bI.out] at a6;rw[<-bK] at aL b2;obtain⟨bn,b7⟩:=xE ((Px o 0).2.tx)
 rcases T:X.v (Px o 1) ⟨F,B,C⟩ dU with ⟨⟨e,u⟩,A⟩
 rw[T] at aL;obtain⟨cq,b8⟩:=xE (tn X (Px o 0) (Px o 1) ⟨F,B,C⟩ g);rw[<-b8];have be:Hid (cq=match (((e,u),A):(Va×Er)×St) with
  |((v,.no),A)=>((v,(iH bm bn v C A).1),(iH bm bn v C A).2)
  |((_,j),A)=>((vU,j),A)):=by
  show _=_
  rw[b8];unfold tn;rw[<-bK,T,<-ci,<-b7]
  all_goals cases u <;> rfl
 have dm:=Y T;have dO:=aL;have dY:=Y b2;have cg:=bo.cells.2.2.1;rw[<-b7,<-bI.out] at cg;have dT:=Y cg;have dP:=bo.cells.1;rw[<-bI.out] at dP;have b{G}(h:G:=by
 have cp:=Y cw;have cT:=Y bW;have cK:=Y bX;have ew:=f1 bE.out;clear E a7 cy bD bb bH cw bW bX bU b8 T aL b2 ci bK cY b7 cg;go_enter func257,ntmps257;go_wp2_with fail;refine iJ ?_;clear bx bq;refine UG 8 λa=>?_;refine rN ?_;refine uk 6 bE.out a ?_;refine kx 7 dH.out a ?_;refine QX 8 λK d=>?_;go_simp;refine qS ?_;rintro j L ⟨rfl,cS,dJ⟩;refine ko d ?_;clear d K;have aO:=(Qj.of (L:=none) a (Qe bP)).trans dJ;have cQ:=Y (aO.f2 bG.out PK)
 have ce:=Y (aO.f2 dr.out PK);have dc:=Y (fV ce.out);have dx:=bF.trans aO;have cn:=Y (aO.Ve.UY cj.out cT.out (fU rfl));have bR:=Y (aO.Ve.UY dg.out cp.out (f4 rfl));have dh:=Y (aO.Ve.UY bE.out cp.out (f4 rfl));have dd:=Y (aO.Ve.UY dT.out cK.out (fU rfl));have da:Hid (∃m,L.heap[al]?=some (Qb m 40)):=by obtain⟨m,H⟩:=Pj cT;exact⟨m,aO.Ve _ _ _ H (fU rfl)⟩
 have db:Hid (∃m,L.heap[bJ]?=some (Qb m 22)):=by obtain⟨m,H⟩:=Pj cp;exact⟨m,aO.Ve _ _ _ H (f4 rfl)⟩
 have cL:Hid (∃m,L.heap[bv]?=some (Qb m 40)):=by obtain⟨m,H⟩:=Pj cK;exact⟨m,aO.Ve _ _ _ H (fU rfl)⟩
 have bS:=cS.lt;have d7:=fR ce.out;have eE:al<L.heap.size:=f1 cn.out;have eg:bJ<L.heap.size:=f1 bR.out;have ax:=Y (λt (f:PG L t)=>dO t df n (cS.fQ f) ((de.kp aO.Ve).kp (Kp.of f)));rw[<-cC.out] at ax;refine uz 9 (Ph bm) ?_;refine Ud ?_ _;go_simp;go_wp2_with fail;refine WY (H:=λwz D p=>VB U k M z ay L e u A wz D p) (G:=?GG) (λaT=>?ways) ?rest
 case ways=>
  refine UG 8 λa=>?_;refine kT ?_;refine uk 4 cn.out a ?_;refine up 5 bJ 1 a ?_;exact Ku
 case rest=>
  rintro wz D p q;have cA:=q.fr.f2 cQ.out PK;have bQ:=Y cA;obtain⟨dF,dq,du,dC,dD,dE,dX⟩:=Ql (cA);have dG:=q.ms.lt;have ef:D≠N:=λj=>by
   have ah:=q.vb;have aL:=fR cQ.out;omega
  have b1:Qj none k w wz:=dx.trans q.fr;have cR:=Y (q.fr.f2 ce.out PK);clear cA
  by_cases s:u=.no
  ·subst s;have bY:p=RI:=q.er;subst bY;have dp:=Pj dY e A dm.out;obtain⟨cr,bN⟩:=xE (iH bm bn e C A);have aR:cq=((e,cr.1),cr.2):=by rw[be.out,bN]
   have dv:=Y aR;have dS:Hid (∀t,Ms U k M z t A->PN 197 #[Pm k,Ph bm,PI bn,vA e,PD C] t (g3 U k M z ay t cr)):=λt f=>by
    rw[bN];exact Cu cP c8 f dp dN bm bn e C
   have ae:=Y q.v;have dQ:=q.ms;have cZ:=Y (q.fr.Ve.UY cn.out da.out (fU rfl));have cH:=Y (q.fr.Ve.UY dh.out db.out (f4 rfl));have cX:=Y (q.fr.Ve.UY dd.out cL.out (fU rfl));have dZ:Hid (∃m,wz.heap[al]?=some (Qb m 40)):=by obtain⟨m,H⟩:=Pj da;exact⟨m,q.fr.Ve _ _ _ H (fU rfl)⟩
   have d0:Hid (∃m,wz.heap[bJ]?=some (Qb m 22)):=by obtain⟨m,H⟩:=Pj db;exact⟨m,q.fr.Ve _ _ _ H (f4 rfl)⟩
   have di:Hid (∃m,wz.heap[bv]?=some (Qb m 40)):=by obtain⟨m,H⟩:=Pj cL;exact⟨m,q.fr.Ve _ _ _ H (fU rfl)⟩
   have eh:=f1 cZ.out;have eD:=f1 cH.out;have ee:=f1 cX.out;have ep:=fR cR.out;have ed:=fR q.v;clear bN aR dF dq du dC dD dE dX;go_wp2_with fail;have a:Qj none k wz wz.drew:=Qj.of RV.drew (Qe dG);refine Qd 16 (λt=>Qj none k wz t) Qz ?_;refine uc 0 (.agg #[Ph e.k,Ph e.n,PI e.s]) rfl (fU ⟨by kernel_rfl,λt f=>by have aD:=(f7 (f.f2 ae.out PK)).1;have ah:=(f7 (f.f2 ae.out PK)).2.1;have aL:=(f7 (f.f2 ae.out PK)).2.2.1;go_simp⟩) (a) ?_
   refine up 1 k 0 a ?_;refine uh 2 (Ph bm) (a) ?_;refine up 3 al 0 a ?_;refine up 4 al 0 a ?_;refine up 5 al 3 a ?_;refine uc 6 (.slice (some (Pn bJ 0)) 2 d1) rfl (fU ⟨by kernel_rfl,λt f=>by have aD:=f.Ve.UY cZ.out dZ.out (fU rfl);go_simp⟩) (a) ?_
   refine up 7 bJ 0 a ?_;refine uc 8 (PZ bv 0) rfl (fU ⟨by kernel_rfl,λt f=>by have aD:=f.Ve.UY cH.out d0.out (f4 rfl);go_simp⟩) (a) ?_
   refine up 9 bv 0 a ?_;refine up 10 bv 1 a ?_;refine uc 11 (PI bn) rfl (fU ⟨by kernel_rfl,λt f=>by have aD:=f.Ve.UY cX.out di.out (fU rfl);go_simp⟩) (a) ?_
   refine uc 12 (.agg #[Ph e.k,Ph e.n,PI e.s]) rfl (fU ⟨by kernel_rfl,λt f=>by have aD:=(f7 (f.f2 ae.out PK)).1;have ah:=(f7 (f.f2 ae.out PK)).2.1;have aL:=(f7 (f.f2 ae.out PK)).2.2.1;go_simp⟩) (a) ?_
   refine up 13 cJ 2 a ?_;refine uc 14 (PD C) rfl (fU ⟨by kernel_rfl,λt f=>by have aD:=(fV (f.f2 cR.out PK)).2.2.1;go_simp⟩) (a) ?_
   refine QX 15 λK d=>?_;go_simp;refine cm (Pj dS _ (dQ.fQ RV.drew)) ?_;rintro j dz ⟨⟨p,rfl,aK⟩,dW,dV⟩;have bL:Qj none k wz dz:=a.trans dV;refine d.out _ _ (λ_=>bL) ?_;clear d K;have cU:=Y (bL.f2 bQ.out PK);have dR:=b1.trans bL;obtain⟨el,ei,en,ek,d6,eo,ej⟩:=Ql cU.out;refine VH 16 ?_;refine uz 17 p ?_;refine Ud ?_ _;go_simp;go_wp2_with fail;obtain⟨bh,a1,aY,aH,aE,bA,bf,bi⟩:=i1 cU.out a8.out aW dR dW (Ph e.k) (Ph e.n) (PI e.s);rw[<-a1]
   refine YJ (v:=.tuple #[vA e,p]) ?_;rw[dv.out];exact⟨⟨_,rfl,aK.RP aY PK⟩,aE,aH⟩
  ·obtain⟨bL,bN,bY⟩:=q.er.X8 s au;subst bY;have aR:cq=((vU,u),A):=by
    rw[be.out];exact kc
   have ae:=Y aR;clear s aR;have be:=ae;exact sF):=Pq h;exact Cz):=Pq h;exact Dq):=Pq h;exact VQ):=Pq h;exact YA
def LA:Option Nat->Option Addr
 |none=>none
 |some a=>some (Pn a 0)
def P9 (w:Py):Option Nat->Option Va->Prop
 |none,none=>True
 |some a,some b=>w.heap[a]?=some (ZT b)
 |_,_=>False
def pP (c:(Va×Er)×St):Er×St:=match c with
 |((b,.no),a)=>(.Y3 b,a)
 |((_,b),a)=>(b,a)
def nK (b:Option Va)(d:(Va×Er)×St):(Er×Option Va)×St:=match d with
 |((c,.no),a)=>((.no,b.map λ_=>c),a)
 |((_,c),a)=>((c,b),a)
def oQ (X:Fx)(a:Nd)(b:Pl)(g:St):Er×St:=match X.v (Px a 0) b g with
 |((d,.no),c)=>iH (g.M.find b.scope a.2.tx) a.2.tx d b.f3 c
 |((_,d),c)=>(d,c)
def lD (b:Nd)(c:Pl)(e:(Va×Er)×St):Er×St:=match e with
 |((d,.no),a)=>(mW (a.M.start c.scope b.2.tx d).1,{ a with M:=(a.M.start c.scope b.2.tx d).2 })
 |((_,d),a)=>(d,a)
variable {aJ:Option Nat}
theorem P9.f2 {a:Option Va}(h:P9 w aJ a)(b:Qj none k w w'):P9 w' aJ a:=by
 cases aJ <;> cases a <;> first|exact h|exact b.f2 h PK
def n2 (U:Py)(k M:Nat)(z:List Nat)(ay:PO)(aJ:Option Nat)(w:Py)(a:(Er×Option Va)×St)(c:Ending)(w':Py):Prop:=
 (∃b,c=PY b/\Yu ay w' b a.1.1)/\Ms U k M z w' a.2/\Qj aJ k w w'/\P9 w' aJ a.1.2
section
variable (ak:Ms U k M z w g){q:PO}
include ak q
theorem MG (T:Uk 0 w q [])(c:Pl)(n:Option Addr) :
  PN 114 #[Pm k,q,QN c n] w (Qg U k M z ay w ((vU,.no),g)):=by
 have b{G}(h:G:=by
 obtain⟨m,o,a⟩:=T.form;rw[kv] at a;subst a;have i:=ak.fQ aI;have f:=Qj.of (L:=none) aI (Qe aW);have e:=Y a7;clear E a7 bD bb bH;go_enter func114,ntmps114;go_wp2_with fail;obtain⟨j,d⟩:=xE ((w.alloc (.cells #[Ph F,Ph B,PD C,.pointer n] 73)).alloc (.cells #[Ph 0,Ph 0,QB] 65));rw[<-d];have l:j=w2:=by rw[d];exact cz.out.symm
 rw[l,<-bq];obtain⟨bA,bf,bi,_,_⟩:=f7 e.out;exact ng (v:=.tuple #[vA vU,RI]) ⟨⟨_,rfl,rfl⟩,i,f⟩):=Pq h;exact xp
theorem aib {i:Ad}{o:Nd}(T:Uk 0 w q [i])(aQ:Qc z w i o)(c:Pl)(n:Option Addr)(ah:UH U k M z ay g o c (X.v o c g)) :
  PN 114 #[Pm k,q,QN c n] w (Qg U k M z ay w (X.v o c g)):=by
 have b{G}(h:G:=by
 obtain⟨u,aX,A,bm,D,_⟩:=(T.fQ aI).cell 0 Qh;rw[show ([i]:List Ad).length=1 from rfl] at A;subst A;have L:=ak.fQ aI;have bF:=Qj.of (L:=none) aI (Qe aW);have bG:=Y a7;have aY:=Y (fV E);have a8:=Y bb;have ax:=Y (λt (f:PG w2 t)=>ah t i n (L.fQ f) ((aQ.kp (Kp.of aI)).kp (Kp.of f)));obtain⟨aH,al⟩:=xE (X.v o ⟨F,B,C⟩ g);rw[<-al] at ax ⊢;obtain⟨a6,s⟩:=xE i.p;have aE:w2.cell? (Pn u 0)=some (Pm a6):=by rw[s];exact D
 rw[<-s] at ax;have aT:=Y aE;have bP:=L.lt;have bn:=fR E;clear E a7 ah D s bD bb bH al aE;go_enter func114,ntmps114;go_wp2_with fail;refine iJ ?_;clear bx bq;refine UG 5 λa=>?_;refine up 0 k 0 a ?_;refine uh 1 (.slice (some (Pn u 0)) 1 aX) (a) ?_;refine up 2 u 0 a ?_;refine uk 3 aT.out a ?_;refine kx 4 aY.out a ?_;refine QX 5 λK d=>?_;go_simp;refine mp ?_;have b{G}(h:G:=by
 have b{G}(h:G:=by
 refine uz 6 (vA H) ?_;refine uz 7 p ?_;refine VH 8 ?_;refine uz 9 p ?_;refine Ud ?_ _;go_simp;exact q9):=Pq h;exact EB):=Pq h;exact kW):=Pq h;exact xp
end
section
variable (au:ip ay)(ak:Ms U k M z w g){I:Ad}{F:Nd}(aQ:Qc z w I F)(af:F.2.fS.length=1)(q:Pl)
include au ak I F aQ af q
theorem WK (n:Option Addr)(ah:UH U k M z ay g (Px F 0) q (X.v (Px F 0) q g)) :
  PN 115 #[Pm k,Pm I.p,QN q n] w (g3 U k M z ay w (pP (X.v (Px F 0) q g))):=by
 have aW:=ak.lt;have b{G}(h:G:=by
 have L:w.heap.size<=H:=Pv;have b{G}(h:G:=by
 have bE:=Y (fV E);have b{G}(h:G:=by
 have b{G}(h:G:=by
 have b{G}(h:G:=by
 rcases T:X.v (Px F 0) ⟨c,B,C⟩ g with ⟨⟨e,u⟩,A⟩
 obtain⟨a7,N⟩:=xH (pP ((e,u),A));have b{G}(h:G:=by
 clear E T ah L bo bn b2;go_enter func115,ntmps115;go_wp2_with fail;rw[<-a1.out,<-aO];clear aO;refine WY (H:=λwz D p=>VB U k M z ay w2 e u A wz D p) (G:=?GG) (λaT=>?ways) ?rest
 case ways=>
  exact nF
 case rest=>
  rintro wz D p o;have d:=o.ms.lt;have ae:Qj none k w wz:=bF.trans o.fr;obtain⟨l,i,j,r,O,ad,m⟩:=Ql (o.v)
  by_cases s:u=.no
  ·subst s;have aR:p=RI:=o.er;subst aR;go_wp2_with fail;have a:=(gi wz.heap.size wz).alloc Qq (.cells #[Ph e.k,Ph e.n,PI e.s] 126);refine Uj (v:=.iface 122 (PZ wz.heap.size 0)) ?_;have ap:a7=(.Y3 e,A):=Pj N;rw[ap];exact⟨⟨_,rfl,_,rfl,Pz _ _⟩,o.ms.fQ a,ae.trans (Qj.of (L:=none) a (Qe d))⟩
  ·exact ys):=Pq h;exact x1):=Pq h;exact o1):=Pq h;exact nr):=Pq h;exact nq):=Pq h;exact oJ):=Pq h;exact mQ
theorem acv (ah:UH U k M z ay g (Px F 0) q (X.v (Px F 0) q g)) :
  PN 117 #[Pm k,Pm I.p,QN q none] w (n2 U k M z ay none w (nK none (X.v (Px F 0) q g))):=by
 have aW:=ak.lt;obtain⟨C,n,H⟩:=q;obtain⟨w2,A⟩:=xH (w.alloc (.cells #[Ph C,Ph n,PD H,Rz] 73));have aI:PG w w2:=by rw[A.out];exact QK
 obtain⟨L,B⟩:=xE w.heap.size;have E:w2.heap[L]?=some (Qb #[Ph C,Ph n,PD H,Rz] 73):=by rw[A.out,B];exact Pz _ _
 have aH:w.heap.size<=L:=Pv;have b{G}(h:G:=by
 have bb:=Y E;have bE:=Y (fV E);have b{G}(h:G:=by
 have b{G}(h:G:=by
 have ax:=Y (λt (f:PG w2 t)=>ah t cQ none (br.fQ f) (cP.kp (Kp.of f)))
 rcases T:X.v (Px F 0) ⟨C,n,H⟩ g with ⟨⟨e,u⟩,c⟩
 obtain⟨aE,N⟩:=xH (nK none ((e,u),c));have b{G}(h:G:=by
 clear E T ah aH bo bn b2;go_enter func117,ntmps117;go_wp2_with fail;rw[<-A.out,<-B];clear B;refine WY (H:=λwz D p=>VB U k M z ay w2 e u c wz D p) (G:=?GG) (λaT=>?ways) ?rest
 case ways=>
  exact nF
 case rest=>
  have b{G}(h:G:=by
  obtain⟨aM,ad,ap,aR,aU,aY,aO⟩:=Ql (o.v);obtain⟨m,aZ,O,r,_,aD⟩:=fV aK.out
  by_cases s:u=.no
  ·subst s;have d:p=RI:=o.er;subst d;go_wp2_with fail;refine Uj (v:=RI) ?_;have a:aE=((.no,none),c):=Pj N;rw[a];exact⟨⟨_,rfl,rfl⟩,o.ms,ae,trivial⟩
  ·obtain⟨j,l,d⟩:=o.er.X8 s au;subst d;have a:aE=((u,none),c):=by
    rw[N.out];exact kc
   have i:=Y a;clear s a;go_wp2_with fail;refine Uj (v:=.iface j l) ?_;rw[i.out];exact⟨⟨_,rfl,o.er⟩,o.ms,ae,trivial⟩):=Pq h;exact vR):=Pq h;exact x1):=Pq h;exact nr):=Pq h;exact nq):=Pq h;exact oJ
theorem UB {b6:Va}{c:Nat}(ba:w.heap[c]?=some (ZT b6))(aY:k<=c)(ah:UH U k M z ay g (Px F 0) q (X.v (Px F 0) q g)) :
  PN 117 #[Pm k,Pm I.p,QN q (some (Pn c 0))] w (n2 U k M z ay (some c) w (nK (some b6) (X.v (Px F 0) q g))):=by
 have aW:=ak.lt;obtain⟨L,A,aE⟩:=q;obtain⟨w2,B⟩:=xH (w.alloc (.cells #[Ph L,Ph A,PD aE,PZ c 0] 73));have aI:PG w w2:=by rw[B.out];exact QK
 obtain⟨C,H⟩:=xE w.heap.size;have E:w2.heap[C]?=some (Qb #[Ph L,Ph A,PD aE,PZ c 0] 73):=by rw[B.out,H];exact Pz _ _
 have a1:w.heap.size<=C:=Pv;have b{G}(h:G:=by
 have bb:=Y E;have bE:=Y (fV E);have b{G}(h:G:=by
 have b{G}(h:G:=by
 have ax:=Y (λt (f:PG w2 t)=>ah t cQ (some (Pn c 0)) (br.fQ f) (cP.kp (Kp.of f)))
 rcases T:X.v (Px F 0) ⟨L,A,aE⟩ g with ⟨⟨e,u⟩,n⟩
 obtain⟨aO,N⟩:=xH (nK (some b6) ((e,u),n));have b{G}(h:G:=by
 have aH:=Y (fZ aI ba);have a7:c≠C:=λj=>by have:=fR ba;omega
 clear E T ah a1 bo bn b2 ba;go_enter func117,ntmps117;go_wp2_with fail;rw[<-B.out,<-H];clear H;refine WY (H:=λwz D p=>VB U k M z ay w2 e u n wz D p) (G:=?GG) (λaT=>?ways) ?rest
 case ways=>
  exact nF
 case rest=>
  have b{G}(h:G:=by
  have d:=Y (o.fr.f2 aH.out PK);have bN:c≠D:=λj=>by
   have ah:=o.vb;have aL:=fR aH.out;omega
  obtain⟨bm,bf,bh,bA,bD,bG,bz⟩:=Ql (o.v);obtain⟨bI,bq,bJ,bx,aR,bK,bv⟩:=Ql d.out;obtain⟨aU,bL,be,a8,_,bi⟩:=fV aK.out
  by_cases s:u=.no
  ·subst s;have i:p=RI:=o.er;subst i;go_wp2_with fail;have ap:=TL d.out aY (Ph e.k) (Ph e.n) (PI e.s);have aD:=l9 d.out (Ph e.k) (Ph e.n) (PI e.s);refine Uj (v:=RI) ?_;have a:aO=((.no,some e),n):=Pj N;rw[a];refine⟨⟨_,rfl,rfl⟩,o.ms.ZR ap PK,?_,aD⟩;refine⟨ae.below.trans ap.below,λO m j ad s ba=>?_⟩;have ah:=ae.rest O m j ad s Qh;have r:O≠c:=λj=>ba (by rw[j]);rw[gY _ _ _ _ r,gY _ _ _ _ r,gY _ _ _ _ r];exact ah
  ·obtain⟨ap,aD,i⟩:=o.er.X8 s au;subst i;have a:aO=((u,some b6),n):=by
    rw[N.out];exact kc
   have r:=Y a;clear s a;go_wp2_with fail;refine Uj (v:=.iface ap aD) ?_;rw[r.out];exact⟨⟨_,rfl,o.er⟩,o.ms,ae.up,d.out⟩):=Pq h;exact vR):=Pq h;exact x1):=Pq h;exact nr):=Pq h;exact nq):=Pq h;exact oJ
theorem aeH (n:Option Addr)(ah:UH U k M z ay g (Px F 0) q (X.v (Px F 0) q g))(bW:Bs U k M z ay)(bU:Tv U)(bq:Sz ck g)(bx:∀e A,X.v (Px F 0) q g=((e,.no),A)->Sz ck A)(cn:ck+1<1000000000) :
  PN 108 #[Pm k,Pm I.p,QN q n] w (g3 U k M z ay w (oQ X F q g)):=by
 have aW:=ak.lt;have b{G}(h:G:=by
 have ce:w.heap.size<=H:=Pv;have b{G}(h:G:=by
 have b1:=Y E;have bN:=Y (fV E);have b{G}(h:G:=by
 obtain⟨bD,bA,cL,a8,bf,cj,_⟩:=aQ.Zm (a:=0) Pv;rw[af] at a8;have cz:=aQ.cells.1;obtain⟨al,bv⟩:=xE I.p;obtain⟨cU,bK⟩:=xH bD.p;have cy:=cj.kp (Kp.of aI);obtain⟨aY,be⟩:=xE F.2.tx;obtain⟨aH,bn⟩:=xE (g.M.find c aY);have a6:Hid (∀t,PG w2 t->PN 195 #[Pm k,Ph c,PI aY] t λj w'=>j=PY (Ph aH)/\PG t w'):=λt f=>by
  obtain⟨_,_,_,_,o⟩:=br.fQ f;rw[bn];exact rJ o.hh bq.go.ok bq.go.sm Pv c aY
 rcases T:X.v (Px F 0) ⟨c,B,C⟩ g with ⟨⟨e,u⟩,A⟩
 obtain⟨a7,bh⟩:=xE (oQ X F ⟨c,B,C⟩ g);rw[<-bh];have N:Hid (a7=match (((e,u),A):(Va×Er)×St) with
  |((v,.no),A)=>iH aH aY v C A
  |((_,j),A)=>(j,A)):=by
  show _=_
  rw[bh];unfold oQ;rw[T,bn,be]
 have bY:=Y T;have cE:=Y bx;rw[T] at ah;have bb:=aX.cells.2.2.1;rw[<-be] at bb;have bm:=aX.gG;have cp:=aX.sI (PV aI a8);rw[<-bv] at a8 bH cz bb bm ⊢;rw[<-bK.out] at bf;have b8:=Y (PV aI a8);have cx:=Y (PV aI bf);have bG:=Y bb;have cq:=Y bm;clear E bh T bv ce bf bx be bn bb bm cp;go_enter func108,ntmps108;go_wp2_with fail;rw[<-a1.out,<-aO];clear aO;refine UG 9 λa=>?_;refine iF ?_;refine GV ?_;refine uk 8 bG.out a ?_;refine QX 9 λK d=>?_
 go_simp;refine qS ?_;rintro j L ⟨rfl,b2⟩;refine ko d ?_;clear d K;have aE:PG w2 L:=a.trans b2;have bE:=br.fQ aE;have bi:=Y (fZ aE b1.out);have dc:=Y (fV bi.out);have b7:=bF.trans (Qj.of (L:=none) aE (Qe bP));have bJ:=Y (PV aE b8.out);have bR:=Y (PV aE cx.out);have bQ:=Y (PV aE bG.out);have cG:Hid (∃m,L.heap[al]?=some (Qb m 40)):=by obtain⟨m,bX⟩:=Pj cq;exact⟨m,fZ aE bX⟩
 have bS:=bE.lt;have cJ:=fR bi.out;have cX:al<L.heap.size:=f1 bJ.out;have cQ:bA<L.heap.size:=f1 bR.out;have ax:=Y (λt (f:PG L t)=>ah t bD n (bE.fQ f) ((cy.kp (Kp.of aE)).kp (Kp.of f)));rw[<-bK.out] at ax;refine uz 10 (Ph aH) ?_;refine Ud ?_ _;clear a8;go_simp;go_wp2_with fail;refine WY (H:=λwz D p=>VB U k M z ay L e u A wz D p) (G:=?GG) (λaT=>?ways) ?rest
 case ways=>
  refine UG 8 λa=>?_;refine kT ?_;refine uk 4 bJ.out a ?_;refine up 5 bA 0 a ?_;exact Ku
 case rest=>
  rintro wz D p o;have cg:=o.ms.lt;have ae:Qj none k w wz:=b7.trans o.fr;have bz:=Y (o.fr.f2 bi.out PK)
  by_cases s:u=.no
  ·subst s;have aR:p=RI:=o.er;subst aR;have bZ:=Pj cE e A bY.out;obtain⟨bL,bo⟩:=xE (iH aH aY e C A);have ap:a7=bL:=by rw[N.out,bo]
   have b5:=Y ap;have cw:Hid (∀t,PG wz t->PN 197 #[Pm k,Ph aH,PI aY,vA e,PD C] t (g3 U k M z ay t bL)):=λt f=>by
    rw[bo];exact Cu bW bU (o.ms.fQ f) bZ cn aH aY e C
   have ci:=Y (f7 o.v);have cC:=Y (fV bz.out);have bI:=Y (o.fr.Ve.UY bQ.out cG.out (fU rfl));have cR:=f1 bI.out;have cT:=fR bz.out;have cK:=fR o.v;clear bo ap;go_wp2_with fail;refine UG 9 λa=>?_;refine up 0 k 0 a ?_;refine uh 1 (Ph aH) (a) ?_;refine up 2 al 0 a ?_;refine up 3 al 0 a ?_;refine up 4 al 1 a ?_;refine uk 5 bI.out a ?_;refine jY 6 ci.out a ?_;refine up 7 H 2 a ?_;refine uk 8 (cC.out.2.2.1) a ?_;refine QX 9 λK d=>?_;go_simp
   refine cm (Pj cw _ a) ?_;rintro j cP ⟨⟨p,rfl,aK⟩,cB,cA⟩;refine ko d ?_;clear d K;have cr:=ae.trans ((Qj.of (L:=none) a (Qe cg)).trans cA);refine uz 10 p ?_;refine Ud ?_ _;go_simp;go_wp2_with fail;refine Uj (v:=p) ?_;rw[b5.out];exact⟨⟨_,rfl,aK⟩,cB,cr⟩
  ·exact ys):=Pq h;exact nq):=Pq h;exact oJ):=Pq h;exact mQ
end
def Eo (g:St):Er->Prop
 |.no=>g.steps<=20000
 |.stop=>g.steps=20001
 |.Y3 a=>g.steps<=20000/\Gv g.M.objs.length a
 |.iZ=>False
structure VO (N:Int)(σ:St)(r:(Va×Er)×St):Prop where
 iv:Iv N r.2
 ex:Ex σ r.2
 er:Eo r.2 r.1.2
 va:Gv r.2.M.objs.length r.1.1
structure Q (f:Nat)(N:Int)(p:Pl)(σ:St):Prop where
 fu:20001<σ.steps+f
 st:σ.steps<=20000
 iv:Iv N σ
 po:Po p σ
def Lg (g:St)(b:Option Va):Prop:=∀a,b=some a->Gv g.M.objs.length a
structure SO (N:Int)(σ:St)(r:(Oc×Er×Option Va)×St):Prop where
 iv:Iv N r.2
 ex:Ex σ r.2
 er:Eo r.2 r.1.2.1
 va:Gv r.2.M.objs.length r.1.1.v
 la:Lg r.2 r.1.2.2
structure FI (F:Fx)(f:Nat):Prop where
 v:∀{N d p σ},Q f N p σ->Nk 0 d.2->VO N σ (F.v d p σ)/\σ.steps<(F.v d p σ).2.steps
 s:∀{N d p l σ},Q f N p σ->Nk 1 d.2->(QE d.2=true->K4 σ.M p.scope d.2.tx)->Lg σ l->SO N σ (F.s d p l σ)/\σ.steps<(F.s d p l σ).2.steps
end
section
variable {a N':Int}{σ e R:St}{v:Va}{f:Er}{j:Nat}{b:Pl}{g:Fx}{d:Nd}{o B:Option Va}{aM:Oc}
section
variable (h:Q j a b σ)
include h
theorem Q.nx (c:Nx N' σ e):Q j N' b e:=⟨by rw[c.st];exact h.fu,by rw[c.st];exact h.st,c.iv,h.po.up c.ex⟩
theorem Q.next (c:VO N' σ ((v,.no),e)):Q j N' b e:=⟨by have:=h.fu;have:=c.ex.st;dsimp only at this;omega,c.er,c.iv,h.po.up c.ex⟩
theorem Q.jd (c:SO N' σ ((aM,.no,o),e)):Q j N' b e:=⟨by have:=h.fu;have:=c.ex.st;dsimp only at this;omega,c.er,c.iv,h.po.up c.ex⟩
end
theorem VO.up {c:(Va×Er)×St}(h:VO a σ c)(i:a<=N'):VO N' σ c:=⟨h.iv.up i,h.ex,h.er,h.va⟩
theorem SO.up {c:(Oc×Er×Option Va)×St}(h:SO a σ c)(i:a<=N'):SO N' σ c:=⟨h.iv.up i,h.ex,h.er,h.va,h.la⟩
theorem VO.after {c:(Va×Er)×St}(i:Ex σ e)(h:VO a e c):VO a σ c:=⟨h.iv,i.trans h.ex,h.er,h.va⟩
theorem SO.after {c:(Oc×Er×Option Va)×St}(i:Ex σ e)(h:SO a e c):SO a σ c:=⟨h.iv,i.trans h.ex,h.er,h.va,h.la⟩
theorem VO.err (h:VO a σ ((v,f),e)):VO a σ ((vU,f),e):=⟨h.iv,h.ex,h.er,WJ _⟩
theorem VO.qw (h:VO a σ ((v,f),e))(i:Lg σ o):SO a σ ((SG,f,o),e):=⟨h.iv,h.ex,h.er,WJ _,λx c=>(i x c).up h.ex.ob⟩
theorem VO.ret (h:Nx a σ e)(c:σ.steps<=20000)(i:Gv e.M.objs.length v):VO a σ ((v,.no),e):=⟨h.iv,h.ex,by show e.steps<=20000;rw[h.st];exact c,i⟩
theorem VO.ga {c:PS}(h:Nx a σ e)(i:σ.steps<=20000)(k:Sm c):VO a σ ((vU,ga c),e):=⟨h.iv,h.ex,⟨by rw[h.st];exact i,lZ k⟩,WJ _⟩
theorem Lg.up (h:Lg σ o)(i:Ex σ e):Lg e o:=λx c=>(h x c).up i.ob
theorem SO.ret (h:Nx a σ e)(c:σ.steps<=20000)(i:Gv e.M.objs.length aM.v)(k:Lg e o):SO a σ ((aM,.no,o),e):=⟨h.iv,h.ex,by show e.steps<=20000;rw[h.st];exact c,i,k⟩
theorem HG {s:Nat}{c:Mo}{aM:Int}{t:PS}{k:Pr}(h:Gm s c)(l:c.gQ aM t=some k):Gv c.objs.length k.v:=by
 unfold Mo.gQ at l;obtain⟨x,i,m⟩:=Option.bind_eq_some_iff.1 l;have n:x ∈ c.objs:=by
  rcases SY c aM with ⟨q,_⟩|⟨u,y,_,r,p⟩
  ·rw[q] at i;cases i
  ·rw[p] at i;cases i;exact gC r
 exact h.pv x n k (iz m)
theorem avH {u:Nat}{c:Mo}(h:Gm u c)(k:Int)(l:PS):Gv c.objs.length (c.read k l).1:=by
 unfold Mo.read
 cases m:c.Y2 k l with
 |some r=>
  simp only
  split
  ·unfold Mo.Y2 at m;obtain⟨x,i,n⟩:=Option.bind_eq_some_iff.1 m;have p:x ∈ c.PL:=by
    rcases QC c k with ⟨s,_⟩|⟨w,y,_,t,q⟩
    ·rw[s] at i;cases i
    ·rw[q] at i;cases i;exact gC t
   exact h.cv x p r (iz n)
  ·exact WJ _
 |none=>
  simp only
  cases i:c.gQ (c.SX k) l with
  |none=>exact WJ _
  |some n=>exact HG h i
theorem w4:Sm SK:=by decide
theorem ov:Sm gJ:=by decide
theorem wj:Sm Vp:=by decide
theorem ua:Sm Vd:=by decide
theorem zR {c:Mo}{aM:Int}(h:0<=aM/\aM<c.objs.length)(k:PS)(v:Va)(fx:Bool):(c.put aM k v fx).1=0:=by
 unfold Mo.put
 rcases SY c aM with ⟨_,i⟩|⟨m,x,rfl,l,i⟩
 ·omega
 ·rw[i];simp only
  split
  ·rfl
  ·split <;> rfl
theorem ar6 {i:Mo}{r:Int}{c:PS}(h:K4 i r c)(v:Va):(i.start r c v).1=0:=by
 obtain⟨q,x,l,rfl,n,t,u,_⟩:=h;unfold Mo.start
 rcases QC i q with ⟨_,m⟩|⟨w,y,f,p,m⟩
 ·have:=(gs.1 n).1;omega
 ·have f:q=w:=Pv;subst f;rw[n] at p;cases p;rw[m];simp only
  rcases Wq (λl=>ZO c l.name) x.cs with ⟨k,_⟩|⟨z,A,k,s,_,_⟩
  ·exact absurd (jL.1 k l t) (by rw[u];simp)
  ·rw[show fC c x.cs=some z from k];simp only[s]
section
variable (h:Iv a σ)(au:σ.steps<=20000)(q:Gv σ.M.objs.length v)(c:Int)(i:PS)(k:Bool)
include h au q c i k
theorem Lb:Iv (a+1) (XA c i v k σ).2/\Ex σ (XA c i v k σ).2/\Eo (XA c i v k σ).2 (XA c i v k σ).1:=by
 unfold XA
 split
 ·exact⟨h.up Pv,Ex.refl _,au,lZ w4⟩
 ·simp only;obtain⟨p,s⟩:=xE (if σ.M.SX c = -1 then 0 else σ.M.SX c);rw[<-s];have z:0<=p/\p<σ.M.objs.length:=by
   have D:=h.lo;rw[s]
   split
   ·omega
   ·rename_i m
    obtain⟨bB,t,_⟩:=h.pz;unfold Mo.SX at m ⊢
    rcases QC σ.M c with ⟨n,_⟩|⟨l,x,rfl,u,n⟩
    ·rw[n] at m;exact absurd rfl m
    ·rw[n] at m ⊢;change x.gf≠-1 at m
     show 0<=x.gf/\x.gf<_
     rcases t.go.ok.obj l x u with r|⟨C,r,A⟩
     ·exact absurd r m
     ·omega
  have n:=h.put q p i false;refine⟨n.iv,n.ex,?_⟩;rw[zR z]
  show (σ.Ru p i v false).steps<=20000
  exact au
theorem Cm:Iv (a+2) (iH c i v k σ).2/\Ex σ (iH c i v k σ).2/\Eo (iH c i v k σ).2 (iH c i v k σ).1:=by
 have n:=h.write q c i;unfold iH;simp only;have bO:=n.iv.up (show a+1<=a+2 by omega)
 split
 ·obtain⟨p,s,r⟩:=Lb n.iv au (q.up n.ex.ob) c i k;exact⟨p.up Pv,n.ex.trans s,r⟩
 ·split
  ·exact⟨bO,n.ex,au,lZ w4⟩
  ·split
   ·exact⟨bO,n.ex,au,lZ ov⟩
   ·split
    ·refine⟨bO,n.ex,?_⟩
     dsimp only
     split
     ·exact⟨au,lZ ov⟩
     ·exact au
    ·exact⟨bO,n.ex,au⟩
end
theorem C9 (i:Nat)(c:Int):Gv i (VR c).1/\((VR c).2=.no\/(VR c).2=ga Vp):=by
 unfold VR
 split
 ·exact⟨WJ _,.inr rfl⟩
 ·exact⟨xT ⟨by omega,by omega⟩,.inl rfl⟩
theorem Ox (n:Nat)(c:Mo)(p:Int)(k l:Va):Gv n (XB c p k l).1/\((XB c p k l).2=.no\/∃m,(XB c p k l).2=ga m/\Sm m):=by
 have q:∀i,Gv n (VR i).1/\((VR i).2=.no\/∃m,(VR i).2=ga m/\Sm m):=λi=>⟨(C9 n i).1,(C9 n i).2.imp id λf=>⟨_,f,wj⟩⟩;unfold XB
 split
 ·exact⟨nO _ _,.inl rfl⟩
 ·split
  ·split
   ·exact⟨nO _ _,.inl rfl⟩
   ·split
    ·exact q _
    ·split <;> exact q _
  ·split
   ·split
    ·exact⟨WJ _,.inr ⟨_,rfl,wj⟩⟩
    ·rename_i r
     refine⟨lZ ?_,.inl rfl⟩;have:(Y0 (c.hE k) (c.hE l)).size=(c.hE k).size+(c.hE l).size:=by
      show (List.toArray _).size=_
      rw[ll,gg];rfl
     unfold Sm;omega
   ·split
    ·exact⟨nO _ _,.inl rfl⟩
    ·exact⟨WJ _,.inr ⟨_,rfl,ov⟩⟩
theorem avJ (c:Mo)(v:Va):Sm (WE c v):=by
 unfold WE
 repeat' split
 all_goals decide
structure LO (N:Int)(σ:St)(r:(List Va×Er)×St)(n:Nat):Prop where
 iv:Iv N r.2
 ex:Ex σ r.2
 er:Eo r.2 r.1.2
 va:∀v ∈ r.1.1,Gv r.2.M.objs.length v
 ln:r.1.1.length<=n
theorem qt (r:FI g j):∀(p:List Nd)(k:List Va){σ:St},Q j a b σ->(∀d ∈ p,Nk 0 d.2)->(∀v ∈ k,Gv σ.M.objs.length v)->LO a σ (Vq g b p k σ) (k.length+p.length)
 |[],k,σ,h,_,q=>⟨h.iv,Ex.refl _,h.st,q,Qq⟩
 |d::p,k,σ,h,s,q=>by
  have i:=(r.v h (s d gt)).1;rw[Vq]
  rcases T:g.v d b σ with ⟨⟨v,f⟩,e⟩
  rw[T] at i
  cases f with
  |no=>
   have n:=qt r p (k++[v]) (h.next i) (λx c=>s x (gO _ c)) (λx c=>by
    rcases gB.1 c with c|c
    ·exact(q x c).up i.ex.ob
    ·rw[gn.1 c];exact i.va)
   exact⟨n.iv,i.ex.trans n.ex,n.er,n.va,by have:=n.ln;simp at this ⊢;omega⟩
  |_=>exact⟨i.iv,i.ex,i.er,(λx c=>by cases c),ge _⟩
theorem pI (n:FI g j):∀(i:List Nd){o:Option Va}{σ:St},Q j a b σ->(∀d ∈ i,Nk 1 d.2)->(∀d ∈ i,QE d.2=true->K4 σ.M b.scope d.2.tx)->Lg σ o->SO a σ (Ti g b i o σ)
 |[],o,σ,h,_,_,l=>⟨h.iv,Ex.refl _,h.st,WJ _,l⟩
 |d::i,o,σ,h,p,m,l=>by
  have c:=(n.s h (p d gt) (m d gt) l).1;rw[Ti]
  rcases q:g.s d b o σ with ⟨⟨aM,f,B⟩,e⟩
  rw[q] at c
  cases f with
  |no=>
   dsimp only
   split
   ·exact c
   ·exact(pI n i (h.jd c) (λx k=>p x (gO _ k)) (λx k r=>c.ex.k4 _ _ (m x (gO _ k) r)) c.la).after c.ex
  |_=>exact c
theorem Gk {k:St->(Va×Er)×St}(h:Q j a b σ)(q:σ.fW≠40->VO N' { σ with fW:=σ.fW+1 } (k { σ with fW:=σ.fW+1 }))(p:a<=N'):VO N' σ (within σ k):=by
 unfold Hp.within
 split
 ·exact .ga ((Nx.refl h.iv).up p) h.st wj
 ·rename_i n
  have c:=q n;have l:=c.ex.ca
  dsimp only at l
  refine⟨?_,⟨c.ex.ro,c.ex.ob,by show (k _).2.fW - 1=σ.fW;rw[l];rfl,c.ex.st,c.ex.k4,c.ex.lg⟩,?_,c.va⟩
  ·obtain⟨bB,i,m⟩:=c.iv.pz;exact⟨⟨bB,⟨i.go,i.ow,i.fn,i.lg,i.se,i.oe⟩,m⟩,c.iv.gm,c.iv.fn,by have:=c.iv.ca;show (k _).2.fW - 1<=40;omega,c.iv.lr,c.iv.lo⟩
  ·have i:=c.er
   dsimp only
   revert i
   cases (k { σ with fW:=σ.fW+1 }).1.2 with
   |_=>exact id
theorem Q.call (h:Q j a b σ)(l:σ.fW≠40):Q j a b { σ with fW:=σ.fW+1 }:=by
 obtain⟨k,c,i⟩:=h.iv.pz;exact⟨h.fu,h.st,⟨⟨k,⟨c.go,c.ow,c.fn,c.lg,c.se,c.oe⟩,i⟩,h.iv.gm,h.iv.fn,by have:=h.iv.ca;show σ.fW+1<=40;omega,h.iv.lr,h.iv.lo⟩,h.po⟩
theorem R4 (D:FI g j)(h:Q j a b σ){c:Fu}(F:Fg c.d.2){k:List Va}(M:k.length<=1500)(E:∀v ∈ k,Gv σ.M.objs.length v):VO (a+9000) σ (XC g c k σ):=by
 unfold XC;refine Gk h (λC=>?_) Pv;have H:=h.call C
 dsimp only
 have r:=H.iv.gv c.scope (-1) (own c.d);have u:∀v ∈ k,Gv (St.gv { σ with fW:=σ.fW+1 } c.scope (-1) (own c.d)).M.objs.length v:=E;have s:=qf { σ with fW:=σ.fW+1 } c.scope (own c.d);have q:Po ⟨St.gu { σ with fW:=σ.fW+1 },St.gu { σ with fW:=σ.fW+1 },c.f3⟩ (St.gv { σ with fW:=σ.fW+1 } c.scope (-1) (own c.d)):=
  ⟨by show (0:Int)<=(σ.M.PL.length:Int);omega,by show (σ.M.PL.length:Int)<_;simp[St.gv,Mo.scope];omega⟩
 generalize St.gv { σ with fW:=σ.fW+1 } c.scope (-1) (own c.d)=e at r u s q ⊢
 generalize N:St.gu { σ with fW:=σ.fW+1 }=i at s q ⊢
 obtain⟨t,L,z⟩:=r.iv.body (d:=c.d) (p:=⟨i,i,c.f3⟩) F q s M u;have p:=r.trans t;have A:Q j (a+9000) ⟨i,i,c.f3⟩ (S9 c.d ⟨i,i,c.f3⟩ k e):=⟨by rw[p.st];exact h.fu,by rw[p.st];exact h.st,p.iv.up Pv,q.up t.ex⟩
 have n:=pI D (QA (Px c.d 1)) (o:=none) A (λd l=>L.ks _ (QW l)) z (λ_ f=>by cases f);exact⟨n.iv,p.ex.trans n.ex,n.er,n.va⟩
theorem D6 (C:FI g j)(h:Q j a b σ){c:Tr}(z:Bk c):VO (a+9000) σ (X6 g (none,c) b σ):=by
 unfold X6;simp only
 split
 ·exact .ga ((Nx.refl h.iv).up Pv) h.st ua
 ·obtain⟨n,k⟩:=xE (if (b.f3||PU c)=true then (⟨σ.gu,σ.gu,true⟩,σ.gv b.scope (-1) (-3)) else ({ b with f3:=b.f3||PU c },σ):Pl×St);rw[<-k];have q:Nx (a+1) σ n.2/\Po n.1 n.2:=by
   rw[k]
   split
   ·exact⟨h.iv.gv _ _ _,by show (0:Int)<=(σ.M.PL.length:Int);omega,by show (σ.M.PL.length:Int)<_;simp[St.gv,Mo.scope];omega⟩
   ·exact⟨(Nx.refl h.iv).up Pv,h.po⟩
  clear k;obtain⟨q,D⟩:=q;obtain⟨t,u,s⟩:=q.iv.A9 (b:=(none,c)) z D
  generalize P5 (none,c) n.1 n.2=p at t u s ⊢
  have r:=q.trans t;have k:Q j (a+9000) p.1 p.2:=⟨by rw[r.st];exact h.fu,by rw[r.st];exact h.st,r.iv.up Pv,u⟩
  have i:=pI C (QA (none,c)) (o:=some vU) k (λd E=>z.ks _ (QW E)) s (λ_ f=>by cases f;exact WJ _)
  rcases T:Ti g p.1 (QA (none,c)) (some vU) p.2 with ⟨⟨aM,f,B⟩,e⟩
  rw[T] at i;have A:=r.ex.trans i.ex
  cases f with
  |no=>
   refine⟨i.iv,A,i.er,?_⟩
   show Gv _ (B.getD vU)
   cases B with
   |none=>exact WJ _
   |some v=>exact i.la v rfl
  |_=>exact⟨i.iv,A,i.er,WJ _⟩
theorem Yx:∀c ∈ Rq,1<=c.size:=by decide
theorem Y5 {k:PS}{c:Tr}{l:Bool}(h:Tj RS Rq k=.ok c)(i:hD c l false false=none):Nk 9 c:=⟨OA Yx h,(Xf h).2,zQ c _ _ _ i⟩
theorem avK (u:FI g j)(h:Q j a b σ)(m:Tr){n:List Va}(z:∀v ∈ n,Gv σ.M.objs.length v):VO (a+9000) σ (Yp g m b n σ):=by
 unfold Yp
 cases n with
 |nil=>exact .ret ((Nx.refl h.iv).up Pv) h.st (WJ _)
 |cons I more=>
  dsimp only
  split
  ·exact .ret ((Nx.refl h.iv).up Pv) h.st (z I gt)
  ·obtain⟨p,k⟩:=xE (if m.kd≠23\/m.tx≠TQ then ⟨1,0,false⟩ else b:Pl);rw[<-k];have t:Po p σ:=by
    rw[k]
    split
    ·exact⟨by show (0:Int)<=1;omega,by show (1:Int)<_;have:=h.iv.lr;omega⟩
    ·exact h.po
   clear k;refine Gk h (λs=>?_) Pv;have c:Q j a p { σ with fW:=σ.fW+1 }:=⟨h.fu,h.st,(h.call s).iv,t⟩;have i:∀{q:PS},Sm q->VO (a+9000) { σ with fW:=σ.fW+1 } ((vU,Hp.ga q),{ σ with fW:=σ.fW+1 }):=λau=>.ga ((Nx.refl c.iv).up Pv) c.st au
   generalize ({ σ with fW:=σ.fW+1 }:St)=τ at c i ⊢
   cases T:Tj RS Rq I.s with
   |ok A=>
    simp only
    cases r:hD A p.f3 false false with
    |none=>exact D6 u c ((Y5 T r).bk Pv)
    |some f=>exact i ua
   |_=>exact i ua
theorem Nk.D0 {k:Tr}(h:Nk 0 k)(c:k.kd=35):(∀m ∈ k.fS,Nk 0 m)/\k.fS.length<=9:=by
 have l:=h.sh
 cases l with
 |call p l q=>exact⟨λm i=>h.iK i (by rcases gE.1 i with rfl|i;exact p;exact l m i),by show (_::_).length<=9;simp;omega⟩
 |lit n=>simp only[Tr.kd] at c;omega
 |one n=>simp only[Tr.kd] at c;omega
 |two n=>simp only[Tr.kd] at c;omega
 |_=>cases c
section
variable (k:FI g j)(h:Q j a b σ)(p:Nk 0 d.2)
include k h p
theorem LJ (u:d.2.kd=35):VO (a+9000) σ (Zk g d b σ):=by
 obtain⟨C,H⟩:=p.D0 u;have c:=qt k (QA d) [] h (λx i=>C _ (QW i)) (λ_ h=>by cases h);unfold Zk
 rcases T:Vq g b (QA d) [] σ with ⟨⟨s,f⟩,e⟩
 rw[T] at c;have F:s.length<=9:=by have:=c.ln;have:=Tz d;simp at *;omega
 cases s with
 |nil=>exact⟨c.iv.up Pv,c.ex,c.er,WJ _⟩
 |cons z q=>
  cases f with
  |no=>
   have i:Q j a b e:=⟨by have:=h.fu;have:=c.ex.st;dsimp only at this;omega,c.er,c.iv,h.po.up c.ex⟩
   have L:=c.va z gt;have r:∀v ∈ q,Gv e.M.objs.length v:=λv A=>c.va v (gO _ A);have t:q.length<=1500:=by simp at F;omega
   have n:=(Nx.refl i.iv).up (show a<=a+9000 by omega);simp only;refine VO.after c.ex ?_
   split
   ·exact .ga n i.st ov
   ·split
    ·exact .ga n i.st ov
    ·split
     ·exact .ret ((i.iv.hF _).up Pv) i.st (WJ _)
     ·split
      ·exact avK k i _ r
      ·split
       ·rename_i D E
        exact R4 k i (i.iv.fn D (gC E)).1 t r
       ·exact .ret n i.st (WJ _)
  |_=>exact⟨c.iv.up Pv,c.ex,c.er,WJ _⟩
theorem p3:Iv a (UW g d b σ).2/\Ex σ (UW g d b σ).2/\Eo (UW g d b σ).2 (UW g d b σ).1.2/\((UW g d b σ).1.2=.no->0<=(UW g d b σ).1.1/\(UW g d b σ).1.1<(UW g d b σ).2.M.objs.length):=by
 have c:=(k.v h p).1;unfold UW
 rcases i:g.v d b σ with ⟨⟨v,f⟩,e⟩
 rw[i] at c
 cases f with
 |no=>
  simp only
  split
  ·exact⟨c.iv,c.ex,⟨c.er,lZ ov⟩,λf=>by cases f⟩
  ·rename_i l
   exact⟨c.iv,c.ex,c.er,λ_=>c.va.r (by simpa using l)⟩
 |_=>exact⟨c.iv,c.ex,c.er,λf=>by cases f⟩
end
theorem HB (r:FI g j)(aM:Int):∀(k:List Nd){a:Int}{σ:St},Q j a b σ->(0<=aM/\aM<σ.M.objs.length)->(∀i ∈ k,Nk 0 (Px i 0).2)->VO (a+k.length) σ (k3 g b aM k σ)
 |[],a,σ,h,n,_=>.ret ((Nx.refl h.iv).up Qh) h.st (sZ n)
 |i::k,a,σ,h,n,q=>by
  have c:=(r.v h (q i gt)).1;rw[k3]
  rcases T:g.v (Px i 0) b σ with ⟨⟨v,f⟩,e⟩
  rw[T] at c
  cases f with
  |no=>
   have p:=c.iv.put c.va aM i.2.tx false;have u:=(c.ex.trans p.ex).ob;have t:=HB r aM k ((h.next c).nx p) ⟨n.1,m3 n.2 (Int.ofNat_le.2 u)⟩ (λx s=>q x (gO _ s));refine(VO.after (c.ex.trans p.ex) t).up ?_;rw[g4];push_cast;omega
  |_=>exact⟨c.iv.up Pv,c.ex,c.er,WJ _⟩
