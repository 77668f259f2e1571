import Derived.Test.YticfnaiehdpbmaaGreatDoorWa3
import Derived.MapKept
import Derived.Deep.MidRow
import Derived.Laws.AppendOwnNone
import Derived.Recover
import Derived.Defers
set_option maxRecDepth 100000
set_option maxHeartbeats 0
set_option linter.all false
namespace Go.Proofs.YticfnaiehdpbmaaGreatDoor
open Go.RowKit Go.Proofs.Tryz
def ak4 (a:List (PS×PO))(b:PS)(c:PO):(mapOf a).push { key:=PI b,val:=c,born:=a.length }=mapOf (a++[(b,c)]):=by
 unfold mapOf;rw[lW,hc];simp[rM,List.zipIdx]
def Q8 (W:Py)(a:Nat)(b:Obj):Py:={ W with heap:=W.heap.setIfInBounds a b }
def WR (W:Py)(a:Nat)(b:Obj):(Q8 W a b).heap.size=W.heap.size:=by simp[Q8]
def Xj {W:Py}{a:Nat}{b:Obj}(h:a<W.heap.size):(Q8 W a b).heap[a]?=some b:=by simp[Q8,h]
def RD {W:Py}{b a:Nat}{c:Obj}(h:a≠b):(Q8 W b c).heap[a]?=W.heap[a]?:=by simp[Q8,hV h]
def YO {a:Nat}{c W:Py}{b:Nat}{f:Obj}(h:Below a c W)(g:a<=b):Below a c (Q8 W b f):=
 ⟨h.os,h.tape,h.output,by rw[WR];exact h.size,λe d=>by rw[RD Pv];exact h.block e d⟩
def ww (i u:TypeId)(c:Nat)(a:List (PS×PO))(b:PS)(l:PO)(W:Py)(p:prog.underlying i=some (.map 9 u))(j:W.heap[c]?=some (.map (mapOf a) a.length))(o:a.find? (λd=>decide (b=d.1))=none) :
  (Instr.mapUpdate i (.map (some c)) (PI b) l).run prog W=.ok () (Q8 W c (.map (mapOf (a++[(b,l)])) (a.length+1))):=by
 have⟨k,r,d⟩:=wl b a 0 0;have g:=kz;have m:k=none:=by
  rw[o] at d
  cases k with
  |none=>rfl
  |some y=>simp at d
 subst m;have n:(Instr.findKey 9 (PI b) (mapOf a).toList).run prog W=.ok none W:=by
  refine s6 ?_;simp only[h5,mapOf];rw[r];rfl
 have q:∀e,(Instr.checkKey e 10000 9 (PI b)).run prog W=.ok () W:=tP
 have s:(getObj c).run prog W=.ok (.map (mapOf a) a.length) W:=by simp[getObj,Sem.run,j]
 unfold Instr.mapUpdate;rw[gW,hx p W];simp only[h5,gW,s,q,n];rw[ak4];simp[setObj,Sem.run,j,Q8]
def mkMap (a:TypeId)(W:Py):(Instr.makeMap a none).run prog W=.ok (.map (some W.heap.size)) (W.alloc (.map #[] 0)):=rfl
def XZ:Array PO:=(jJ.flatMap λa=>[PI a.tx,Ph a.kd,Ph a.parts,Ph a.str]).toArray
def LM:XZ.size=56:=by decide +kernel
def aHR (a:Nat)(b:a<14)(W:Py):(Instr.index 276 (.agg XZ) (Ph (a:Int))).run prog W=.ok (nu (jJ.getD a ⟨PE,0,0,0⟩)) W:=by
 have h:a=0\/a=1\/a=2\/a=3\/a=4\/a=5\/a=6\/a=7\/a=8\/a=9\/a=10\/a=11\/a=12\/a=13:=Pv
 rcases h with rfl|rfl|rfl|rfl|rfl|rfl|rfl|rfl|rfl|rfl|rfl|rfl|rfl|rfl <;> (show _=_;kernel_rfl)
def nn (b:Nat):List (PS×PO):=(jJ.take b).map λa=>(a.tx,nu a)
def G7 {a:Nat}(b:a<=14):(nn a).length=a:=by
 unfold nn;rw[gF,hQ];have:jJ.length=14:=rfl;omega
def arX {a:Nat}(b:a<14):nn (a+1)=nn a++[((jJ.getD a ⟨PE,0,0,0⟩).tx,nu (jJ.getD a ⟨PE,0,0,0⟩))]:=by
 have h:a=0\/a=1\/a=2\/a=3\/a=4\/a=5\/a=6\/a=7\/a=8\/a=9\/a=10\/a=11\/a=12\/a=13:=Pv
 rcases h with rfl|rfl|rfl|rfl|rfl|rfl|rfl|rfl|rfl|rfl|rfl|rfl|rfl|rfl <;> rfl
def avC {a:Nat}(c:a<14):(nn a).find? (λb=>decide ((jJ.getD a ⟨PE,0,0,0⟩).tx=b.1))=none:=by
 have d:∀a,a<14->((jJ.take a).map (·.tx)).find? (λb=>decide ((jJ.getD a ⟨PE,0,0,0⟩).tx=b))=none:=by decide +kernel
 have:=d a c;unfold nn;rw[ld] at this ⊢;simpa[lz] using this
def acE (b:Py)(n:TypeId)(i:Nat×Nat)(k:b.heap[3]?=some (.cells XZ n i)) :
  PN 146 #[] b λv o=>v=PY (.map (some b.heap.size))/\o.heap[b.heap.size]?=some (.map sH 14)/\PG b o:=by
 have t:Hid ((b.alloc (.map #[] 0)).heap[3]?=some (.cells XZ n i)):=(gy b _ 3 (fR k)).trans k;have⟨f,d⟩:=xE XZ;have u:∀m:Nat,m<14->∀W,(Instr.index 276 (.agg f) (Ph (m:Int))).run prog W=.ok (nu (jJ.getD m ⟨PE,0,0,0⟩)) W:=by rw[d];exact aHR
 have q:f.size=56:=by rw[d];exact LM
 rw[<-d] at t;have w:=Y u;have z:=Y q;have C:=mkMap 229;clear k u d q;go_enter func146,ntmps146
 go_wp2_with (refine k9 rfl 276 _ rfl 3 rfl n f i _ t.out underlying276 rfl (by rw[z.out];kernel_rfl) ?_)
 go_loopw [6] (λl wr=>∃a:Nat,a<=14/\l=Ph a/\wr.heap[b.heap.size]?=some (.map (mapOf (nn a)) a)/\PG b wr) (λl _=>14 - (intOf l).toNat)
 case atStart=>exact⟨0,ge _,rfl,Pz _ _,QK⟩
 case round=>
  obtain⟨a,B,rfl,p,c⟩:=hrel;have j:=Y p;clear p
  by_cases e:a<14
  ·have s:=Pj w a e;have⟨x,g⟩:=xH (jJ.getD a ⟨PE,0,0,0⟩);have r:(wr.alloc (.cells #[PI x.tx,Ph x.kd,Ph x.parts,Ph x.str] 275)).heap[b.heap.size]?=some (.map (mapOf (nn a)) (nn a).length):=by
    rw[G7 Pv];exact(gy _ _ _ (fR j.out)).trans j.out
   have A:=ww 229 275 b.heap.size (nn a) x.tx (nu x) _ underlying229 r (by rw[g.out];exact avC e)
   rw[<-g.out] at s;simp only[nu] at s A;clear r;go_wp2
   go_roundw
   case rel=>
    refine⟨a+1,by omega,by go_num,?_,YO (c.alloc c.size _) Qq⟩;rw[Xj (by simp;have:=c.size;omega),arX e,<-g.out,G7 Pv]
    rfl
   case measure=>simp[intOf];omega
  ·have g:a=14:=Pv;subst g;go_wp2;go_ret;exact⟨rfl,j.out,c⟩
def agO (W:Py)(a:Nat)(c b:Obj):Q8 (Q8 W a c) a b=Q8 W a b:=by simp[Q8]
def T0 (d f:TypeId)(b:Nat)(W:Py)(a:List (PS×PO))(c:PS)(e:PO)(j:prog.underlying d=some (.map 9 f))(g:b<W.heap.size)(i:a.find? (λk=>decide (c=k.1))=none) :
  (Instr.mapUpdate d (.map (some b)) (PI c) e).run prog (Q8 W b (.map (mapOf a) a.length))=.ok () (Q8 W b (.map (mapOf (a++[(c,e)])) (a.length+1))):=by
 rw[ww d f b a c e _ j (Xj g) i,agO]
def L8 (b e:TypeId)(a:Nat)(W:Py)(c:PS)(d:PO)(g:prog.underlying b=some (.map 9 e))(f:W.heap[a]?=some (.map #[] 0)) :
  (Instr.mapUpdate b (.map (some a)) (PI c) d).run prog W=.ok () (Q8 W a (.map (mapOf [(c,d)]) 1)):=
 ww b e a [] c d W g f rfl
def mh {p W:Py}{i:Nat}{b:List (PS×PO)}(aW:p=Q8 W i (.map (mapOf b) b.length))(aU:i<W.heap.size)(j:PS)(C D:Nat)(aX:b.find? (λr=>decide (j=r.1))=none:=by rfl) :
  ∃q,q=Q8 W i (.map (mapOf (b++[(j,.func (.func D) #[PZ C 0] #[])])) (b++[(j,Value.func (.func D) #[PZ C 0] #[])]).length)/\(Instr.mapUpdate 231 (.map (some i)) (PI j) (.func (.func D) #[PZ C 0] #[])).run prog p=.ok () q:=⟨_,rfl,by rw[aW,T0 231 281 i W b j _ k8 aU aX,gg];rfl⟩
def BI {W:Py}{a:Nat}(f:W.heap[a]?=some (.map #[] 0))(b:PS)(c d:Nat) :
  ∃e,e=Q8 W a (.map (mapOf [(b,.func (.func d) #[PZ c 0] #[])]) [(b,Value.func (.func d) #[PZ c 0] #[])].length)/\(Instr.mapUpdate 231 (.map (some a)) (PI b) (.func (.func d) #[PZ c 0] #[])).run prog W=.ok () e:=⟨_,rfl,L8 231 281 a W b _ k8 f⟩
def Mr (a:Py)(b:Obj):((a.alloc b).alloc (.map #[] 0)).heap[a.heap.size+1]?=some (.map #[] 0):=by
 have:=Pz (a.alloc b) (.map #[] 0);simpa using this
def L2 (W:Py)(a:Nat)(h:W.heap.size=a):(W.alloc (.map #[] 0)).heap[a]?=some (.map #[] 0):=by rw[<-h];exact Pz _ _
def Su {b j f n Z c:Py}{d:List Tk}{g i R e:Nat}{q:Array PO}(O:Ends d)(S:0<d.length)(U:d.length<=3001)(t:b.heap[g]?=some (Qb q 144))(T:d.length<=i/\i<=maxLen/\q.size=i * 4/\q.toList.take (d.length * 4)=SN d)
  (r:∃s a,b.heap[4]?=some (.cells W9 s a)) (v:j.heap[e]?=some (.map sH 14)) (ak:e=b.heap.size) (k:PG b j) (u:R=j.heap.size)
  (o:f=Q8 ((j.alloc (.cells #[.slice (some (Pn g 0)) d.length i,Ph 0,Ph 0,.map (some e),.map none,.map none] 233)).alloc (.map #[] 0)) (R+1) (.map (rt R) 12))
  (p:n=f.setCell (Pn R 4) (.map (some (R+1)))) (m:Z=Q8 (n.alloc (.map #[] 0)) (R+2) (.map (rG R) 3)) (l:c=Z.setCell (Pn R 5) (.map (some (R+2)))) :
  QS ⟨R,d,g,i,e,R+1,R+2,R+3⟩ c 0 0/\PG b c:=by
 have P:=k.size;have M:=fR t;obtain⟨ae,D,r⟩:=r;have L:=fR r;have ap:=fR v;have E:f.heap.size=R+2:=by rw[o,WR,u];simp
 have F:n.heap.size=R+2:=by rw[p,ki,E]
 have H:Z.heap.size=R+3:=by rw[m,WR];simp[F]
 have al:c.heap.size=R+3:=by rw[l,ki,H]
 have X:∀a,a<R->f.heap[a]?=j.heap[a]?:=λa k=>by
  rw[o,RD Pv,gy _ _ a SC,gy _ _ a Pv]
 have af:f.heap[R]?=some (Qb #[.slice (some (Pn g 0)) d.length i,Ph 0,Ph 0,.map (some e),.map none,.map none] 233):=by
  rw[o,RD Pv,gy _ _ R SC,u];exact Pz _ _
 have ad:f.heap[R+1]?=some (.map (rt R) 12):=by rw[o,Xj SC]
 have z:∀a,a<R->c.heap[a]?=j.heap[a]?:=λa k=>by
  rw[l,gZ Z (Pn R 5) _ a SC,m,RD Pv,gy _ _ a Pv,p,gZ f (Pn R 4) _ a SC];exact X a k
 have ah:Z.heap[R]?=some (Qb #[.slice (some (Pn g 0)) d.length i,Ph 0,Ph 0,.map (some e),.map (some (R+1)),.map none] 233):=by
  rw[m,RD Pv,gy _ _ R Pv,p,gb af];rfl
 have I:c.heap[R]?=some (Qb #[.slice (some (Pn g 0)) d.length i,Ph 0,Ph 0,.map (some e),.map (some (R+1)),.map (some (R+2))] 233):=by
  rw[l,gb ah];rfl
 have A:c.heap[R+1]?=some (.map (rt R) 12):=by
  rw[l,gZ Z (Pn R 5) _ (R+1) Qh,m,RD Pv,gy _ _ (R+1) Pv,p,gZ f (Pn R 4) _ (R+1) Qh];exact ad
 have N:c.heap[R+2]?=some (.map (rG R) 3):=by
  rw[l,gZ Z (Pn R 5) _ (R+2) Qh,m,Xj SC]
 have w:∀a,a<b.heap.size->c.heap[a]?=b.heap[a]?:=λa h=>(z a Pv).trans (k.block a h);refine⟨⟨⟨O,⟨q,(w g M).trans t,T⟩,?_,(z e Pv).trans v,?_,A,?_,N,?_,U,⟨ae,D,(w 4 L).trans r⟩,?_,?_,?_⟩,I,S,by decide⟩,?_⟩
 ·show g≠R;omega
 ·show e≠R;omega
 ·show R+1≠R;omega
 ·show R+2≠R;omega
 ·show 4≠R;omega
 ·show g<R+3/\e<R+3/\R+1<R+3/\R+2<R+3/\4<R+3/\R<R+3;omega
 ·show R+3<=c.heap.size;omega
 ·have B:PG b f:=by rw[o];exact YO ((k.alloc P _).alloc SC _) Pv
  have s:PG b n:=by rw[p];exact B.setCell (p:=(Pn R 4)) (by show b.heap.size<=R;omega) _
  have C:PG b Z:=by rw[m];exact YO (s.alloc s.size _) Pv
  rw[l];exact C.setCell (p:=(Pn R 5)) (by show b.heap.size<=R;omega) _
def QP (c:Py)(b:List Tk)(f e:Nat)(t:Array PO)(aK:Ends b)(ap:0<b.length)(ay:b.length<=3001)(ak:c.heap[f]?=some (Qb t 144))(au:b.length<=e/\e<=maxLen/\t.size=e * 4/\t.toList.take (b.length * 4)=SN b)
  (ax:∃z v,c.heap[4]?=some (.cells W9 z v)) (l:∃z v,c.heap[3]?=some (.cells XZ z v)) :
  PN 70 #[.slice (some (Pn f 0)) b.length e] c λr E=>∃k:gI,r=PY (Qr k)/\k.l=b/\c.heap.size<=k.R/\QS k E 0 0/\PG c E:=by
 obtain⟨aT,aE,l⟩:=l;have aL:=acE c aT aE l;have F:=λ(a p q Z aJ:Py) (R:Nat)=>Su (b:=c) (j:=a) (f:=p) (n:=q) (Z:=Z) (c:=aJ) (R:=R) (e:=c.heap.size) aK ap ay ak au ax;have aI:=Y F;have br:=mkMap 231;clear l F ap ay ak au ax;go_enter func70,ntmps70;go_wp2_with fail;refine cm aL ?_;rintro r a ⟨rfl,aD,al⟩;have aQ:=Y aD;clear aD;have w:=Mr a (.cells #[.slice (some (Pn f 0)) b.length e,Ph 0,Ph 0,.map (some c.heap.size),.map none,.map none] 233);have d:=fR w
 have⟨a6,O,u1⟩:=BI w w9 a.heap.size 147;have⟨ba,T,u2⟩:=mh O d xn a.heap.size 147;have⟨bb,U,u3⟩:=mh T d ym a.heap.size 147;have⟨be,X,u4⟩:=mh U d QY a.heap.size 148;have⟨bf,ad,u5⟩:=mh X d Uh a.heap.size 149;have⟨bh,ae,u6⟩:=mh ad d SH a.heap.size 150;have⟨bi,H,u7⟩:=mh ae d yv a.heap.size 151;have⟨bj,I,u8⟩:=mh H d yc a.heap.size 152;have⟨bm,L,u9⟩:=mh I d xL a.heap.size 152
 have⟨a7,P,u10⟩:=mh L d qI a.heap.size 153;have⟨a8,S,u11⟩:=mh P d ze a.heap.size 153;have⟨g,n,u12⟩:=mh S d mM a.heap.size 154;have m:g.heap[a.heap.size]?=some (.cells #[.slice (some (Pn f 0)) b.length e,Ph 0,Ph 0,.map (some c.heap.size),.map none,.map none] 233):=by rw[n,RD Pv,gy _ _ _ Qh];exact Pz _ _
 have ah:g.heap.size=a.heap.size+2:=by rw[n,WR];simp
 have af:(g.setCell (Pn a.heap.size 4) (.map (some (a.heap.size+1)))).heap[a.heap.size]?=some (.cells #[.slice (some (Pn f 0)) b.length e,Ph 0,Ph 0,.map (some c.heap.size),.map (some (a.heap.size+1)),.map none] 233):=by rw[gb m];rfl
 have u:=L2 (g.setCell (Pn a.heap.size 4) (.map (some (a.heap.size+1)))) (a.heap.size+2) (by rw[ki,ah]);have A:=fR u;have⟨bn,M,bv⟩:=BI u TT a.heap.size 155;have⟨aY,N,bx⟩:=mh M A Uh a.heap.size 156;have⟨o,s,bz⟩:=mh N A QY a.heap.size 157
 have B:o.heap[a.heap.size]?=some (.cells #[.slice (some (Pn f 0)) b.length e,Ph 0,Ph 0,.map (some c.heap.size),.map (some (a.heap.size+1)),.map none] 233):=by rw[s,RD Pv,gy _ _ _ (by rw[ki,ah];omega)];exact af
 have bo:g.cell? (Pn a.heap.size 4)=some (.map none):=by rw[cell_of m];rfl
 have aZ:=Rn m 4;have bq:o.cell? (Pn a.heap.size 5)=some (.map none):=by rw[cell_of B];rfl
 have a1:=Rn B 5;have aH:=Y (aI.out a g _ o (o.setCell (Pn a.heap.size 5) (.map (some (a.heap.size+2)))) a.heap.size aQ.out (by first|rfl|trivial) al rfl (by rw[n];rfl) rfl (by rw[s];rfl) rfl)
 have aR:Hid (c.heap.size<=a.heap.size):=al.size;clear O T U X ad ae H I L P S n M N s m af B w u d A;go_wp2;go_ret;have⟨aM,aO⟩:=Pj aH;exact⟨_,rfl,rfl,aR.out,aM,aO⟩
def Nv {e:gI}{m:Ut}(U:FC e m)(X:∃k,ka e.l k m)(aM:o6 m)(l:Py)(s:PR Tr)(u:Wy e.l m=s)(S:s≠.out)(h:QS e l 0 0):PN 71 #[Qr e] l (Rt e l 0 (NV l.heap.size) s):=by
 have bo:=RY e.R 160;have a8:=h.base.ends;have aO:=Y h.base.len;have f{G}(h:G:=by
 have aQ:=Ap.refl e.R l.heap.size l;have A:=Y h.kP;have aT:=Y X;unfold Wy at u;have ap:=Y u;have F:=Y S;clear u S X;go_enter func71,ntmps71;go_wp2_with fail
 go_loopw [3] (λa wr=>∃k i g,(SQ e.l m k i g).bind (λC O=>PR.ok (VT (.mk 1 PE 0 C)) O)=s/\QS e wr g 0/\Ap e.R l.heap.size l wr/\KV l.heap.size wr i a/\i.length<=g/\∀p ∈ i,p.kd=15->∃a s,p.fS=a::s) (λ_ wr=>e.l.length - pc e wr)
 case atStart=>exact⟨m.fuel,[],0,ap.out,h,aQ,KV.nil _ _,ge _,λ_ q=>absurd q Qh⟩
 case round=>
  obtain⟨k,i,g,n,b,ad,P,w,al⟩:=hrel;have R:=Y al;clear al h
  cases k with
  |zero=>exact absurd n.symm F.out
  |succ k=>
   have bm:=Pj aO;have aU:=b.lt;have ax:=b;have aZ:=b;have aE:=Y w;have bn:=rB (Qn e.l g)
   by_cases t:(Qn e.l g).kd=6
   ·have a:Hid (PR.ok (VT (.mk 1 PE 0 i)) g=s):=by
     unfold SQ at n;rw[fY t,gj] at n;exact n
    have au:((Qn e.l g).kd != 6)=false:=by rw[t];rfl
    have c:=TD e wr g 0 b;unfold kC at c;obtain⟨aD,M,rfl⟩:=P.shape;clear n w t;have f{G}(h:G:=by
    have B:=KV.fQ P (Ap.of H) A.out;have c:=QO 1 PE (.slice aD i.length M) v ⟨_,_,_,rfl⟩;go_wp2_with fail;refine cm c ?_;rintro j aH ⟨rfl,rfl⟩;have⟨N,T,ae⟩:=ox z E B 1 PE _ rfl;have c:=Zj l.heap.size (.mk 1 PE 0 i) (Pm v.heap.size) _ N (λo r ah ak=>Pj R o (by have af:i=o::r:=ah;rw[af];simp) ak)
    go_wp2_with fail;refine cm c ?_;rintro j ay ⟨rfl,I,d⟩;have D:=T.ap d aR.out;have L:=ae.trans (Ap.of d);go_wp2;go_ret;exact UM a.out.symm I.nv D L):=Pq h;exact rk
   ·have a:Hid ((QJ e.l m.st 0 g).bind (λp I=>(SQ e.l m k (i++[p]) I).bind λC O=>PR.ok (VT (.mk 1 PE 0 C)) O)=s):=by
     unfold SQ at n;rw[fT t] at n;rw[<-n]
     cases QJ e.l m.st 0 g <;> rfl
    have au:((Qn e.l g).kd != 6)=true:=bne_iff_ne.2 t;have c:=TD e wr g 0 b;unfold kC at c;clear n w t
    cases T:QJ e.l m.st 0 g with
    |out=>
     exact vx
    |ga I M=>
     have r:=Y T;rw[T] at a;simp only[Qy] at a;clear T;have f{G}(h:G:=by
     have c:=oa U v 0 g z (by rw[r.out];nofun)
     exact Aa):=Pq h;exact rk
    |ok p N=>
     have r:=Y T;rw[T] at a;simp only[gj] at a;clear T;have f{G}(h:G:=by
     have B:=KV.fQ P (Ap.of H) A.out;have c:=oa U v 0 g z (by rw[r.out];nofun)
     have f{G}(h:G:=by
     have bq:g<N:=by
      have⟨af,ae⟩:=Pj aT;exact((SS (a:=e.l) (b:=0) (ae.st (0+1) g aU)).2 p N r.out).1
     have f{G}(h:G:=by
     go_roundw
     case rel=>exact⟨k,i++[p],N,a.out,D,L,aD,by simp;omega,λa7 q=>by
       rcases gB.1 q with q|q
       ·exact Pj R a7 q
       ·rw[gn] at q;subst q;exact aM _ _ _ _ (Ey r.out)⟩
     case measure=>rw[VL D,VL aZ];omega):=Pq h;exact BV):=Pq h;exact Bv):=Pq h;exact rk):=Pq h;exact p2
def k6 (g i:Addr)(a:Py) :
  CallsD prog 69 #[.pointer (some g),.pointer (some i)] .returning a λe f b=>e=PY (.tuple #[])/\f=.returning/\b=a:=by
 refine callsD_of_wpS func69 rfl λd₀ j c=>?_;apply iW;apply kK;simp[wpOpsS,go_sem,recoverD,c,ntmps69,Exit.thenS];apply iW;apply iW;apply kK;simp[wpOpsS,go_sem,Exit.thenS];refine wpS_cond (t:=true) (by simp[Act.eval,Array.replicate]) ?_;simp only[hq];refine wpS_of_wp ?_;refine wp_ret ?_;cases d₀
 simp_all [bodyPostS,results,results69,Exit.thenS]
def Rs (a b:Nat)(d:Int)(e:Nat)(c:Py)(j k:PO)(s:c.cell? (Pn a 0)=some j)(o:∀f,c.frozen? (Pn a f)=false)(r:c.cell? (Pn b 0)=some k)(p:∀f,c.frozen? (Pn b f)=false)(q:¬ b=a)(v:a<c.heap.size)(w:b<c.heap.size) :
  CallsD prog 69 #[PZ a 0,PZ b 0] (.panicking (p4 d e)) c λl m i=>
   l=PY (.tuple #[])/\m=.panicking [{ v:=.iface 148 (.agg #[Ph d,Ph (e:Int)]),recovered:=true }]/\i=((((c.setCell (Pn a 0) Rz).setCell (Pn b 0) (.iface 150 (PZ (c.heap.size+1) 0))).alloc (.cells #[Ph d,Ph (e:Int)] 148)).alloc (.cells #[Ph d,Ph (e:Int)] 152)).drew:=by
 refine callsD_of_wpS func69 rfl λt₀ u g=>?_;unfold p4 at g;have n:∀W:Py,(Instr.typeAssert (.iface 148 (.agg #[Ph d,Ph (e:Int)])) 20 148 true).run prog W=.ok (.tuple #[.agg #[Ph d,Ph (e:Int)],PD true]) W:=λW=>by kernel_rfl
 rw[ntmps69];rw[show (#[PZ a 0,PZ b 0]:Array PO)++Array.replicate (23 - (#[PZ a 0,PZ b 0]:Array PO).size) undef=#[PZ a 0,PZ b 0,undef,undef,undef,undef,undef,undef,undef,undef,undef,undef,undef,undef,undef,undef,undef,undef,undef,undef,undef,undef,undef] from by kernel_rfl];apply iW;apply kK;simp[wpOpsS,go_sem,recoverD,g,Exit.thenS];apply iW;apply iW;apply kK;simp[wpOpsS,go_sem,Exit.thenS];refine wpS_cond (t:=false) (by simp[Act.eval]) ?_;simp only[ic,ib]
 refine wpS_of_wp (wp_skip ?_);simp only[Exit.thenS];apply iW;apply kK;simp[wpOpsS,go_sem,Exit.thenS,n];apply iW;refine wpS_of_wp ?_;go_wp2_with fail;simp only[Exit.thenS];refine wpS_of_wp ?_
 go_region
 simp[bodyPostS,results,results69]
def rh (g:PR Tr)(b:Py)(d:Ending)(a:Py):Prop:=
 match g with
 |.ok e _=>∃c,d=PY (.tuple #[Pm c,.nilIface])/\QT (gz b.heap.size) a e c/\PG b a
 |.ga e f=>∃c,d=PY (.tuple #[.pointer none,.iface 150 (PZ c 0)])/\a.heap[c]?=some (Qb #[Ph e,Ph (f:Int)] 152)/\b.heap.size<=c/\PG b a
 |.out=>True
abbrev RW (a:Py):Py:=(a.alloc (.cells #[.pointer none] 22)).alloc (.cells #[.nilIface] 31)
def L0 (a:Py)(e:List Tk)(v q:Nat)(u:Tr)(s:Nat)
  (m:PN 70 #[.slice (some (Pn v 0)) e.length q] (RW a) λf b=>∃c:gI,f=PY (Qr c)/\c.l=e/\(RW a).heap.size<=c.R/\QS c b 0 0/\Below (RW a).heap.size (RW a) b)
  (HP:∀(c:gI) (W:Py),c.l=e->QS c W 0 0->PN 71 #[Qr c] W (Rt c W 0 (NV W.heap.size) (.ok u s))) :
  PN 34 #[.slice (some (Pn v 0)) e.length q] a (rh (.ok u s) a):=by
 have k{G}(h:G:=by
 obtain⟨⟨P,rfl,t,rfl,M⟩,w,n⟩:=C;have k{G}(h:G:=by
 clear j g HP B F D;go_wp2_with fail;refine leaves_cons (f:=69) (args:=#[PZ a.heap.size 0,PZ (a.heap.size+1) 0]) Qh (by simp[go_sem]) ?_;refine(k6 (Pn a.heap.size 0) (Pn (a.heap.size+1) 0) _).mono ?_;rintro f O N ⟨rfl,rfl,rfl⟩
 show Leaves _ _ _ _ [] .returning _
 refine⟨.tuple #[Pm t,RI],by simp[results,results34,go_sem,E,A],t,rfl,?_,?_⟩
 ·refine QT.mono (J:=gz a.heap.size) (λd l _=>?_) _ _ (QT.fQ (I:=λd=>i.heap.size<=d) (λd l _=>?_) _ _ M)
  ·have p:=Pj z;have L:i.heap.size<=d:=l
   show a.heap.size<=d
   omega
  ·have p:=Pj z;have L:i.heap.size<=d:=l;rw[gZ _ (Pn (a.heap.size+1) 0) _ d (by show d≠a.heap.size+1;omega),gZ _ (Pn a.heap.size 0) _ d (by show d≠a.heap.size;omega)]
 ·exact(r.setCell (p:=(Pn a.heap.size 0)) Qq _).setCell (p:=(Pn (a.heap.size+1) 0)) (gw _) _):=Pq h;exact Dp):=Pq h;exact JR
def NW (a:Py)(l:List Tk)(v u:Nat)(d:Int)(e:Nat)
  (m:PN 70 #[.slice (some (Pn v 0)) l.length u] (RW a) λf b=>∃c:gI,f=PY (Qr c)/\c.l=l/\(RW a).heap.size<=c.R/\QS c b 0 0/\Below (RW a).heap.size (RW a) b)
  (HP:∀(c:gI) (W:Py),c.l=l->QS c W 0 0->PN 71 #[Qr c] W (Rt c W 0 (NV W.heap.size) (.ga d e))) :
  PN 34 #[.slice (some (Pn v 0)) l.length u] a (rh (.ga d e) a):=by
 have k{G}(h:G:=by
 obtain⟨rfl,n⟩:=C;have k{G}(h:G:=by
 have N:a.heap.size+1<b.heap.size:=fR g;have L:=Y j;have M:=Y g;clear j g HP B F D;refine leaves_cons (f:=69) (args:=#[PZ a.heap.size 0,PZ (a.heap.size+1) 0]) Qh (by simp[go_sem]) ?_;refine(Rs a.heap.size (a.heap.size+1) d e b _ _ E R A S Pv Pv N).mono ?_;rintro f ae X ⟨rfl,rfl,rfl⟩
 show Leaves _ _ _ _ [] .returning _
 have P:((((b.setCell (Pn a.heap.size 0) Rz).setCell (Pn (a.heap.size+1) 0) (.iface 150 (PZ (b.heap.size+1) 0))).alloc (.cells #[Ph d,Ph (e:Int)] 148)).alloc (.cells #[Ph d,Ph (e:Int)] 152)).drew.heap[a.heap.size]?=some (Qb #[Rz] 22):=by
  show ((((b.setCell (Pn a.heap.size 0) Rz).setCell (Pn (a.heap.size+1) 0) (.iface 150 (PZ (b.heap.size+1) 0))).alloc (.cells #[Ph d,Ph (e:Int)] 148)).alloc (.cells #[Ph d,Ph (e:Int)] 152)).heap[a.heap.size]?=_
  rw[gy _ _ _ SC,gy _ _ _ SC,gZ _ (Pn (a.heap.size+1) 0) _ _ (by show a.heap.size≠a.heap.size+1;omega),gb L.out]
  rfl
 have O:((((b.setCell (Pn a.heap.size 0) Rz).setCell (Pn (a.heap.size+1) 0) (.iface 150 (PZ (b.heap.size+1) 0))).alloc (.cells #[Ph d,Ph (e:Int)] 148)).alloc (.cells #[Ph d,Ph (e:Int)] 152)).drew.heap[a.heap.size+1]?=some (Qb #[.iface 150 (PZ (b.heap.size+1) 0)] 31):=by
  show ((((b.setCell (Pn a.heap.size 0) Rz).setCell (Pn (a.heap.size+1) 0) (.iface 150 (PZ (b.heap.size+1) 0))).alloc (.cells #[Ph d,Ph (e:Int)] 148)).alloc (.cells #[Ph d,Ph (e:Int)] 152)).heap[a.heap.size+1]?=_
  have q:(b.setCell (Pn a.heap.size 0) Rz).heap[a.heap.size+1]?=some (Qb #[RI] 31):=by
   rw[gZ _ (Pn a.heap.size 0) _ _ (by show a.heap.size+1≠a.heap.size;omega)];exact Pj M
  rw[gy _ _ _ SC,gy _ _ _ SC,gb q];rfl
 have s:((((b.setCell (Pn a.heap.size 0) Rz).setCell (Pn (a.heap.size+1) 0) (.iface 150 (PZ (b.heap.size+1) 0))).alloc (.cells #[Ph d,Ph (e:Int)] 148)).alloc (.cells #[Ph d,Ph (e:Int)] 152)).drew.cell? (Pn a.heap.size 0)=some Rz:=by rw[cell_of P];rfl
 have t:((((b.setCell (Pn a.heap.size 0) Rz).setCell (Pn (a.heap.size+1) 0) (.iface 150 (PZ (b.heap.size+1) 0))).alloc (.cells #[Ph d,Ph (e:Int)] 148)).alloc (.cells #[Ph d,Ph (e:Int)] 152)).drew.cell? (Pn (a.heap.size+1) 0)=some (.iface 150 (PZ (b.heap.size+1) 0)):=by rw[cell_of O];rfl
 have⟨ad,p⟩:=xE (((((b.setCell (Pn a.heap.size 0) Rz).setCell (Pn (a.heap.size+1) 0) (.iface 150 (PZ (b.heap.size+1) 0))).alloc (.cells #[Ph d,Ph (e:Int)] 148)).alloc (.cells #[Ph d,Ph (e:Int)] 152)).drew);rw[<-p] at s t;rw[<-p];refine⟨.tuple #[Rz,.iface 150 (PZ (b.heap.size+1) 0)],by simp[results,results34,go_sem,s,t],b.heap.size+1,rfl,?_,by omega,?_⟩
 all_goals rw[p]
 ·have:=Pz (((b.setCell (Pn a.heap.size 0) Rz).setCell (Pn (a.heap.size+1) 0) (.iface 150 (PZ (b.heap.size+1) 0))).alloc (.cells #[Ph d,Ph (e:Int)] 148)) (.cells #[Ph d,Ph (e:Int)] 152);rw[show ((((b.setCell (Pn a.heap.size 0) Rz).setCell (Pn (a.heap.size+1) 0) (.iface 150 (PZ (b.heap.size+1) 0))).alloc (.cells #[Ph d,Ph (e:Int)] 148)).heap.size)=b.heap.size+1 by simp] at this;exact this
 ·have q:=r.size;exact(((((r.setCell (p:=(Pn a.heap.size 0)) Qq _).setCell (p:=(Pn (a.heap.size+1) 0)) (gw _) _).alloc (by simpa using q) _).alloc SC _).drew)):=Pq h;exact Dp):=Pq h;exact JR
def X3 {m:gI}(d:Nat)(F:WU d)(w:Py)(a l:Nat)(k:PR Tr)(b3:k≠.out)(p:Nat)(o:Sr Vh (fx m.l l)=some p)(b0:xW p=d)(f:∀W,QS m W l a->PN d #[Qr m] W (Rt m W a (NV W.heap.size) k))(h:QS m w l a) :
  PN 160 #[Qr m] w (Rt m w a (NV w.heap.size) k):=by
 have q:Hid (∀W:Py,QS m W l a->(Instr.lookup 231 (.map (some m.mT)) (PI (fx m.l l)) true).run prog W=.ok (.tuple #[.func (.func d) #[PZ m.R 0] #[],PD true]) W):=λW e=>by
  have:=Do m (fx m.l l) W e.base.Dm;rw[o] at this;simp only[J8,b0] at this;exact this
 have X:=h;have U:=Ap.refl m.R w.heap.size w;have HP:=Y f;have s:=Y b3;clear h b3 o b0 f;go_enter func160,ntmps160;go_wp2_with fail;refine oV ?_;refine wh 0 (Qr m) X.drew ?_;refine wh 1 (Qr m) X.drew ?_;refine wh 2 (PZ m.R 4) X.drew ?_;refine wg 3 (.map (some m.mT)) rfl (fU ⟨by kernel_rfl,λW e=>by have u:=QS.c4 e;go_simp⟩) X.drew ?_
 exact CG
def NZ {m:gI}{n:Ut}(L:FC m n)(w:Py)(a l:Nat)(C:PR Tr)(au:nB m.l n a l=C)(b3:C≠.out)(H:Sr Vh (fx m.l l)=none)(h:QS m w l a):PN 160 #[Qr m] w (Rt m w a (NV w.heap.size) C):=by
 have aH:=RY m.R 224;have ay:Hid (∀W:Py,QS m W l a->(Instr.lookup 231 (.map (some m.mT)) (PI (fx m.l l)) true).run prog W=.ok (.tuple #[.nilFunc,PD false]) W):=λW k=>by
  have:=Do m (fx m.l l) W k.base.Dm;rw[H] at this;exact this
 clear H;have D{G}(h:G:=by
 unfold nB at au;have e:=Y au;have F:=Y b3;clear h au b3;go_enter func160,ntmps160;go_wp2_with fail;refine oV ?_;refine wh 0 (Qr m) X.drew ?_;refine wh 1 (Qr m) X.drew ?_;refine wh 2 (PZ m.R 4) X.drew ?_;refine wg 3 (.map (some m.mT)) rfl (fU ⟨by kernel_rfl,λW k=>by have s:=QS.c4 k;go_simp⟩) X.drew ?_
 have f{G}(h:G:=by
 cases T:QJ m.l n.vl a l with
 |out=>
  exact TA
 |ga ak ap=>
  have c:=WM L z a l g (by rw[T];nofun)
  exact wV
 |ok aD A=>
  have c:=WM L z a l g (by rw[T];nofun)
  have f{G}(h:G:=by
  intro j O o;obtain⟨⟨aI,rfl,N,rfl,al⟩,u,d⟩:=o;have q:=r.next d;have M:=u;have B:=Ul al r.size
  cases T:Qx m.l SH A with
  |out=>
   exact TA
  |ga ak ap=>
   have c:=Qp m SH O A a M PK;exact qx
  |ok aE ax=>
   have c:=Qp m SH O A a M PK;have f{G}(h:G:=by
   intro j E o;obtain⟨⟨aJ,rfl,rfl⟩,u,d⟩:=o;have ah:=q.next d;replace B:=Uc B d p.out;have c:=QO 15 PE (.slice (some (Pn E.heap.size 0)) 1 1) (E.alloc (.cells #[Pm N] 22)) ⟨_,_,_,rfl⟩;have f{G}(h:G:=by
   have⟨R,ad,ae⟩:=made u ah (P6.cons B P6.nil) (by simp[maxLen]) #[Pm N] rfl 1 rfl 15 PE (E.heap.size+1) rfl;exact UM e.out.symm R.nv ad ae):=Pq h;exact l0):=Pq h;exact Y4):=Pq h;exact Y4):=Pq h;exact zY):=Pq h;exact pf
def YY {m:gI}{bv:Ut}(bx:FC m bv)(w:Py)(q l:Nat)(bR:PR Tr)(bS:(Qn m.l l).kd≠6)(au:XT m.l bv q l=bR)(af:bR≠.out)(h:QS m w l q):PN 153 #[Qr m] w (Rt m w q (NV w.heap.size) bR):=by
 have cx:=RY m.R 224;have ck:=Y bS;have f{G}(h:G:=by
 clear bS;have D{G}(h:G:=by
 unfold XT at au;have e:=Y au;have F:=Y af;clear h au af;go_enter func153,ntmps153;have f{G}(h:G:=by
 have c:=QO M PE RF wk ⟨_,_,_,rfl⟩;go_wp2_with fail;refine cm c ?_;rintro j cq ⟨rfl,rfl⟩;have⟨ap,aT,bi⟩:=ox b6 bh (KV.nil _ _) M PE _ rfl;have⟨aJ,aD⟩:=xE (.mk M PE 0 []:Tr);have f{G}(h:G:=by
 have bA:g=wk.heap.size:=by simpa[Pm] using bJ.symm
 have⟨ay,_,_,_,_⟩:=gx R.gG;rw[cn.out] at ay;have aL:=fR R.gG;rw[bA] at R ay aL;have ak:=aT;have ah:=bi;clear bJ aD;have⟨s,bP⟩:=xE (wk.alloc (Qu M PE 0 RF));rw[<-bP] at R ak ah ay aL;rw[<-bA] at R ay aL;rw[<-bP,<-bA];clear bP bA
 by_cases aI:M=11
 ·rw[fY (fU aI)] at e;have bY:(M==11)=true:=km.2 aI;clear aI;have n:=R;have f{G}(h:G:=by
  cases T:QJ m.l bv.vl q (l+1) with
  |out=>
   exact TA
  |ga bz bD=>
   have c:=WM bx s.drew q (l+1) ak.drew (by rw[T];nofun)
   rw[T] at c e;simp only[Qy] at e;clear T;go_wp2_with fail;refine l2 ?_;refine p1 ?_;refine hT 4 8 (λK b=>?_) λK b=>?_
   ·go_simp;refine U4 ?_;clear b K;refine WB 8 λK b=>?_;go_simp;exact ub
   ·go_simp;exact ub
  |ok E C=>
   have c:=WM bx s.drew q (l+1) ak.drew (by rw[T];nofun)
   rw[T] at c e;simp only[gj] at e;clear T;go_wp2_with fail;refine mE (H:=λa k=>Ap m.R s.heap.size s a/\QS m a C q/\QT (gz s.heap.size) a E k) (G:=?G1) (λaH=>?_) ?_;rotate_left
   ·refine l2 ?_;refine p1 ?_;refine hT 4 8 (λK b=>?_) λK b=>?_
    ·go_simp;refine U4 ?_;clear b K;refine WB 8 λK b=>?_;have f{G}(h:G:=by
     have r:=((Ap.refl m.R s.heap.size s).drew).next d;have al:Hid (Ap m.R s.heap.size s a/\QS m a C q/\QT (gz s.heap.size) a E k):=⟨r,u,H⟩;exact wS):=Pq h;go_simp;exact oK
    ·have f{G}(h:G:=by
     have r:=((Ap.refl m.R s.heap.size s).drew).next d;have al:Hid (Ap m.R s.heap.size s a/\QS m a C q/\QT (gz s.heap.size) a E k):=⟨r,u,H⟩;exact wM):=Pq h;go_simp;exact oK
   intro a k bF;obtain⟨r,u,H⟩:=bF;have bm:=ah.next r;have bI:=u;have z:=Open.fQ n r p.out;have bQ:=Open.apart n ah.size r p.out (P6.cons H P6.nil);obtain⟨ad,ae,N⟩:=z.cell;have bo:=P6.length _ _ z.fS;have bq:=z.row;rw[bo] at bq;have bE:=bq;have b2:=bm.size;have b1:aJ.fS.length<=3:=by rw[bK.out];decide
   clear bo;refine WB 10 λK b=>?_;refine step_append_lies _ rfl _ _ 38 rfl w.heap.size 22 a6 Rz 1 8 hX aY a1 aW aX rfl PK _ _ _ rfl (bE.alloc _) (Pn a.heap.size 0) 1 1 [Pm k] rfl rfl (TF a k _ rfl) (g8 k) PK (by unfold maxLen;omega) Pv SC (a.heap.size+1) Qh ?_
   intro be ba L bN aE a7 _;refine b _ _ ?_;clear b K;have bG:=Y (nf z bQ bI bm aR.out bN aE a7);have bH:L.cell? (Pn g 3)=a.cell? (Pn g 3)/\L.frozen? (Pn g 3)=a.frozen? (Pn g 3):=qV
   obtain⟨aQ,bn⟩:=bH;rw[ad] at aQ;rw[ae 3] at bn;clear a7;refine wt 11 (Pm g) ?_;refine wt 12 (PZ g 3) ?_;refine WB 13 λK b=>?_;go_simp;refine b _ _ ?_;clear b K aQ bn ad ae N;refine hj Qz ?_ _;go_simp;have⟨ap,aT,bi⟩:=Pj bG;have br:=ap;have a8:=aT;have bf:=bi
   cases T:Qx m.l SH C with
   |out=>
    exact TA
   |ga bz bD=>
    exact r5
   |ok bW bU=>
    exact Jb):=Pq h;exact ra
 ·have bY:(M==11)=false:=gT.2 aI;have c:=Ub m s (l+1) q ak
  by_cases aO:fx m.l (l+1)=SH
  ·rw[fT (λb3=>b3.elim aI (λbZ=>bZ aO))] at e;have b5:((fx m.l (l+1)).toList==[59])=true:=WV (a:=SH) rfl aO;clear aI aO;have f{G}(h:G:=by
   have br:=n.ev
   cases T:Qx m.l SH (l+1) with
   |out=>
    exact TA
   |ga bz bD=>
    have c:=Qp m SH B (l+1) q aK PK;rw[T] at c e;simp only[Qy] at e;clear T;have f{G}(h:G:=by
    exact⟨rfl,Ry e.out.symm (aM.next d)⟩):=Pq h;exact Y1
   |ok bW bU=>
    have c:=Qp m SH B (l+1) q aK PK;have f{G}(h:G:=by
    intro j cg o;obtain⟨⟨ce,rfl,rfl⟩,u,d⟩:=o;have bX:=aM.next d;exact Dn):=Pq h;exact Y4):=Pq h;exact sT
  ·rw[fY (f4 aO)] at e;have b5:((fx m.l (l+1)).toList==[59])=false:=VX (a:=SH) rfl aO;clear aI aO;have f{G}(h:G:=by
   have f{G}(h:G:=by
   cases T:QJ m.l bv.vl q (l+1) with
   |out=>
    exact TA
   |ga bz bD=>
    have c:=WM bx B.drew q (l+1) aK.drew (by rw[T];nofun)
    rw[T] at c e;simp only[Qy] at e;clear T;go_wp2_with fail;refine l2 ?_;refine p1 ?_;refine hT 4 8 (λK b=>?_) λK b=>?_
    ·go_simp;refine U4 ?_;clear b K;refine WB 8 λK b=>?_;go_simp;exact zr
    ·go_simp;exact zr
   |ok E C=>
    have c:=WM bx B.drew q (l+1) aK.drew (by rw[T];nofun)
    rw[T] at c e;simp only[gj] at e;clear T;go_wp2_with fail;refine mE (H:=λa k=>Ap m.R B.heap.size B a/\QS m a C q/\QT (gz B.heap.size) a E k) (G:=?G2) (λaH=>?_) ?_;rotate_left
    ·refine l2 ?_;refine p1 ?_;refine hT 4 8 (λK b=>?_) λK b=>?_
     ·go_simp;refine U4 ?_;clear b K;refine WB 8 λK b=>?_;have f{G}(h:G:=by
      have r:=((Ap.refl m.R B.heap.size B).drew).next d;have al:Hid (Ap m.R B.heap.size B a/\QS m a C q/\QT (gz B.heap.size) a E k):=⟨r,u,H⟩;exact wS):=Pq h;go_simp;exact oK
     ·have f{G}(h:G:=by
      have r:=((Ap.refl m.R B.heap.size B).drew).next d;have al:Hid (Ap m.R B.heap.size B a/\QS m a C q/\QT (gz B.heap.size) a E k):=⟨r,u,H⟩;exact wM):=Pq h;go_simp;exact oK
    intro a k bF;obtain⟨r,u,H⟩:=bF;have bm:=aM.next r;have bI:=u;have z:=Open.fQ n r p.out;have bQ:=Open.apart n aM.size r p.out (P6.cons H P6.nil);obtain⟨ad,ae,N⟩:=z.cell;have bo:=P6.length _ _ z.fS;have bq:=z.row;rw[bo] at bq;have bE:=bq;have b2:=bm.size;have b1:aJ.fS.length<=3:=by rw[bK.out];decide
    clear bo;refine WB 10 λK b=>?_;refine step_append_lies _ rfl _ _ 38 rfl w.heap.size 22 a6 Rz 1 8 hX aY a1 aW aX rfl PK _ _ _ rfl (bE.alloc _) (Pn a.heap.size 0) 1 1 [Pm k] rfl rfl (TF a k _ rfl) (g8 k) PK (by unfold maxLen;omega) Pv SC (a.heap.size+1) Qh ?_
    intro be ba L bN aE a7 _;refine b _ _ ?_;clear b K;have bG:=Y (nf z bQ bI bm aR.out bN aE a7);have bH:L.cell? (Pn g 3)=a.cell? (Pn g 3)/\L.frozen? (Pn g 3)=a.frozen? (Pn g 3):=qV
    obtain⟨aQ,bn⟩:=bH;rw[ad] at aQ;rw[ae 3] at bn;clear a7;refine wt 11 (Pm g) ?_;refine wt 12 (PZ g 3) ?_;refine WB 13 λK b=>?_;go_simp;refine b _ _ ?_;clear b K aQ bn ad ae N;refine hj Qz ?_ _;go_simp;have⟨ap,aT,bi⟩:=Pj bG;have br:=ap;have a8:=aT;have bf:=bi
    cases T:Qx m.l SH C with
    |out=>
     exact TA
    |ga bz bD=>
     exact r5
    |ok bW bU=>
     exact Jb):=Pq h;exact ra):=Pq h;exact sT):=Pq h;exact Hq):=Pq h;exact EI):=Pq h;exact pf):=Pq h;exact p2
def asi {m:gI}{bG:Ut}(b5:FC m bG)(w:Py)(q l:Nat)(b2:PR Tr)(ce:(Qn m.l l).kd≠6)(au:oA m.l bG q l=b2)(af:b2≠.out)(h:QS m w l q):PN 147 #[Qr m] w (Rt m w q (NV w.heap.size) b2):=by
 have cS:=RY m.R 224;have ck:=Y ce;have f{G}(h:G:=by
 clear ce;have D{G}(h:G:=by
 unfold oA at au;have e:=Y au;have F:=Y af;clear h au af;go_enter func147,ntmps147;have f{G}(h:G:=by
 cases T:gK m.l (l+1) with
 |out=>
  exact TA
 |ga bD bE=>
  have c:=gS m wk (l+1) q b6;exact JA
 |ok bH E=>
  have c:=gS m wk (l+1) q b6;have f{G}(h:G:=by
  intro j b3 o;obtain⟨⟨cT,rfl,rfl⟩,u,d⟩:=o;have cA:=bh.next d;have cx:=u;have c:=QO M bH RF b3 ⟨_,_,_,rfl⟩;go_wp2_with fail;refine cm c ?_;rintro j cP ⟨rfl,rfl⟩;have⟨ap,bm,bo⟩:=ox cx cA (KV.nil _ _) M bH _ rfl;have⟨aJ,aD⟩:=xE (.mk M bH 0 []:Tr);have f{G}(h:G:=by
  have bI:g=b3.heap.size:=by simpa[Pm] using bJ.symm
  have⟨ay,_,_,_,_⟩:=gx R.gG;rw[cn.out] at ay;have aL:=fR R.gG;rw[bI] at R ay aL;have ak:=bm;have ah:=bo;clear bJ aD;have⟨bR,bZ⟩:=xE (b3.alloc (Qu M bH 0 RF));rw[<-bZ] at R ak ah ay aL;rw[<-bI] at R ay aL;rw[<-bZ,<-bI];clear bZ bI
  by_cases aQ:M=4
  ·have cC:(M==4)=true:=km.2 aQ;have c:=Ub m bR E q ak
   by_cases aT:fx m.l E=kG
   ·rw[fT (λbX=>bX.2 aT)] at e;have cE:((fx m.l E).toList==[61])=true:=WV (a:=kG) rfl aT;clear aQ;have f{G}(h:G:=by
    clear aT
    by_cases aZ:fx m.l E=kG
    ·rw[fY aZ] at e;have c:=Ua m kG B E q aK aZ PK;clear aZ;go_wp2_with fail;refine cm c ?_;rintro j s ⟨rfl,bN,bz⟩;have aO:=bN;have aI:=aM.next bz;replace n:=Open.fQ n bz p.out;have f{G}(h:G:=by
     cases T:QJ m.l bG.vl q (E+1) with
     |out=>
      exact TA
     |ga bD bE=>
      exact Is
     |ok bA C=>
      have c:=WM b5 s.drew q (E+1) aO.drew (by rw[T];nofun)
      rw[T] at c e;simp only[gj] at e;clear T;go_wp2_with fail;refine mE (H:=λa k=>Ap m.R s.heap.size s a/\QS m a C q/\QT (gz s.heap.size) a bA k) (G:=?G1) (λaH=>?_) ?_;rotate_left
      ·exact CU
      intro a k bQ;obtain⟨r,u,H⟩:=bQ;have bq:=aI.next r;have bW:=u;have z:=Open.fQ n r p.out;have b1:=Open.apart n aI.size r p.out (P6.cons H P6.nil);obtain⟨ad,ae,N⟩:=z.cell;have bv:=P6.length _ _ z.fS;have bx:=z.row;rw[bv] at bx;have bP:=bx;have cz:=bq.size;have cy:aJ.fS.length<=3:=by rw[bK.out];decide
      clear bv;refine WB 10 λK b=>?_;refine step_append_lies _ rfl _ _ 38 rfl w.heap.size 22 a6 Rz 1 8 hX aY a1 aW aX rfl PK _ _ _ rfl (bP.alloc _) (Pn a.heap.size 0) 1 1 [Pm k] rfl rfl (TF a k _ rfl) (g8 k) PK (by unfold maxLen;omega) Pv SC (a.heap.size+1) Qh ?_
      intro be ba L bY aE bn _;refine b _ _ ?_;clear b K;have bS:=Y (nf z b1 bW bq aR.out bY aE bn);have bU:L.cell? (Pn g 3)=a.cell? (Pn g 3)/\L.frozen? (Pn g 3)=a.frozen? (Pn g 3):=qV
      obtain⟨bi,br⟩:=bU;rw[ad] at bi;rw[ae 3] at br;clear bn;refine wt 11 (Pm g) ?_;refine wt 12 (PZ g 3) ?_;refine WB 13 λK b=>?_;go_simp;refine b _ _ ?_;clear b K bi br ad ae N;refine hj Qz ?_ _;go_simp;have⟨ap,bm,bo⟩:=Pj bS;have bF:=ap;have a8:=bm;have bf:=bo
      cases T:Qx m.l SH C with
      |out=>
       exact TA
      |ga bD bE=>
       exact r5
      |ok cj cg=>
       exact Ff):=Pq h;exact ra
    ·rw[fT aZ] at e;have c:=UL m kG B E q aK aZ;clear aZ;go_wp2_with fail;refine cm c ?_;rintro j s ⟨rfl,a7⟩;have aO:=aK.fQ a7;have aI:=aM.next (Ap.of a7);exact B1):=Pq h;exact sT
   ·rw[fY ⟨aQ,aT⟩] at e;have cE:((fx m.l E).toList==[61])=false:=VX (a:=kG) rfl aT;clear aQ aT;have f{G}(h:G:=by
    have c:=V8 m 3 B E q aK;go_wp2_with fail;refine cm c ?_;rintro j cQ ⟨rfl,cB⟩;exact⟨rfl,Ry e.out.symm (aM.next (Ap.of cB))⟩):=Pq h;exact sT
  ·have cC:(M==4)=false:=gT.2 aQ;rw[fT (λbX=>aQ bX.1)] at e;clear aQ;have n:=R
   by_cases aZ:fx m.l E=kG
   ·rw[fY aZ] at e;have c:=Ua m kG bR E q ak aZ PK;clear aZ;go_wp2_with fail;refine cm c ?_;rintro j s ⟨rfl,bN,bz⟩;have aO:=bN;have aI:=ah.next bz;replace n:=Open.fQ n bz p.out;have f{G}(h:G:=by
    cases T:QJ m.l bG.vl q (E+1) with
    |out=>
     exact TA
    |ga bD bE=>
     exact Is
    |ok bA C=>
     have c:=WM b5 s.drew q (E+1) aO.drew (by rw[T];nofun)
     rw[T] at c e;simp only[gj] at e;clear T;go_wp2_with fail;refine mE (H:=λa k=>Ap m.R s.heap.size s a/\QS m a C q/\QT (gz s.heap.size) a bA k) (G:=?G2) (λaH=>?_) ?_;rotate_left
     ·exact CU
     intro a k bQ;obtain⟨r,u,H⟩:=bQ;have bq:=aI.next r;have bW:=u;have z:=Open.fQ n r p.out;have b1:=Open.apart n aI.size r p.out (P6.cons H P6.nil);obtain⟨ad,ae,N⟩:=z.cell;have bv:=P6.length _ _ z.fS;have bx:=z.row;rw[bv] at bx;have bP:=bx;have cz:=bq.size;have cy:aJ.fS.length<=3:=by rw[bK.out];decide
     clear bv;refine WB 10 λK b=>?_;refine step_append_lies _ rfl _ _ 38 rfl w.heap.size 22 a6 Rz 1 8 hX aY a1 aW aX rfl PK _ _ _ rfl (bP.alloc _) (Pn a.heap.size 0) 1 1 [Pm k] rfl rfl (TF a k _ rfl) (g8 k) PK (by unfold maxLen;omega) Pv SC (a.heap.size+1) Qh ?_
     intro be ba L bY aE bn _;refine b _ _ ?_;clear b K;have bS:=Y (nf z b1 bW bq aR.out bY aE bn);have bU:L.cell? (Pn g 3)=a.cell? (Pn g 3)/\L.frozen? (Pn g 3)=a.frozen? (Pn g 3):=qV
     obtain⟨bi,br⟩:=bU;rw[ad] at bi;rw[ae 3] at br;clear bn;refine wt 11 (Pm g) ?_;refine wt 12 (PZ g 3) ?_;refine WB 13 λK b=>?_;go_simp;refine b _ _ ?_;clear b K bi br ad ae N;refine hj Qz ?_ _;go_simp;have⟨ap,bm,bo⟩:=Pj bS;have bF:=ap;have a8:=bm;have bf:=bo
     cases T:Qx m.l SH C with
     |out=>
      exact TA
     |ga bD bE=>
      exact r5
     |ok cj cg=>
      exact Ff):=Pq h;exact ra
   ·rw[fT aZ] at e;have c:=UL m kG bR E q ak aZ;clear aZ;go_wp2_with fail;refine cm c ?_;rintro j s ⟨rfl,a7⟩;have aO:=ak.fQ a7;have aI:=ah.next (Ap.of a7);exact B1):=Pq h;exact Hq):=Pq h;exact Y4):=Pq h;exact EI):=Pq h;exact pf):=Pq h;exact p2
def jpZ {α β γ:Type}(a:PR α)(b:α->Nat->PR β)(c:β->Nat->PR γ):(a.bind b).bind c=a.bind λx d=>(b x d).bind c:=by cases a <;> rfl
def aKt {m:gI}{a:Ut}(n:FC m a)(r:∃c,ka m.l c a)(w:Py)(e l b:Nat)(h:QS m w l e)(b2:Qx m.l mM l=.ok () b)(i:Int)(k:Nat)(g:Rk m.l a e b=.ga i k):PN 154 #[Qr m] w (Rt m w e (NV w.heap.size) (.ga i k)):=by
 have⟨A,v,z,t,u⟩:=g2 io;have p:=Ap.refl m.R w.heap.size w;have f{G}(h:G:=by
 have s:=p.next d;have c:=SI n r cQ e b _ rfl (by rw[g];nofun) q
 rw[g] at c;have f{G}(h:G:=by
 exact⟨rfl,Ry rfl (s.next d)⟩):=Pq h;exact Y1):=Pq h;exact JT
section
variable {m:gI} {ay:Ut} (bh:FC m ay) (bi:∃i,ka m.l i ay) (w:Py) (e l bx:Nat) (h:QS m w l e) (b2:Qx m.l mM l=.ok () bx) (O:Tr) (z:Nat) (H:Rk m.l ay e bx=.ok O z)
include m ay bh bi w e l bx h b2 O z H
def Sd (M:fx m.l z≠V4)(b0:fx m.l z≠Tq):PN 154 #[Qr m] w (Rt m w e (NV w.heap.size) (.ga 3 (Qn m.l z).pl)):=by
 have⟨ae,E,R,A,C⟩:=g2 io;have U:=Ap.refl m.R w.heap.size w;have p:=Y h.kP;have f{G}(h:G:=by
 have D{G}(h:G:=by
 have D{G}(h:G:=by
 have⟨ad,F,L⟩:=made q df (P6.cons de P6.nil) (by simp[maxLen]) #[Pm b1] rfl 1 rfl 12 PE (bm.heap.size+1) rfl;have D{G}(h:G:=by
 have f{G}(h:G:=by
 have f{G}(h:G:=by
 have c:=UL m Tq a z e n b0;go_wp2_with fail;refine cm c ?_;rintro j b ⟨rfl,H⟩;have k:=n.fQ H;have r:=N.next (Ap.of H);replace s:=Y (Open.fQ s (Ap.of H) p.out);clear H;have f{G}(h:G:=by
 rw[aY.out] at cL;have c:=V8 m 3 b z e k;go_wp2_with fail;refine cm c ?_;rintro j X ⟨rfl,u⟩;exact⟨rfl,Ry rfl (r.next (Ap.of u))⟩):=Pq h;exact qr):=Pq h;exact DR):=Pq h;exact sa):=Pq h;exact JB):=Pq h;exact AM):=Pq h;exact zF):=Pq h;exact JT
def Mv (bX:fx m.l z≠V4)(b0:fx m.l z=Tq)(N:Tr)(i2:Nat)(bo:Rk m.l ay e (z+1)=.ok N i2):PN 154 #[Qr m] w (Rt m w e (NV w.heap.size) (.ok (.mk 12 PE 0 [O,.mk 14 PE 0 [N]]) i2)):=by
 have cy:=Y h.base.size;have f{G}(h:G:=by
 have n:=s;have a6:=F;have bJ:=L;have f{G}(h:G:=by
 rw[<-be] at n a6 bJ;rw[<-bf] at n;refine sn ?_;clear be bf;have c:=UL m V4 a8 z e a6 bX;go_wp2_with fail;refine cm c ?_;rintro j a ⟨rfl,H⟩;have aM:=a6.fQ H;have aL:=bJ.next (Ap.of H);replace n:=Open.fQ n (Ap.of H) p.out;clear H;have c:=Ua m Tq a z e aM b0 PK;go_wp2_with fail;refine cm c ?_;rintro j E ⟨rfl,q,d⟩;have cz:=q;have bK:=aL.next d;replace n:=Open.fQ n (d) p.out;have a7:=SI bh bi E.drew e (z+1) _ rfl (by rw[bo];nofun) cz.drew
 rw[bo] at a7;have f{G}(h:G:=by
 go_wp2_with fail;refine mE (H:=λa k=>Ap m.R E.heap.size E a/\QS m a i2 e/\QT (gz E.heap.size) a N k) (G:=?G1) (λaH=>?_) ?_;rotate_left
 ·refine l2 ?_;refine wt 5 (Qr m) ?_;refine hT 4 6 (λK b=>?_) λK b=>?_
  ·go_simp;refine U4 ?_;clear b K;refine WB 6 λK b=>?_;go_simp;refine cm a7 ?_;have f{G}(h:G:=by
   have u:=((Ap.refl m.R E.heap.size E).drew).next d;have al:Hid (Ap m.R E.heap.size E a/\QS m a i2 e/\QT (gz E.heap.size) a N k):=⟨u,q,ae⟩;exact Ge):=Pq h;exact pL
  ·go_simp;refine cm a7 ?_;have f{G}(h:G:=by
   have u:=((Ap.refl m.R E.heap.size E).drew).next d;have al:Hid (Ap m.R E.heap.size E a/\QS m a i2 e/\QT (gz E.heap.size) a N k):=⟨u,q,ae⟩;exact C8):=Pq h;exact pL
 intro a k cj;obtain⟨u,q,ae⟩:=cj;have aL:=bK.next u;have aM:=q;have bz:=Open.fQ n u p.out;obtain⟨aQ,aR,aT⟩:=bz.cell;have aW:g<a.heap.size+1:=Pv;have aX:g<a.heap.size+1+1:=Pv;have⟨bZ,br,bD⟩:=made (w:=E) aM u (P6.cons ae P6.nil) (by simp[maxLen]) #[Pm k] rfl 1 rfl 14 PE (a.heap.size+1) rfl;have aJ:PG a ((a.alloc (.cells #[Pm k] 22)).alloc (Qu 14 PE 0 (.slice (some (Pn a.heap.size 0)) 1 1))):=QK.alloc Qh _
 have⟨r,ah⟩:=xE ((a.alloc (.cells #[Pm k] 22)).alloc (Qu 14 PE 0 (.slice (some (Pn a.heap.size 0)) 1 1)));have bq:(a.alloc (.cells #[Pm k] 22)).heap.size=a.heap.size+1:=by simp
 have⟨R,ap⟩:=xE (a.heap.size+1);obtain⟨cx,bR,a1⟩:=bZ.nv;have aD:cx=a.heap.size+1:=by simpa[Pm] using bR.symm
 subst aD;have bF:r.heap.size=R+1:=by rw[ah,ap];simp
 rw[<-ah] at a1 br bD aJ
 try rw[bq]
 rw[<-ap] at a1
 try rw[<-ap]
 try rw[<-ah]
 have C:=Open.fQ bz (Ap.of aJ) p.out;have bL:=aL.next (Ap.of aJ);have cB:=Open.apart n bK.size bD p.out (P6.cons a1 P6.nil);obtain⟨bP,bQ,aI⟩:=C.cell;clear bR ah ap bq aQ aR aT aW aX;have bG:=P6.length _ _ C.fS;have bH:=C.row;rw[bG] at bH;have cK:=bL.size;have cJ:B.fS.length<=3:=by rw[aY.out];decide
 clear bG;refine WB 10 λK b=>?_;refine step_append_lies _ rfl _ _ 38 rfl w.heap.size 22 b8 Rz 1 8 hX b6 b7 b3 b5 rfl PK _ _ _ rfl (bH.alloc _) (Pn (R+1) 0) 1 1 [Pm R] rfl rfl (TF r R _ bF) (g8 R) PK (by unfold maxLen;omega) Pv SC (r.heap.size+1) Qh ?_
 clear bF;intro cn ck M cw aE bv _;refine b _ _ ?_;clear b K;have cp:=Y (nf C cB br bL cy.out cw aE bv);have cq:M.cell? (Pn g 3)=r.cell? (Pn g 3)/\M.frozen? (Pn g 3)=r.frozen? (Pn g 3):=q0
 obtain⟨bn,bE⟩:=cq;rw[bP] at bn;rw[bQ 3] at bE;clear bv;refine wt 11 (Pm g) ?_;refine wt 12 (PZ g 3) ?_;refine WB 13 λK b=>?_;go_simp;refine b _ _ ?_;clear b K bn bE bP bQ aI;refine hj Qz ?_ _;go_simp;have⟨ad,F,L⟩:=Pj cp;obtain⟨bN,ak⟩:∃cC:Tr,cC=.mk B.kd B.tx B.n (B.fS++[.mk 14 PE 0 [N]]):=⟨_,rfl⟩;rw[<-ak] at ad;have cE:Hid (bN.fS.length=B.fS.length+1):=by
  show _=_
  rw[ak];simp[Tr.fS]
 have cG:=Y ak;obtain⟨cA,uz,cP,bI,aO⟩:=ad.opens;have bS:cA=g:=by simpa[Pm] using bI.symm
 rw[bS] at aO;have⟨cH,aK⟩:=xE ((M.setCell (Pn g 3) (.slice (some (Pn cn 0)) (B.fS.length+1) ck)));rw[<-aK] at aO F L;rw[<-aK];have n:=aO;clear bI aK bS ak;obtain⟨cr,cO,cV⟩:=n.cell;obtain⟨cL,uc,ci⟩:=n.shape;subst ci;have bA:bN.fS.length=2:=by rw[cE.out,aY.out]
 rw[bA] at cr;clear bA;go_wp2;go_ret;have bW:=Pj ce;have bY:=Pj cG;have bU:=n.ev.nv;rw[bY,bW] at bU;exact UM rfl bU F L):=Pq h;exact ra):=Pq h;exact sa):=Pq h;exact pC
def aol (M:fx m.l z≠V4)(b0:fx m.l z=Tq)(u:Int)(E:Nat)(r:Rk m.l ay e (z+1)=.ga u E):PN 154 #[Qr m] w (Rt m w e (NV w.heap.size) (.ga u E)):=by
 have f{G}(h:G:=by
 have f{G}(h:G:=by
 have f{G}(h:G:=by
 have c:=Ua m Tq a z e n b0 PK;go_wp2_with fail;refine cm c ?_;rintro j R ⟨rfl,q,d⟩;have C:=N.next d;replace s:=Y (Open.fQ s (d) p.out);have k:=SI bh bi R.drew e (z+1) _ rfl (by rw[r];nofun) q.drew
 rw[r] at k;have f{G}(h:G:=by
 go_wp2_with fail;refine l2 ?_;refine wt 5 (Qr m) ?_;refine hT 4 6 (λK b=>?_) λK b=>?_
 ·go_simp;refine U4 ?_;clear b K;refine WB 6 λK b=>?_;go_simp;refine cm k ?_;intro j a o;obtain⟨rfl,d⟩:=o;exact⟨rfl,Ry rfl (C.drew.next d)⟩
 ·go_simp;refine cm k ?_;intro j a o;obtain⟨rfl,d⟩:=o;exact⟨rfl,Ry rfl (C.drew.next d)⟩):=Pq h;exact qr):=Pq h;exact DR):=Pq h;exact sa):=Pq h;exact pC
def ry (aI:fx m.l z=V4)(n:Int)(u:Nat)(a:Qx m.l TT (z+1)=.ga n u\/∃i2,Qx m.l TT (z+1)=.ok () i2/\(gK m.l i2=.ga n u\/∃R r,gK m.l i2=.ok R r/\(Qx m.l U1 r=.ga n u\/∃C,Qx m.l U1 r=.ok () C/\Rk m.l ay e C=.ga n u))):PN 154 #[Qr m] w (Rt m w e (NV w.heap.size) (.ga n u)):=by
 have k:=Y a;clear a;have f{G}(h:G:=by
 have f{G}(h:G:=by
 rw[<-be] at s F L;rw[<-bf] at s;refine sn ?_;clear be bf;have c:=Ua m V4 a8 z e F aI PK;go_wp2_with fail;refine cm c ?_;rintro j ap ⟨rfl,q,d⟩;have aJ:=q;have ah:=L.next d;replace s:=Y (Open.fQ s (d) p.out);have c:=Qp m TT ap (z+1) e aJ PK
 rcases k.out with E|⟨i2,E,a⟩
 ·rw[E] at c;have f{G}(h:G:=by
  exact⟨rfl,Ry rfl (ah.next d)⟩):=Pq h;exact Y1
 have k:=Y a;clear a;rw[E] at c;go_wp2_with fail;refine cm c ?_;intro j aO o;obtain⟨⟨aR,rfl,rfl⟩,q,d⟩:=o;have aM:=q;have ak:=ah.next d;replace s:=Y (Open.fQ s (d) p.out);have c:=gS m aO i2 e aM
 rcases k.out with N|⟨R,r,N,a⟩
 ·rw[N] at c;have f{G}(h:G:=by
  exact⟨rfl,Ry rfl (ak.next d)⟩):=Pq h;exact Y1
 have k:=Y a;clear a;rw[N] at c;go_wp2_with fail;refine cm c ?_;intro j aL o;obtain⟨⟨aT,rfl,rfl⟩,q,d⟩:=o;have aH:=q;have al:=ak.next d;replace s:=Y (Open.fQ s (d) p.out);have c:=Qp m U1 aL r e aH PK
 rcases k.out with M|⟨C,M,ae⟩
 ·rw[M] at c;have f{G}(h:G:=by
  exact⟨rfl,Ry rfl (al.next d)⟩):=Pq h;exact Y1
 rw[M] at c;go_wp2_with fail;refine cm c ?_;intro j aK o;obtain⟨⟨aW,rfl,rfl⟩,q,d⟩:=o;have aQ:=al.next d;replace s:=Y (Open.fQ s (d) p.out);have aE:=SI bh bi aK.drew e C _ rfl (by rw[ae];nofun) q.drew
 rw[ae] at aE;have f{G}(h:G:=by
 go_wp2_with fail;refine l2 ?_;refine wt 5 (PI R) ?_;refine wt 6 (Qr m) ?_;refine hT 4 7 (λK b=>?_) λK b=>?_
 ·go_simp;refine U4 ?_;clear b K;refine WB 7 λK b=>?_;go_simp;exact zs
 ·go_simp;exact zs):=Pq h;exact qr):=Pq h;exact sa):=Pq h;exact pC
def asj (cO:fx m.l z=V4)(i2:Nat)(aL:Qx m.l TT (z+1)=.ok () i2)(N:PS)(bz:Nat)(cP:gK m.l i2=.ok N bz)(bA:Nat)(cL:Qx m.l U1 bz=.ok () bA)(ak:Tr)(R:Nat)(ck:Rk m.l ay e bA=.ok ak R)(b0:fx m.l R≠Tq):PN 154 #[Qr m] w (Rt m w e (NV w.heap.size) (.ok (.mk 12 PE 0 [O,.mk 13 N 0 [ak]]) R)):=by
 have cG:=Y h.base.size;have f{G}(h:G:=by
 have f{G}(h:G:=by
 refine mE (H:=λa k=>Ap m.R E.heap.size E a/\QS m a R e/\QT (gz E.heap.size) a ak k) (G:=?G2) (λaH=>?_) ?_;rotate_left
 ·exact y9
 intro a k cx;obtain⟨u,q,ae⟩:=cx;have a1:=bF.next u;have a6:=q;have bI:=Open.fQ n u p.out;obtain⟨aQ,aR,aT⟩:=bI.cell;have aW:g<a.heap.size+1:=Pv;have aX:g<a.heap.size+1+1:=Pv;have⟨cr,bG,bK⟩:=made (w:=E) a6 u (P6.cons ae P6.nil) (by simp[maxLen]) #[Pm k] rfl 1 rfl 13 N (a.heap.size+1) rfl;have bn:PG a ((a.alloc (.cells #[Pm k] 22)).alloc (Qu 13 N 0 (.slice (some (Pn a.heap.size 0)) 1 1))):=QK.alloc Qh _
 have⟨r,aK⟩:=xE ((a.alloc (.cells #[Pm k] 22)).alloc (Qu 13 N 0 (.slice (some (Pn a.heap.size 0)) 1 1)));have bD:(a.alloc (.cells #[Pm k] 22)).heap.size=a.heap.size+1:=by simp
 have⟨aJ,aO⟩:=xE (a.heap.size+1);obtain⟨cE,bX,br⟩:=cr.nv;have aD:cE=a.heap.size+1:=by simpa[Pm] using bX.symm
 subst aD;have bN:r.heap.size=aJ+1:=by rw[aK,aO];simp
 rw[<-aK] at br bG bK bn
 try rw[bD]
 rw[<-aO] at br
 try rw[<-aO]
 try rw[<-aK]
 have C:=Open.fQ bI (Ap.of bn) p.out;have ap:=a1.next (Ap.of bn);have a8:=bG;have cJ:=Open.apart n bF.size bK p.out (P6.cons br P6.nil);obtain⟨bU,bW,aI⟩:=C.cell;clear bX aK aO bD aQ aR aT aW aX;have bP:=P6.length _ _ C.fS;have bQ:=C.row;rw[bP] at bQ;have cZ:=ap.size;have cY:B.fS.length<=3:=by rw[aY.out];decide
 clear bP;refine WB 11 λK b=>?_;refine step_append_lies _ rfl _ _ 38 rfl w.heap.size 22 b8 Rz 1 8 hX b6 b7 b3 b5 rfl PK _ _ _ rfl (bQ.alloc _) (Pn (aJ+1) 0) 1 1 [Pm aJ] rfl rfl (TF r aJ _ bN) (g8 aJ) PK (by unfold maxLen;omega) Pv SC (r.heap.size+1) Qh ?_
 clear bN;intro cz cy M cC aE bH _;refine b _ _ ?_;clear b K;have cA:=Y (nf C cJ a8 ap cG.out cC aE bH);have cB:M.cell? (Pn g 3)=r.cell? (Pn g 3)/\M.frozen? (Pn g 3)=r.frozen? (Pn g 3):=q0
 obtain⟨bv,bL⟩:=cB;rw[bU] at bv;rw[bW 3] at bL;clear bH;refine wt 12 (Pm g) ?_;refine wt 13 (PZ g 3) ?_;refine WB 14 λK b=>?_;go_simp;refine b _ _ ?_;clear b K bv bL bU bW aI;refine hj Qz ?_ _;go_simp;have⟨ad,F,L⟩:=Pj cA;obtain⟨bS,aM⟩:∃cS:Tr,cS=.mk B.kd B.tx B.n (B.fS++[.mk 13 N 0 [ak]]):=⟨_,rfl⟩;rw[<-aM] at ad;have cT:Hid (bS.fS.length=B.fS.length+1):=by
  show _=_
  rw[aM];simp[Tr.fS]
 have cX:=Y aM;obtain⟨cH,uz,c8,bR,bq⟩:=ad.opens;have bY:cH=g:=by simpa[Pm] using bR.symm
 rw[bY] at bq;have⟨cw,bo⟩:=xE ((M.setCell (Pn g 3) (.slice (some (Pn cz 0)) (B.fS.length+1) cy)));rw[<-bo] at bq F L;rw[<-bo];have n:=bq;clear bR bo bY aM;have c:=UL m Tq cw R e F b0;go_wp2_with fail;refine cm c ?_;rintro j wz ⟨rfl,H⟩;have cn:=F.fQ H;have cU:=L.next (Ap.of H);replace n:=Open.fQ n (Ap.of H) p.out;clear H;obtain⟨bE,cj,cV⟩:=n.cell;obtain⟨ci,uc,a7⟩:=n.shape;subst a7;have bJ:bS.fS.length=2:=by rw[cT.out,aY.out]
 rw[bJ] at bE;clear bJ;go_wp2;go_ret;have cp:=Pj ce;have cq:=Pj cX;have bZ:=n.ev.nv;rw[cq,cp] at bZ;exact UM rfl bZ cn cU):=Pq h;exact vE):=Pq h;exact pC
end
def Xs {b:gI}(a:Py)(e g:Nat)(h:QS b a g e)(i:Int)(k:Nat)(l:Qx b.l mM g=.ga i k):PN 154 #[Qr b] a (Rt b a e (NV a.heap.size) (.ga i k)):=by
 have m:=Ap.refl b.R a.heap.size a;go_enter func154,ntmps154;have c:=Qp b mM a g e h PK;rw[l] at c;have f{G}(h:G:=by
 exact⟨rfl,Ry rfl (m.next d)⟩):=Pq h;exact Y1
section
variable {m:gI} {bv:Ut} (bh:FC m bv) (bi:∃i,ka m.l i bv) (w:Py) (e l bx:Nat) (h:QS m w l e) (b2:Qx m.l mM l=.ok () bx) (O:Tr) (z:Nat) (H:Rk m.l bv e bx=.ok O z) (cO:fx m.l z=V4) (i2:Nat) (aL:Qx m.l TT (z+1)=.ok () i2) (N:PS) (bz:Nat) (cP:gK m.l i2=.ok N bz) (bA:Nat) (cL:Qx m.l U1 bz=.ok () bA) (ak:Tr) (R:Nat) (ck:Rk m.l bv e bA=.ok ak R) (b0:fx m.l R=Tq)
include m bv bh bi w e l bx h b2 O z H cO i2 aL N bz cP bA cL ak R ck b0
def Oz (bD:Tr)(bZ:Nat)(cT:Rk m.l bv e (R+1)=.ok bD bZ):PN 154 #[Qr m] w (Rt m w e (NV w.heap.size) (.ok (.mk 12 PE 0 [O,.mk 13 N 0 [ak],.mk 14 PE 0 [bD]]) bZ)):=by
 have cY:=Y h.base.size;have f{G}(h:G:=by
 have f{G}(h:G:=by
 refine mE (H:=λa k=>Ap m.R E.heap.size E a/\QS m a R e/\QT (gz E.heap.size) a ak k) (G:=?G3) (λaH=>?_) ?_;rotate_left
 ·exact y9
 intro a k cq;obtain⟨u,q,ae⟩:=cq;have a1:=bF.next u;have cJ:=u;have a6:=q;have bK:=Open.fQ n u p.out;have cC:=ae;obtain⟨aQ,aR,aT⟩:=bK.cell;have aW:g<a.heap.size+1:=Pv;have aX:g<a.heap.size+1+1:=Pv;have⟨cp,bI,bL⟩:=made (w:=E) a6 cJ (P6.cons cC P6.nil) (by simp[maxLen]) #[Pm k] rfl 1 rfl 13 N (a.heap.size+1) rfl;have bn:PG a ((a.alloc (.cells #[Pm k] 22)).alloc (Qu 13 N 0 (.slice (some (Pn a.heap.size 0)) 1 1))):=QK.alloc Qh _
 have⟨r,aJ⟩:=xE ((a.alloc (.cells #[Pm k] 22)).alloc (Qu 13 N 0 (.slice (some (Pn a.heap.size 0)) 1 1)));have bH:(a.alloc (.cells #[Pm k] 22)).heap.size=a.heap.size+1:=by simp
 have⟨ay,aM⟩:=xE (a.heap.size+1);obtain⟨cA,bX,br⟩:=cp.nv;have aD:cA=a.heap.size+1:=by simpa[Pm] using bX.symm
 subst aD;have bP:r.heap.size=ay+1:=by rw[aJ,aM];simp
 rw[<-aJ] at br bI bL bn
 try rw[bH]
 rw[<-aM] at br
 try rw[<-aM]
 try rw[<-aJ]
 have C:=Open.fQ bK (Ap.of bn) p.out;have ap:=a1.next (Ap.of bn);have a8:=bI;have cG:=Open.apart n bF.size bL p.out (P6.cons br P6.nil);obtain⟨bU,bW,aI⟩:=C.cell;clear bX aJ aM bH aQ aR aT aW aX;have bQ:=P6.length _ _ C.fS;have bR:=C.row;rw[bQ] at bR;have cn:=bR;have du:=ap.size;have dt:B.fS.length<=3:=by rw[aY.out];decide
 clear bQ;refine WB 11 λK b=>?_;refine step_append_lies _ rfl _ _ 38 rfl w.heap.size 22 b8 Rz 1 8 hX b6 b7 b3 b5 rfl PK _ _ _ rfl (cn.alloc _) (Pn (ay+1) 0) 1 1 [Pm ay] rfl rfl (TF r ay _ bP) (g8 ay) PK (by unfold maxLen;omega) Pv SC (r.heap.size+1) Qh ?_
 clear bP;intro cw cr M cz aE bJ _;refine b _ _ ?_;clear b K;have cx:=Y (nf C cG a8 ap cY.out cz aE bJ);have cy:M.cell? (Pn g 3)=r.cell? (Pn g 3)/\M.frozen? (Pn g 3)=r.frozen? (Pn g 3):=q0
 obtain⟨bG,bN⟩:=cy;rw[bU] at bG;rw[bW 3] at bN;clear bJ;refine wt 12 (Pm g) ?_;refine wt 13 (PZ g 3) ?_;refine WB 14 λK b=>?_;go_simp;refine b _ _ ?_;clear b K bG bN bU bW aI;refine hj Qz ?_ _;go_simp;have⟨ad,F,L⟩:=Pj cx;obtain⟨aO,aK⟩:∃cH:Tr,cH=.mk B.kd B.tx B.n (B.fS++[.mk 13 N 0 [ak]]):=⟨_,rfl⟩;rw[<-aK] at ad;have c8:Hid (aO.fS.length=B.fS.length+1):=by
  show _=_
  rw[aK];simp[Tr.fS]
 have dv:=Y aK;obtain⟨cE,uz,dx,bS,bq⟩:=ad.opens;have bY:cE=g:=by simpa[Pm] using bS.symm
 rw[bY] at bq;have⟨cU,bo⟩:=xE ((M.setCell (Pn g 3) (.slice (some (Pn cw 0)) (B.fS.length+1) cr)));rw[<-bo] at bq F L;rw[<-bo];have n:=bq;have dl:=F;have dj:=L;clear bS bo bY aK;have c:=Ua m Tq cU R e dl b0 PK;go_wp2_with fail;refine cm c ?_;rintro j wz ⟨rfl,q,d⟩;have dh:=q;have da:=dj.next d;replace n:=Open.fQ n (d) p.out;have di:Hid (aO.fS.length=2):=by
  show _=_
  rw[c8.out,aY.out]
 have cB:=SI bh bi wz.drew e (R+1) _ rfl (by rw[cT];nofun) dh.drew
 rw[cT] at cB;obtain⟨bE,cj,cV⟩:=n.cell;obtain⟨ci,uc,a7⟩:=n.shape;subst a7;go_wp2_with fail;refine mE (H:=λa k=>Ap m.R wz.heap.size wz a/\QS m a bZ e/\QT (gz wz.heap.size) a bD k) (G:=?G4) (λaH=>?_) ?_;rotate_left
 ·refine l2 ?_;refine wt 5 (Qr m) ?_;refine hT 4 6 (λK b=>?_) λK b=>?_
  ·go_simp;refine U4 ?_;clear b K;refine WB 6 λK b=>?_;go_simp;refine cm cB ?_;have f{G}(h:G:=by
   have u:=((Ap.refl m.R wz.heap.size wz).drew).next d;have al:Hid (Ap m.R wz.heap.size wz a/\QS m a bZ e/\QT (gz wz.heap.size) a bD k):=⟨u,q,ae⟩;exact Ge):=Pq h;exact pL
  ·go_simp;refine cm cB ?_;have f{G}(h:G:=by
   have u:=((Ap.refl m.R wz.heap.size wz).drew).next d;have al:Hid (Ap m.R wz.heap.size wz a/\QS m a bZ e/\QT (gz wz.heap.size) a bD k):=⟨u,q,ae⟩;exact C8):=Pq h;exact pL
 intro a k cq;obtain⟨u,q,ae⟩:=cq;have a1:=da.next u;have cJ:=u;have a6:=q;have bK:=Open.fQ n u p.out;have cC:=ae;obtain⟨aQ,aR,aT⟩:=bK.cell;have aW:g<a.heap.size+1:=Pv;have aX:g<a.heap.size+1+1:=Pv;have⟨cp,bI,bL⟩:=made (w:=wz) a6 cJ (P6.cons cC P6.nil) (by simp[maxLen]) #[Pm k] rfl 1 rfl 14 PE (a.heap.size+1) rfl;have bn:PG a ((a.alloc (.cells #[Pm k] 22)).alloc (Qu 14 PE 0 (.slice (some (Pn a.heap.size 0)) 1 1))):=QK.alloc Qh _
 have⟨r,aJ⟩:=xE ((a.alloc (.cells #[Pm k] 22)).alloc (Qu 14 PE 0 (.slice (some (Pn a.heap.size 0)) 1 1)));have bH:(a.alloc (.cells #[Pm k] 22)).heap.size=a.heap.size+1:=by simp
 have⟨ay,aM⟩:=xE (a.heap.size+1);obtain⟨cA,bX,br⟩:=cp.nv;have aD:cA=a.heap.size+1:=by simpa[Pm] using bX.symm
 subst aD;have bP:r.heap.size=ay+1:=by rw[aJ,aM];simp
 rw[<-aJ] at br bI bL bn
 try rw[bH]
 rw[<-aM] at br
 try rw[<-aM]
 try rw[<-aJ]
 have C:=Open.fQ bK (Ap.of bn) p.out;have ap:=a1.next (Ap.of bn);have a8:=bI;have cG:=Open.apart n da.size bL p.out (P6.cons br P6.nil);obtain⟨bU,bW,aI⟩:=C.cell;clear bX aJ aM bH aQ aR aT aW aX;have bQ:=P6.length _ _ C.fS;have bR:=C.row;rw[bQ] at bR;have cn:=bR;have du:=ap.size;have dt:aO.fS.length<=3:=by rw[di.out];decide
 clear bQ;refine WB 10 λK b=>?_;refine step_append_lies _ rfl _ _ 38 rfl w.heap.size 22 b8 Rz 1 8 hX b6 b7 b3 b5 rfl PK _ _ _ rfl (cn.alloc _) (Pn (ay+1) 0) 1 1 [Pm ay] rfl rfl (TF r ay _ bP) (g8 ay) PK (by unfold maxLen;omega) Pv SC (r.heap.size+1) Qh ?_
 clear bP;intro cw cr M cz aE bJ _;refine b _ _ ?_;clear b K;have cx:=Y (nf C cG a8 ap cY.out cz aE bJ);have cy:M.cell? (Pn g 3)=r.cell? (Pn g 3)/\M.frozen? (Pn g 3)=r.frozen? (Pn g 3):=q0
 obtain⟨bG,bN⟩:=cy;rw[bU] at bG;rw[bW 3] at bN;clear bJ;refine wt 11 (Pm g) ?_;refine wt 12 (PZ g 3) ?_;refine WB 13 λK b=>?_;go_simp;refine b _ _ ?_;clear b K bG bN bU bW aI;refine hj Qz ?_ _;go_simp;have⟨ad,F,L⟩:=Pj cx;obtain⟨cS,aK⟩:∃cH:Tr,cH=.mk aO.kd aO.tx aO.n (aO.fS++[.mk 14 PE 0 [bD]]):=⟨_,rfl⟩;rw[<-aK] at ad;have dk:Hid (cS.fS.length=aO.fS.length+1):=by
  show _=_
  rw[aK];simp[Tr.fS]
 have dm:=Y aK;obtain⟨cE,uz,dx,bS,bq⟩:=ad.opens;have bY:cE=g:=by simpa[Pm] using bS.symm
 rw[bY] at bq;have⟨cU,bo⟩:=xE ((M.setCell (Pn g 3) (.slice (some (Pn cw 0)) (aO.fS.length+1) cr)));rw[<-bo] at bq F L;rw[<-bo];have n:=bq;clear bS bo bY aK;obtain⟨bE,cj,cV⟩:=n.cell;obtain⟨ci,uc,a7⟩:=n.shape;subst a7;have cX:cS.fS.length=3:=by rw[dk.out,c8.out,aY.out]
 rw[cX] at bE;clear cX;go_wp2;go_ret;have dp:=Pj ce;have dq:=Pj dv;have dr:=Pj dm;have cZ:=n.ev.nv;rw[dr,dq,dp] at cZ;exact UM rfl cZ F L):=Pq h;exact vE):=Pq h;exact pC
def ald (bL:Int)(cp:Nat)(bH:Rk m.l bv e (R+1)=.ga bL cp):PN 154 #[Qr m] w (Rt m w e (NV w.heap.size) (.ga bL cp)):=by
 have cG:=Y h.base.size;have f{G}(h:G:=by
 have f{G}(h:G:=by
 refine mE (H:=λa k=>Ap m.R E.heap.size E a/\QS m a R e/\QT (gz E.heap.size) a ak k) (G:=?G5) (λaH=>?_) ?_;rotate_left
 ·exact y9
 intro a k cx;obtain⟨u,q,ae⟩:=cx;have a1:=bF.next u;have a6:=q;have bK:=Open.fQ n u p.out;obtain⟨aQ,aR,aT⟩:=bK.cell;have aW:g<a.heap.size+1:=Pv;have aX:g<a.heap.size+1+1:=Pv;have⟨cr,bI,bN⟩:=made (w:=E) a6 u (P6.cons ae P6.nil) (by simp[maxLen]) #[Pm k] rfl 1 rfl 13 N (a.heap.size+1) rfl;have aM:PG a ((a.alloc (.cells #[Pm k] 22)).alloc (Qu 13 N 0 (.slice (some (Pn a.heap.size 0)) 1 1))):=QK.alloc Qh _
 have⟨r,aJ⟩:=xE ((a.alloc (.cells #[Pm k] 22)).alloc (Qu 13 N 0 (.slice (some (Pn a.heap.size 0)) 1 1)));have bG:(a.alloc (.cells #[Pm k] 22)).heap.size=a.heap.size+1:=by simp
 have⟨ay,aK⟩:=xE (a.heap.size+1);obtain⟨cE,bZ,bq⟩:=cr.nv;have aD:cE=a.heap.size+1:=by simpa[Pm] using bZ.symm
 subst aD;have bQ:r.heap.size=ay+1:=by rw[aJ,aK];simp
 rw[<-aJ] at bq bI bN aM
 try rw[bG]
 rw[<-aK] at bq
 try rw[<-aK]
 try rw[<-aJ]
 have C:=Open.fQ bK (Ap.of aM) p.out;have ap:=a1.next (Ap.of aM);have a8:=bI;have cJ:=Open.apart n bF.size bN p.out (P6.cons bq P6.nil);obtain⟨bX,bY,aI⟩:=C.cell;clear bZ aJ aK bG aQ aR aT aW aX;have bR:=P6.length _ _ C.fS;have bS:=C.row;rw[bR] at bS;have cY:=ap.size;have cX:B.fS.length<=3:=by rw[aY.out];decide
 clear bR;refine WB 11 λK b=>?_;refine step_append_lies _ rfl _ _ 38 rfl w.heap.size 22 b8 Rz 1 8 hX b6 b7 b3 b5 rfl PK _ _ _ rfl (bS.alloc _) (Pn (ay+1) 0) 1 1 [Pm ay] rfl rfl (TF r ay _ bQ) (g8 ay) PK (by unfold maxLen;omega) Pv SC (r.heap.size+1) Qh ?_
 clear bQ;intro cz cy M cC aE bJ _;refine b _ _ ?_;clear b K;have cA:=Y (nf C cJ a8 ap cG.out cC aE bJ);have cB:M.cell? (Pn g 3)=r.cell? (Pn g 3)/\M.frozen? (Pn g 3)=r.frozen? (Pn g 3):=q0
 obtain⟨bD,bP⟩:=cB;rw[bX] at bD;rw[bY 3] at bP;clear bJ;refine wt 12 (Pm g) ?_;refine wt 13 (PZ g 3) ?_;refine WB 14 λK b=>?_;go_simp;refine b _ _ ?_;clear b K bD bP bX bY aI;refine hj Qz ?_ _;go_simp;have⟨ad,F,L⟩:=Pj cA;obtain⟨bW,bn⟩:∃cS:Tr,cS=.mk B.kd B.tx B.n (B.fS++[.mk 13 N 0 [ak]]):=⟨_,rfl⟩;rw[<-bn] at ad;have cT:Hid (bW.fS.length=B.fS.length+1):=by
  show _=_
  rw[bn];simp[Tr.fS]
 obtain⟨cH,uz,cZ,bU,bo⟩:=ad.opens;have cn:cH=g:=by simpa[Pm] using bU.symm
 rw[cn] at bo;have⟨cw,aO⟩:=xE ((M.setCell (Pn g 3) (.slice (some (Pn cz 0)) (B.fS.length+1) cy)));rw[<-aO] at bo F L;rw[<-aO];have n:=bo;clear bU aO cn bn;have c:=Ua m Tq cw R e F b0 PK;go_wp2_with fail;refine cm c ?_;rintro j wz ⟨rfl,q,d⟩;have cq:=L.next d;replace n:=Open.fQ n (d) p.out;have cU:Hid (bW.fS.length=2):=by
  show _=_
  rw[cT.out,aY.out]
 have br:=SI bh bi wz.drew e (R+1) _ rfl (by rw[bH];nofun) q.drew
 rw[bH] at br;obtain⟨bE,cj,cV⟩:=n.cell;obtain⟨ci,uc,a7⟩:=n.shape;subst a7;go_wp2_with fail;refine wp_region_any Qz ?_;change wpAny _ _ _ _ _ _ _ (World.drew _);refine wt 0 (Pm g) ?_;refine wt 1 (Pm g) ?_;refine wt 2 (Pm g) ?_;refine wt 3 (PZ g 3) ?_;refine wt 5 (Qr m) ?_;refine hT 4 6 (λK b=>?_) λK b=>?_
 ·go_simp;refine U4 ?_;clear b K;refine WB 6 λK b=>?_;go_simp;refine cm br ?_;intro j a o;obtain⟨rfl,d⟩:=o;exact⟨rfl,Ry rfl (cq.drew.next d)⟩
 ·go_simp;refine cm br ?_;intro j a o;obtain⟨rfl,d⟩:=o;exact⟨rfl,Ry rfl (cq.drew.next d)⟩):=Pq h;exact vE):=Pq h;exact pC
