import Derived.Test.YticfnaiehdpbmaaGreatDoorFa5
import Derived.MapKept
import Derived.Deep.MidRow
import Derived.Laws.AppendOwnNone
import Derived.Recover
import Derived.Defers
set_option maxRecDepth 100000
set_option maxHeartbeats 0
set_option linter.all false
namespace Go.Proofs.YticfnaiehdpbmaaGreatDoor
open Go.RowKit Go.Proofs.Tryz
def W0 (a:List (Py × Px))(b:Py)(c:Px):(mapOf a).push { key:=Pj b,val:=c,born:=a.length }=mapOf (a++[(b,c)]):=by
 unfold mapOf;rw[lJ,gM];simp[tm,List.zipIdx]
def Rn (a:Pe)(b:Nat)(c:Obj):Pe:={ a with heap:=a.heap.setIfInBounds b c }
def WB (a:Pe)(b:Nat)(c:Obj):(Rn a b c).heap.size=a.heap.size:=by simp[Rn]
def Xc {b:Pe}{a:Nat}{c:Obj}(h:a<b.heap.size):(Rn b a c).heap[a]? = some c:=by simp[Rn,h]
def Rq {b:Pe}{c a:Nat}{d:Obj}(h:a≠c):(Rn b c d).heap[a]? = b.heap[a]?:=by simp[Rn,h6 h]
def WY {a:Nat}{d b:Pe}{c:Nat}{g:Obj}(h:Below a d b)(i:a<=c):Below a d (Rn b c g):=
 ⟨h.os,h.tape,h.output,by rw[WB];exact h.size,λf e=>by rw[Rq O9];exact h.block f e⟩
def wJ (m u:TypeId)(d:Nat)(b:List (Py × Px))(c:Py)(o:Px)(a:Pe)(q:prog.underlying m=some (.map 9 u))(n:a.heap[d]? = some (.map (mapOf b) b.length))(l:b.find? (λe=>decide (c=e.1))=none) :
  (Instr.mapUpdate m (.map (some d)) (Pj c) o).run prog a=.ok () (Rn a d (.map (mapOf (b++[(c,o)])) (b.length+1))):=by
 obtain⟨k,s,e⟩:=Ag c b 0 0;have j:=j2;have i{G}(h:G:=by
 have p:(Instr.findKey 9 (Pj c) (mapOf b).toList).run prog a=.ok none a:=by
  refine sy ?_;simp only[hM,mapOf];rw[s];rfl
 have r:∀ f,(Instr.checkKey f 10000 9 (Pj c)).run prog a=.ok () a:=tL
 have t:(getObj d).run prog a=.ok (.map (mapOf b) b.length) a:=by simp[getObj,Sem.run,n]
 unfold Instr.mapUpdate;rw[gR,ho q a];simp only[hM,gR,t,r,p];rw[W0];simp[setObj,Sem.run,n,Rn]):=O6 h;exact vR
def mkMap (b:TypeId)(a:Pe):(Instr.makeMap b none).run prog a=.ok (.map (some a.heap.size)) (a.alloc (.map #[] 0)):=rfl
def U2:Array Px:=(ZH.flatMap λa=>[Pj a.tx,O3 a.kd,O3 a.parts,O3 a.str]).toArray
def Gw:U2.size=56:=by decide +kernel
def I6 (a:Nat)(c:a<14)(b:Pe):(Instr.index 276 (.agg U2) (O3 (a:Int))).run prog b=.ok (jG (ZH.getD a ⟨O8,0,0,0⟩)) b:=by
 have h:a=0\/a=1\/a=2\/a=3\/a=4\/a=5\/a=6\/a=7\/a=8\/a=9\/a=10\/a=11\/a=12\/a=13:=O9
 rcases h with rfl|rfl|rfl|rfl|rfl|rfl|rfl|rfl|rfl|rfl|rfl|rfl|rfl|rfl <;> (show _=_;kernel_rfl)
def nA (b:Nat):List (Py × Px):=(ZH.take b).map λa=>(a.tx,jG a)
def L9 {a:Nat}(b:a<=14):(nA a).length=a:=by
 unfold nA;rw[gu,hC];have:ZH.length=14:=rfl;omega
def V8 {a:Nat}(b:a<14):nA (a+1)=nA a++[((ZH.getD a ⟨O8,0,0,0⟩).tx,jG (ZH.getD a ⟨O8,0,0,0⟩))]:=L5
def axN {a:Nat}(c:a<14):(nA a).find? (λb=>decide ((ZH.getD a ⟨O8,0,0,0⟩).tx=b.1))=none:=by
 have d:∀ a,a<14->((ZH.take a).map (·.tx)).find? (λb=>decide ((ZH.getD a ⟨O8,0,0,0⟩).tx=b))=none:=by decide +kernel
 have:=d a c;unfold nA;rw[jM] at this ⊢;simpa[jH] using this
def acH (b:Pe)(n:TypeId)(j:Nat × Nat)(k:b.heap[3]? = some (.cells U2 n j)) :
  Pq 146 #[] b λz o=>z=PK (.map (some b.heap.size))/\o.heap[b.heap.size]? = some (.map sN 14)/\Pn b o:=by
 have u:Hid ((b.alloc (.map #[] 0)).heap[3]? = some (.cells U2 n j)):=(gd b _ 3 (fI k)).trans k;obtain⟨f,d⟩:=xE U2;have v:∀ m:Nat,m<14->∀ p,(Instr.index 276 (.agg f) (O3 (m:Int))).run prog p=.ok (jG (ZH.getD m ⟨O8,0,0,0⟩)) p:=by rw[d];exact I6
 have r:f.size=56:=by rw[d];exact Gw
 rw[<-d] at u;have B:=Y v;have A:=Y r;have D:=mkMap 229;clear k v d r;go_enter func146,ntmps146
 go_wp2_with (refine jJ rfl 276 _ rfl 3 rfl n f j _ u.out underlying276 rfl (by rw[A.out];kernel_rfl) ?_)
 go_loopw [6] (λl wr=>∃ a:Nat,a<=14/\l=O3 a/\wr.heap[b.heap.size]? = some (.map (mapOf (nA a)) a)/\Pn b wr) (λl _=>14 - (intOf l).toNat)
 case atStart=>exact⟨0,f3 _,rfl,Ph _ _,QJ⟩
 case round=>
  obtain⟨a,C,rfl,q,c⟩:=hrel;have i:=Y q;clear q
  by_cases e:a<14
  ·have t:=O4 B a e;obtain⟨x,g⟩:=xH (ZH.getD a ⟨O8,0,0,0⟩);have s:(wr.alloc (.cells #[Pj x.tx,O3 x.kd,O3 x.parts,O3 x.str] 275)).heap[b.heap.size]? = some (.map (mapOf (nA a)) (nA a).length):=by
    rw[L9 O9];exact(gd _ _ _ (fI i.out)).trans i.out
   have w:=wJ 229 275 b.heap.size (nA a) x.tx (jG x) _ underlying229 s (by rw[g.out];exact axN e)
   rw[<-g.out] at t;simp only[jG] at t w;clear s;go_wp2
   go_roundw
   case rel=>
    refine⟨a+1,by omega,by go_num,?_,WY (c.alloc c.size _) Qp⟩;rw[Xc (by simp;have:=c.size;omega),V8 e,<-g.out,L9 O9]
    rfl
   case measure=>simp[intOf];omega
  ·have g:a=14:=O9;subst g;go_wp2;go_ret;exact⟨rfl,i.out,c⟩
def RR (b:Pe)(a:Nat)(d c:Obj):Rn (Rn b a d) a c=Rn b a c:=by simp[Rn]
def upd (d g:TypeId)(b:Nat)(e:Pe)(a:List (Py × Px))(c:Py)(f:Px)(k:prog.underlying d=some (.map 9 g))(i:b<e.heap.size)(j:a.find? (λl=>decide (c=l.1))=none) :
  (Instr.mapUpdate d (.map (some b)) (Pj c) f).run prog (Rn e b (.map (mapOf a) a.length))=.ok () (Rn e b (.map (mapOf (a++[(c,f)])) (a.length+1))):=by
 rw[wJ d g b a c f _ k (Xc i) j,RR]
def aMH (c f:TypeId)(b:Nat)(a:Pe)(d:Py)(e:Px)(i:prog.underlying c=some (.map 9 f))(g:a.heap[b]? = some (.map #[] 0)) :
  (Instr.mapUpdate c (.map (some b)) (Pj d) e).run prog a=.ok () (Rn a b (.map (mapOf [(d,e)]) 1)):=
 wJ c f b [] d e a i g rfl
def lO {q p:Pe}{i:Nat}{b:List (Py × Px)}(aU:q=Rn p i (.map (mapOf b) b.length))(aS:i<p.heap.size)(j:Py)(D E:Nat)(aV:b.find? (λs=>decide (j=s.1))=none:=by rfl) :
  ∃ r,r=Rn p i (.map (mapOf (b++[(j,.func (.func E) #[PL D 0] #[])])) (b++[(j,Value.func (.func E) #[PL D 0] #[])]).length)/\(Instr.mapUpdate 231 (.map (some i)) (Pj j) (.func (.func E) #[PL D 0] #[])).run prog q=.ok () r:=⟨_,rfl,by rw[aU,upd 231 281 i p b j _ lM aS aV,gj];rfl⟩
def IK {a:Pe}{b:Nat}(g:a.heap[b]? = some (.map #[] 0))(c:Py)(d e:Nat) :
  ∃ f,f=Rn a b (.map (mapOf [(c,.func (.func e) #[PL d 0] #[])]) [(c,Value.func (.func e) #[PL d 0] #[])].length)/\(Instr.mapUpdate 231 (.map (some b)) (Pj c) (.func (.func e) #[PL d 0] #[])).run prog a=.ok () f:=⟨_,rfl,aMH 231 281 b a c _ lM g⟩
def aKt (a:Pe)(b:Obj):((a.alloc b).alloc (.map #[] 0)).heap[a.heap.size+1]? = some (.map #[] 0):=by
 have:=Ph (a.alloc b) (.map #[] 0);simpa using this
def So (a:Pe)(b:Nat)(h:a.heap.size=b):(a.alloc (.map #[] 0)).heap[b]? = some (.map #[] 0):=by rw[<-h];exact Ph _ _
def UI {b j f n Z c:Pe}{d:List Tk}{g i R e:Nat}{q:Array Px}(O:Ends d)(S:0<d.length)(U:d.length<=3001)(t:b.heap[g]? = some (PZ q 144))(T:d.length<=i/\i<=maxLen/\q.size=i * 4/\q.toList.take (d.length * 4)=Sj d)
  (r:∃ s a,b.heap[4]? = some (.cells Vp s a)) (v:j.heap[e]? = some (.map sN 14)) (ai:e=b.heap.size) (k:Pn b j) (u:R=j.heap.size)
  (o:f=Rn ((j.alloc (.cells #[.slice (some (O7 g 0)) d.length i,O3 0,O3 0,.map (some e),.map none,.map none] 233)).alloc (.map #[] 0)) (R+1) (.map (rz R) 12))
  (p:n=f.setCell (O7 R 4) (.map (some (R+1)))) (m:Z=Rn (n.alloc (.map #[] 0)) (R+2) (.map (uS R) 3)) (l:c=Z.setCell (O7 R 5) (.map (some (R+2)))) :
  QC ⟨R,d,g,i,e,R+1,R+2,R+3⟩ c 0 0/\Pn b c:=by
 have P:=k.size;have E:=fI t;obtain⟨ac,A,r⟩:=r;have D:=fI r;have ak:=fI v;have L:f.heap.size=R+2:=by rw[o,WB,u];simp
 have M:n.heap.size=R+2:=by rw[p,j9,L]
 have N:Z.heap.size=R+3:=by rw[m,WB];simp[M]
 have aj:c.heap.size=R+3:=by rw[l,j9,N]
 have W:∀ a,a<R->f.heap[a]? = j.heap[a]?:=λa k=>by
  rw[o,Rq O9,gd _ _ a RQ,gd _ _ a O9]
 have ad:f.heap[R]? = some (PZ #[.slice (some (O7 g 0)) d.length i,O3 0,O3 0,.map (some e),.map none,.map none] 233):=by
  rw[o,Rq O9,gd _ _ R RQ,u];exact Ph _ _
 have X:f.heap[R+1]? = some (.map (rz R) 12):=by rw[o,Xc RQ]
 have z:∀ a,a<R->c.heap[a]? = j.heap[a]?:=λa k=>by
  rw[l,g1 Z (O7 R 5) _ a RQ,m,Rq O9,gd _ _ a O9,p,g1 f (O7 R 4) _ a RQ];exact W a k
 have ah:Z.heap[R]? = some (PZ #[.slice (some (O7 g 0)) d.length i,O3 0,O3 0,.map (some e),.map (some (R+1)),.map none] 233):=by
  rw[m,Rq O9,gd _ _ R O9,p,gi ad];rfl
 have F:c.heap[R]? = some (PZ #[.slice (some (O7 g 0)) d.length i,O3 0,O3 0,.map (some e),.map (some (R+1)),.map (some (R+2))] 233):=by
  rw[l,gi ah];rfl
 have H:c.heap[R+1]? = some (.map (rz R) 12):=by
  rw[l,g1 Z (O7 R 5) _ (R+1) P7,m,Rq O9,gd _ _ (R+1) O9,p,g1 f (O7 R 4) _ (R+1) P7];exact X
 have I:c.heap[R+2]? = some (.map (uS R) 3):=by
  rw[l,g1 Z (O7 R 5) _ (R+2) P7,m,Xc RQ]
 have w:∀ a,a<b.heap.size->c.heap[a]? = b.heap[a]?:=λa h=>(z a O9).trans (k.block a h);refine⟨⟨⟨O,⟨q,(w g E).trans t,T⟩,?_,(z e O9).trans v,?_,H,?_,I,?_,U,⟨ac,A,(w 4 D).trans r⟩,?_,?_,?_⟩,F,S,by decide⟩,?_⟩
 ·show g≠R;omega
 ·show e≠R;omega
 ·show R+1≠R;omega
 ·show R+2≠R;omega
 ·show 4≠R;omega
 ·show g<R+3/\e<R+3/\R+1<R+3/\R+2<R+3/\4<R+3/\R<R+3;omega
 ·show R+3<=c.heap.size;omega
 ·have B:Pn b f:=by rw[o];exact WY ((k.alloc P _).alloc RQ _) O9
  have s:Pn b n:=by rw[p];exact B.setCell (p:=(O7 R 4)) (by show b.heap.size<=R;omega) _
  have C:Pn b Z:=by rw[m];exact WY (s.alloc s.size _) O9
  rw[l];exact C.setCell (p:=(O7 R 5)) (by show b.heap.size<=R;omega) _
def Vv (c:Pe)(b:List Tk)(f e:Nat)(v:Array Px)(aI:Ends b)(am:0<b.length)(ax:b.length<=3001)(aj:c.heap[f]? = some (PZ v 144))(ap:b.length<=e/\e<=maxLen/\v.size=e * 4/\v.toList.take (b.length * 4)=Sj b)
  (au:∃ A z,c.heap[4]? = some (.cells Vp A z)) (l:∃ A z,c.heap[3]? = some (.cells U2 A z)) :
  Pq 70 #[.slice (some (O7 f 0)) b.length e] c λs F=>∃ k:gy,s=PK (Qi k)/\k.l=b/\c.heap.size<=k.R/\QC k F 0 0/\Pn c F:=by
 obtain⟨aQ,aC,l⟩:=l;have aJ:=acH c aQ aC l;have H:=λ(a q r Z aG:Pe) (R:Nat)=>UI (b:=c) (j:=a) (f:=q) (n:=r) (Z:=Z) (c:=aG) (R:=R) (e:=c.heap.size) aI am ax aj ap au;have aF:=Y H;have bu:=mkMap 231;clear l H am ax aj ap au;go_enter func70,ntmps70;go_wp2_with fail;refine cm aJ ?_;rintro s a ⟨rfl,ay,ak⟩;have aN:=Y ay;clear ay;have u:=aKt a (.cells #[.slice (some (O7 f 0)) b.length e,O3 0,O3 0,.map (some c.heap.size),.map none,.map none] 233);have d:=fI u
 obtain⟨a1,P,u1⟩:=IK u y8 a.heap.size 147;obtain⟨a8,U,u2⟩:=lO P d x8 a.heap.size 147;obtain⟨ba,W,u3⟩:=lO U d vH a.heap.size 147;obtain⟨bc,X,u4⟩:=lO W d QL a.heap.size 148;obtain⟨be,ac,u5⟩:=lO X d TT a.heap.size 149;obtain⟨bf,ad,u6⟩:=lO ac d Q9 a.heap.size 150;obtain⟨bh,I,u7⟩:=lO ad d wU a.heap.size 151;obtain⟨bi,L,u8⟩:=lO I d yj a.heap.size 152;obtain⟨bj,M,u9⟩:=lO L d yQ a.heap.size 152
 obtain⟨a6,S,u10⟩:=lO M d yV a.heap.size 153;obtain⟨a7,T,u11⟩:=lO S d xF a.heap.size 153;obtain⟨g,o,u12⟩:=lO T d md a.heap.size 154;have m:g.heap[a.heap.size]? = some (.cells #[.slice (some (O7 f 0)) b.length e,O3 0,O3 0,.map (some c.heap.size),.map none,.map none] 233):=by rw[o,Rq O9,gd _ _ _ P7];exact Ph _ _
 have ai:g.heap.size=a.heap.size+2:=by rw[o,WB];simp
 have ah:(g.setCell (O7 a.heap.size 4) (.map (some (a.heap.size+1)))).heap[a.heap.size]? = some (.cells #[.slice (some (O7 f 0)) b.length e,O3 0,O3 0,.map (some c.heap.size),.map (some (a.heap.size+1)),.map none] 233):=by rw[gi m];rfl
 have w:=So (g.setCell (O7 a.heap.size 4) (.map (some (a.heap.size+1)))) (a.heap.size+2) (by rw[j9,ai]);have B:=fI w;obtain⟨aW,N,bo⟩:=IK w Rz a.heap.size 155;obtain⟨aX,O,bq⟩:=lO N B TT a.heap.size 156;obtain⟨n,t,br⟩:=lO O B QL a.heap.size 157
 have C:n.heap[a.heap.size]? = some (.cells #[.slice (some (O7 f 0)) b.length e,O3 0,O3 0,.map (some c.heap.size),.map (some (a.heap.size+1)),.map none] 233):=by rw[t,Rq O9,gd _ _ _ (by rw[j9,ai];omega)];exact ah
 have bm:g.cell? (O7 a.heap.size 4)=some (.map none):=by rw[cell_of m];rfl
 have aY:=TB m 4;have bn:n.cell? (O7 a.heap.size 5)=some (.map none):=by rw[cell_of C];rfl
 have aZ:=TB C 5;have aD:=Y (aF.out a g _ n (n.setCell (O7 a.heap.size 5) (.map (some (a.heap.size+2)))) a.heap.size aN.out (by first|rfl|trivial) ak rfl (by rw[o];rfl) rfl (by rw[t];rfl) rfl)
 have aO:Hid (c.heap.size<=a.heap.size):=ak.size;clear P U W X ac ad I L M S T o N O t m ah C u w d B;go_wp2;go_ret;obtain⟨aK,aL⟩:=O4 aD;exact⟨_,rfl,rfl,aO.out,aK,aL⟩
def ajL {e:gy}{k:Um}(U:FC e k)(aj:∃ j,jW e.l j k)(aJ:pf k)(w:Pe)(s:PR Tr)(v:Wh e.l k=s)(T:s≠.out)(h:QC e w 0 0):Pq 71 #[Qi e] w (QT e w 0 (NV w.heap.size) s):=by
 have bj:=RD e.R 160;have bh:=h.base.ends;have aL:=Y h.base.len;have b{G}(h:G:=by
 have b{G}(h:G:=by
 have aO:=Y aj;unfold Wh at v;have aK:=Y v;have B:=Y T;clear v T aj;go_enter func71,ntmps71;go_wp2_with fail
 go_loopw [3] (λa wr=>∃ j g i,(Sl e.l k j g i).bind (λP L=>PR.ok (VJ (.mk 1 O8 0 P)) L)=s/\QC e wr i 0/\Ap e.R w.heap.size w wr/\KV w.heap.size wr g a/\g.length<=i/\∀ n ∈ g,n.kd=15->∃ a s,n.fJ=a::s) (λ_ wr=>e.l.length - pC e wr)
 case atStart=>exact⟨k.fuel,[],0,aK.out,h,R,KV.nil _ _,f3 _,λ_ r=>absurd r P7⟩
 case round=>
  obtain⟨j,g,i,l,c,ai,O,z,ak⟩:=hrel;have S:=Y ak;clear ak h
  cases j with
  | zero=>exact absurd l.symm B.out
  | succ j=>
   have a1:=O4 aL;have aQ:=c.lt;have aD:=c;have aS:=c;have aG:=Y z;have bi:=ty (Qe e.l i)
   by_cases t:(Qe e.l i).kd=6
   ·have a:Hid (PR.ok (VJ (.mk 1 O8 0 g)) i=s):=by
     unfold Sl at l;rw[fL t,gb] at l;exact l
    have am:((Qe e.l i).kd != 6)=false:=by rw[t];rfl
    have d:=Ti e wr i 0 c;unfold ke at d;obtain⟨ap,X,rfl⟩:=O.shape;clear l z t;have b{G}(h:G:=by
    have C:=KV.fH O (Ap.of H) o.out;have d:=QA 1 O8 (.slice ap g.length X) u ⟨_,_,_,rfl⟩;go_wp2_with fail;refine cm d ?_;rintro m au ⟨rfl,rfl⟩;obtain⟨I,N,ac⟩:=o5 A F C 1 O8 _ rfl;have d:=Ze w.heap.size (.mk 1 O8 0 g) (O5 u.heap.size) _ I (λf q ad ah=>O4 S f (by have W:g=f::q:=ad;rw[W];simp) ah)
    go_wp2_with fail;refine cm d ?_;rintro m aC ⟨rfl,D,p⟩;have E:=N.ap p aN.out;have M:=ac.trans (Ap.of p);go_wp2;go_ret;exact Uz a.out.symm D.nv E M):=O6 h;exact q9
   ·have a:Hid ((Qw e.l k.st 0 i).bind (λn D=>(Sl e.l k j (g++[n]) D).bind λP L=>PR.ok (VJ (.mk 1 O8 0 P)) L)=s):=by
     unfold Sl at l;rw[fK t] at l;rw[<-l]
     cases Qw e.l k.st 0 i <;> rfl
    have am:((Qe e.l i).kd != 6)=true:=bne_iff_ne.2 t;have d:=Ti e wr i 0 c;unfold ke at d;clear l z t
    cases X:Qw e.l k.st 0 i with
    | out=>
     exact x7
    | f0 D I=>
     have q:=Y X;rw[X] at a;simp only[QK] at a;clear X;have b{G}(h:G:=by
     have d:=oS U u 0 i A (by rw[q.out];nofun)
     exact I5):=O6 h;exact q9
    | ok n D=>
     have q:=Y X;rw[X] at a;simp only[gb] at a;clear X;have b{G}(h:G:=by
     have C:=KV.fH O (Ap.of H) o.out;have d:=oS U u 0 i A (by rw[q.out];nofun)
     have b{G}(h:G:=by
     have bm:i<D:=by
      obtain⟨ac,W⟩:=O4 aO;exact((Sv (a:=e.l) (b:=0) (W.st (0+1) i aQ)).2 n D q.out).1
     have b{G}(h:G:=by
     go_roundw
     case rel=>exact⟨j,g++[n],D,a.out,E,M,aF,by simp;omega,λaU r=>by
       rcases gU.1 r with r|r
       ·exact O4 S aU r
       ·rw[gc] at r;subst r;exact aJ _ _ _ _ (Ly q.out)⟩
     case measure=>rw[VD E,VD aS];omega):=O6 h;exact F0):=O6 h;exact JL):=O6 h;exact q9):=O6 h;exact kM):=O6 h;exact qj
def kQ (g i:Addr)(a:Pe) :
  CallsD prog 69 #[.pointer (some g),.pointer (some i)] .returning a λe f b=>e=PK (.tuple #[])/\f=.returning/\b=a:=by
 refine callsD_of_wpS func69 rfl λd₀ j c=>?_;apply iJ;apply km;simp[wpOpsS,go_sem,recoverD,c,ntmps69,Exit.thenS];apply iJ;apply iJ;apply km;simp[wpOpsS,go_sem,Exit.thenS];refine wpS_cond (t:=true) (by simp[Act.eval,Array.replicate]) ?_;simp only[hz];refine wpS_of_wp ?_;refine wp_ret ?_;cases d₀
 simp_all [bodyPostS,results,results69,Exit.thenS]
def RL (a b:Nat)(d:Int)(e:Nat)(c:Pe)(k l:Px)(t:c.cell? (O7 a 0)=some k)(p:∀ g,c.frozen? (O7 a g)=false)(s:c.cell? (O7 b 0)=some l)(q:∀ g,c.frozen? (O7 b g)=false)(r:¬ b=a)(v:a<c.heap.size)(z:b<c.heap.size) :
  CallsD prog 69 #[PL a 0,PL b 0] (.panicking (pV d e)) c λm n j=>
   m=PK (.tuple #[])/\n=.panicking [{ v:=.iface 148 (.agg #[O3 d,O3 (e:Int)]),recovered:=true }]/\j=((((c.setCell (O7 a 0) Ry).setCell (O7 b 0) (.iface 150 (PL (c.heap.size+1) 0))).alloc (.cells #[O3 d,O3 (e:Int)] 148)).alloc (.cells #[O3 d,O3 (e:Int)] 152)).drew:=by
 refine callsD_of_wpS func69 rfl λu₀ w i=>?_;unfold pV at i;have o:∀ f:Pe,(Instr.typeAssert (.iface 148 (.agg #[O3 d,O3 (e:Int)])) 20 148 true).run prog f=.ok (.tuple #[.agg #[O3 d,O3 (e:Int)],Pv true]) f:=λf=>by kernel_rfl
 rw[ntmps69];rw[show (#[PL a 0,PL b 0]:Array Px)++Array.replicate (23 - (#[PL a 0,PL b 0]:Array Px).size) undef=#[PL a 0,PL b 0,undef,undef,undef,undef,undef,undef,undef,undef,undef,undef,undef,undef,undef,undef,undef,undef,undef,undef,undef,undef,undef] from by kernel_rfl];apply iJ;apply km;simp[wpOpsS,go_sem,recoverD,i,Exit.thenS];apply iJ;apply iJ;apply km;simp[wpOpsS,go_sem,Exit.thenS];refine wpS_cond (t:=false) (by simp[Act.eval]) ?_;simp only[iI,iC]
 refine wpS_of_wp (wp_skip ?_);simp only[Exit.thenS];apply iJ;apply km;simp[wpOpsS,go_sem,Exit.thenS,o];apply iJ;refine wpS_of_wp ?_;go_wp2_with fail;simp only[Exit.thenS];refine wpS_of_wp ?_
 go_region
 simp[bodyPostS,results,results69]
def r7 (g:PR Tr)(b:Pe)(d:Ending)(a:Pe):Prop:=
 match g with
 | .ok e _=>∃ c,d=PK (.tuple #[O5 c,.nilIface])/\Qa (gp b.heap.size) a e c/\Pn b a
 | .f0 e f=>∃ c,d=PK (.tuple #[.pointer none,.iface 150 (PL c 0)])/\a.heap[c]? = some (PZ #[O3 e,O3 (f:Int)] 152)/\b.heap.size<=c/\Pn b a
 | .out=>True
abbrev RW (a:Pe):Pe:=(a.alloc (.cells #[.pointer none] 22)).alloc (.cells #[.nilIface] 31)
def PT (a:Pe)(e:List Tk)(v q:Nat)(u:Tr)(s:Nat)
  (m:Pq 70 #[.slice (some (O7 v 0)) e.length q] (RW a) λf b=>∃ c:gy,f=PK (Qi c)/\c.l=e/\(RW a).heap.size<=c.R/\QC c b 0 0/\Below (RW a).heap.size (RW a) b)
  (HP:∀ (c:gy) (b:Pe),c.l=e->QC c b 0 0->Pq 71 #[Qi c] b (QT c b 0 (NV b.heap.size) (.ok u s))) :
  Pq 34 #[.slice (some (O7 v 0)) e.length q] a (r7 (.ok u s) a):=by
 have k{G}(h:G:=by
 obtain⟨⟨P,rfl,t,rfl,M⟩,A,n⟩:=z;have k{G}(h:G:=by
 clear j g HP D I H;go_wp2_with fail;refine leaves_cons (f:=69) (args:=#[PL a.heap.size 0,PL (a.heap.size+1) 0]) P7 (by simp[go_sem]) ?_;refine(kQ (O7 a.heap.size 0) (O7 (a.heap.size+1) 0) _).mono ?_;rintro f O N ⟨rfl,rfl,rfl⟩
 show Leaves _ _ _ _ [] .returning _
 refine⟨.tuple #[O5 t,QW],by simp[results,results34,go_sem,E,F],t,rfl,?_,?_⟩
 ·refine Qa.mono (J:=gp a.heap.size) (λd l _=>?_) _ _ (Qa.fH (I:=λd=>i.heap.size<=d) (λd l _=>?_) _ _ M)
  ·have p:=O4 C;have L:i.heap.size<=d:=l
   show a.heap.size<=d
   omega
  ·have p:=O4 C;have L:i.heap.size<=d:=l;rw[g1 _ (O7 (a.heap.size+1) 0) _ d (by show d≠a.heap.size+1;omega),g1 _ (O7 a.heap.size 0) _ d (by show d≠a.heap.size;omega)]
 ·exact(r.setCell (p:=(O7 a.heap.size 0)) Qp _).setCell (p:=(O7 (a.heap.size+1) 0)) (ge _) _):=O6 h;exact Jp):=O6 h;exact JR
def atL (a:Pe)(l:List Tk)(v u:Nat)(d:Int)(e:Nat)
  (m:Pq 70 #[.slice (some (O7 v 0)) l.length u] (RW a) λf b=>∃ c:gy,f=PK (Qi c)/\c.l=l/\(RW a).heap.size<=c.R/\QC c b 0 0/\Below (RW a).heap.size (RW a) b)
  (HP:∀ (c:gy) (b:Pe),c.l=l->QC c b 0 0->Pq 71 #[Qi c] b (QT c b 0 (NV b.heap.size) (.f0 d e))) :
  Pq 34 #[.slice (some (O7 v 0)) l.length u] a (r7 (.f0 d e) a):=by
 have k{G}(h:G:=by
 obtain⟨rfl,n⟩:=z;have k{G}(h:G:=by
 have N:a.heap.size+1<b.heap.size:=fI g;have M:=Y j;have L:=Y g;clear j g HP D I H;refine leaves_cons (f:=69) (args:=#[PL a.heap.size 0,PL (a.heap.size+1) 0]) P7 (by simp[go_sem]) ?_;refine(RL a.heap.size (a.heap.size+1) d e b _ _ E T F S O9 O9 N).mono ?_;rintro f ac W ⟨rfl,rfl,rfl⟩
 show Leaves _ _ _ _ [] .returning _
 have P:((((b.setCell (O7 a.heap.size 0) Ry).setCell (O7 (a.heap.size+1) 0) (.iface 150 (PL (b.heap.size+1) 0))).alloc (.cells #[O3 d,O3 (e:Int)] 148)).alloc (.cells #[O3 d,O3 (e:Int)] 152)).drew.heap[a.heap.size]? = some (PZ #[Ry] 22):=by
  show ((((b.setCell (O7 a.heap.size 0) Ry).setCell (O7 (a.heap.size+1) 0) (.iface 150 (PL (b.heap.size+1) 0))).alloc (.cells #[O3 d,O3 (e:Int)] 148)).alloc (.cells #[O3 d,O3 (e:Int)] 152)).heap[a.heap.size]? = _
  rw[gd _ _ _ RQ,gd _ _ _ RQ,g1 _ (O7 (a.heap.size+1) 0) _ _ (by show a.heap.size≠a.heap.size+1;omega),gi M.out]
  rfl
 have O:((((b.setCell (O7 a.heap.size 0) Ry).setCell (O7 (a.heap.size+1) 0) (.iface 150 (PL (b.heap.size+1) 0))).alloc (.cells #[O3 d,O3 (e:Int)] 148)).alloc (.cells #[O3 d,O3 (e:Int)] 152)).drew.heap[a.heap.size+1]? = some (PZ #[.iface 150 (PL (b.heap.size+1) 0)] 31):=by
  show ((((b.setCell (O7 a.heap.size 0) Ry).setCell (O7 (a.heap.size+1) 0) (.iface 150 (PL (b.heap.size+1) 0))).alloc (.cells #[O3 d,O3 (e:Int)] 148)).alloc (.cells #[O3 d,O3 (e:Int)] 152)).heap[a.heap.size+1]? = _
  have q:(b.setCell (O7 a.heap.size 0) Ry).heap[a.heap.size+1]? = some (PZ #[QW] 31):=by
   rw[g1 _ (O7 a.heap.size 0) _ _ (by show a.heap.size+1≠a.heap.size;omega)];exact O4 L
  rw[gd _ _ _ RQ,gd _ _ _ RQ,gi q];rfl
 have t:((((b.setCell (O7 a.heap.size 0) Ry).setCell (O7 (a.heap.size+1) 0) (.iface 150 (PL (b.heap.size+1) 0))).alloc (.cells #[O3 d,O3 (e:Int)] 148)).alloc (.cells #[O3 d,O3 (e:Int)] 152)).drew.cell? (O7 a.heap.size 0)=some Ry:=by rw[cell_of P];rfl
 have s:((((b.setCell (O7 a.heap.size 0) Ry).setCell (O7 (a.heap.size+1) 0) (.iface 150 (PL (b.heap.size+1) 0))).alloc (.cells #[O3 d,O3 (e:Int)] 148)).alloc (.cells #[O3 d,O3 (e:Int)] 152)).drew.cell? (O7 (a.heap.size+1) 0)=some (.iface 150 (PL (b.heap.size+1) 0)):=by rw[cell_of O];rfl
 obtain⟨X,p⟩:=xE (((((b.setCell (O7 a.heap.size 0) Ry).setCell (O7 (a.heap.size+1) 0) (.iface 150 (PL (b.heap.size+1) 0))).alloc (.cells #[O3 d,O3 (e:Int)] 148)).alloc (.cells #[O3 d,O3 (e:Int)] 152)).drew);rw[<-p] at t s;rw[<-p];refine⟨.tuple #[Ry,.iface 150 (PL (b.heap.size+1) 0)],by simp[results,results34,go_sem,t,s],b.heap.size+1,rfl,?_,by omega,?_⟩
 all_goals rw[p]
 ·have:=Ph (((b.setCell (O7 a.heap.size 0) Ry).setCell (O7 (a.heap.size+1) 0) (.iface 150 (PL (b.heap.size+1) 0))).alloc (.cells #[O3 d,O3 (e:Int)] 148)) (.cells #[O3 d,O3 (e:Int)] 152);rw[show ((((b.setCell (O7 a.heap.size 0) Ry).setCell (O7 (a.heap.size+1) 0) (.iface 150 (PL (b.heap.size+1) 0))).alloc (.cells #[O3 d,O3 (e:Int)] 148)).heap.size)=b.heap.size+1 by simp] at this;exact this
 ·have q:=r.size;exact(((((r.setCell (p:=(O7 a.heap.size 0)) Qp _).setCell (p:=(O7 (a.heap.size+1) 0)) (ge _) _).alloc (by simpa using q) _).alloc RQ _).drew)):=O6 h;exact Jp):=O6 h;exact JR
def XG {e:gy}(f:Nat)(I:WM f)(w:Pe)(c n:Nat)(o:PR Tr)(bA:o≠.out)(r:Nat)(q:RI U5 (fx e.l n)=some r)(b8:vY r=f)(i:∀ a,QC e a n c->Pq f #[Qi e] a (QT e a c (NV a.heap.size) o))(h:QC e w n c) :
  Pq 160 #[Qi e] w (QT e w c (NV w.heap.size) o):=by
 have s:Hid (∀ a:Pe,QC e a n c->(Instr.lookup 231 (.map (some e.mT)) (Pj (fx e.l n)) true).run prog a=.ok (.tuple #[.func (.func f) #[PL e.R 0] #[],Pv true]) a):=λa g=>by
  have:=Jz e (fx e.l n) a g.base.Ku;rw[q] at this;simp only[Fy,b8] at this;exact this
 have A:=h;have R:=Ap.refl e.R w.heap.size w;have HP:=Y i;have t:=Y bA;clear h bA q b8 i;have b{G}(h:G:=by
 refine wg 3 (.map (some e.mT)) rfl (fM ⟨by kernel_rfl,λa g=>by have B:=QC.c4 g;go_simp⟩) A.drew ?_
 exact Iq):=O6 h;exact FS
def axX {e:gy}{D:Um}(O:FC e D)(w:Pe)(c n:Nat)(I:PR Tr)(ay:o3 e.l D c n=I)(bA:I≠.out)(N:RI U5 (fx e.l n)=none)(h:QC e w n c):Pq 160 #[Qi e] w (QT e w c (NV w.heap.size) I):=by
 have aF:=RD e.R 224;have ax:Hid (∀ a:Pe,QC e a n c->(Instr.lookup 231 (.map (some e.mT)) (Pj (fx e.l n)) true).run prog a=.ok (.tuple #[.nilFunc,Pv false]) a):=λa s=>by
  have:=Jz e (fx e.l n) a s.base.Ku;rw[N] at this;exact this
 clear N;have A:=h;have b{G}(h:G:=by
 unfold o3 at ay;have i:=Y ay;have B:=Y bA;clear h ay bA;have b{G}(h:G:=by
 refine wg 3 (.map (some e.mT)) rfl (fM ⟨by kernel_rfl,λa s=>by have T:=QC.c4 s;go_simp⟩) A.drew ?_
 have b{G}(h:G:=by
 cases X:Qw e.l D.vl c n with
 | out=>
  exact Tc
 | f0 ak ap=>
  have d:=WA O U c n l (by rw[X];nofun)
  exact xp
 | ok au E=>
  have d:=WA O U c n l (by rw[X];nofun)
  have b{G}(h:G:=by
  have b{G}(h:G:=by
  have t:=C.next f;have ac:=g;have H:=Ub F C.size
  cases X:Qm e.l Q9 E with
  | out=>
   exact Tc
  | f0 ak ap=>
   have d:=Qh e Q9 q E c ac Pm;exact rN
  | ok aD aC=>
   have d:=Qh e Q9 q E c ac Pm;have b{G}(h:G:=by
   intro m M p;obtain⟨⟨aG,rfl,rfl⟩,g,f⟩:=p;have am:=t.next f;replace H:=TP H f o.out;have d:=QA 15 O8 (.slice (some (O7 M.heap.size 0)) 1 1) (M.alloc (.cells #[O5 r] 22)) ⟨_,_,_,rfl⟩;have b{G}(h:G:=by
   obtain⟨ad,ai,aj⟩:=made g am (PE.cons H PE.nil) (by simp[maxLen]) #[O5 r] rfl 1 rfl 15 O8 (M.heap.size+1) rfl;exact Uz i.out.symm ad.nv ai aj):=O6 h;exact lS):=O6 h;exact YU):=O6 h;exact nP):=O6 h;exact YU):=O6 h;exact C8):=O6 h;exact FS):=O6 h;exact kM
def QR {e:gy}{bv:Um}(bY:FC e bv)(w:Pe)(q n:Nat)(bV:PR Tr)(b3:(Qe e.l n).kd≠6)(ay:oB e.l bv q n=bV)(bA:bV≠.out)(h:QC e w n q):Pq 147 #[Qi e] w (QT e w q (NV w.heap.size) bV):=by
 have cI:=RD e.R 224;have cf:=Y b3;have b{G}(h:G:=by
 clear b3;have b9:=h;have b{G}(h:G:=by
 unfold oB at ay;have i:=Y ay;have B:=Y bA;clear h ay bA;go_enter func147,ntmps147;have b{G}(h:G:=by
 cases X:gC e.l (n+1) with
 | out=>
  exact Tc
 | f0 bo br=>
  have d:=gH e wk (n+1) q b1;exact EP
 | ok bx A=>
  have d:=gH e wk (n+1) q b1;have b{G}(h:G:=by
  intro m bW p;obtain⟨⟨cK,rfl,rfl⟩,z,f⟩:=p;have cq:=ba.next f;have cl:=z;have d:=QA E bx Q8 bW ⟨_,_,_,rfl⟩;go_wp2_with fail;refine cm d ?_;rintro m cC ⟨rfl,rfl⟩;obtain⟨T,ac,ah⟩:=o5 cl cq (KV.nil _ _) E bx _ rfl;obtain⟨aJ,aC⟩:=xE (.mk E bx 0 []:Tr);have b{G}(h:G:=by
  have aD:g=bW.heap.size:=by simpa[O5] using b2.symm
  have b{G}(h:G:=by
  obtain⟨bM,bT⟩:=xE (bW.alloc (Qc E bx 0 Q8));rw[<-bT] at au aj U aQ a6;rw[<-aD] at au aQ a6;rw[<-bT,<-aD];clear bT aD
  by_cases aK:E=4
  ·have cr:(E==4)=true:=jL.2 aK;have d:=TN e bM A q aj
   by_cases aS:fx e.l A=iX
   ·rw[fK (λbR=>bR.2 aS)] at i;have cw:((fx e.l A).toList==[61])=true:=VL (a:=iX) rfl aS;clear aK;have b{G}(h:G:=by
    clear aS
    by_cases bi:fx e.l A=iX
    ·rw[fL bi] at i;have d:=TM e iX wf A q aF bi Pm;clear bi;go_wp2_with fail;refine cm d ?_;rintro m s ⟨rfl,bG,bn⟩;have aG:=bG;have am:=aI.next bn;replace k:=Open.fH k bn o.out;have b{G}(h:G:=by
     cases X:Qw e.l bv.vl q (A+1) with
     | out=>
      exact Tc
     | f0 bo br=>
      exact Hw
     | ok bq C=>
      have d:=WA bY s.drew q (A+1) aG.drew (by rw[X];nofun)
      have b{G}(h:G:=by
      refine mv (H:=λa l=>Ap e.R s.heap.size s a/\QC e a C q/\Qa (gp s.heap.size) a bq l) (G:=?G1) (λax=>?_) ?_;rotate_left
      ·exact Ei
      intro a l bK;obtain⟨r,z,D⟩:=bK;have be:=am.next r;have bL:=z;have t:=Open.fH k r o.out;have bU:=Open.apart k am.size r o.out (PE.cons D PE.nil);obtain⟨I,M,H⟩:=t.cell;have bj:=PE.length _ _ t.fJ;have bm:=t.row;rw[bj] at bm;have bI:=bm;have cp:=be.size;have cn:aJ.fJ.length<=3:=by rw[bB.out];decide
      clear bj;refine WL 10 λK c=>?_;refine step_append_lies _ rfl _ _ 38 rfl w.heap.size 22 aZ Ry 1 8 hH aX aY aV aW rfl Pm _ _ _ rfl (bI.alloc _) (O7 a.heap.size 0) 1 1 [O5 l] rfl rfl (SK a l _ rfl) (gZ l) Pm (by unfold maxLen;omega) O9 RQ (a.heap.size+1) P7 ?_
      intro bE bC F bS ai bc _;refine c _ _ ?_;clear c K;have bQ:=Y (ZW t bU bL be aN.out bS ai bc);have bO:F.cell? (O7 g 3)=a.cell? (O7 g 3)/\F.frozen? (O7 g 3)=a.frozen? (O7 g 3):=rc
      obtain⟨bf,bh⟩:=bO;rw[I] at bf;rw[M 3] at bh;clear bc;refine wt 11 (O5 g) ?_;refine wt 12 (PL g 3) ?_;refine WL 13 λK c=>?_;go_simp;refine c _ _ ?_;clear c K bf bh I M H;refine ha Qs ?_ _;go_simp;obtain⟨T,ac,ah⟩:=O4 bQ;have bu:=T;have bD:=ac;have a7:=ah
      cases X:Qm e.l Q9 C with
      | out=>
       exact Tc
      | f0 bo br=>
       exact uo
      | ok b7 b4=>
       exact J4):=O6 h;exact oL):=O6 h;exact qZ
    ·rw[fK bi] at i;have d:=UA e iX wf A q aF bi;clear bi;go_wp2_with fail;refine cm d ?_;rintro m s ⟨rfl,a1⟩;have aG:=aF.fH a1;have am:=aI.next (Ap.of a1);exact Bt):=O6 h;exact sp
   ·rw[fL ⟨aK,aS⟩] at i;have cw:((fx e.l A).toList==[61])=false:=Vt (a:=iX) rfl aS;clear aK aS;have b{G}(h:G:=by
    have d:=VX e 3 wf A q aF;go_wp2_with fail;refine cm d ?_;rintro m cJ ⟨rfl,cu⟩;exact⟨rfl,QV i.out.symm (aI.next (Ap.of cu))⟩):=O6 h;exact sp
  ·have cr:(E==4)=false:=gG.2 aK;rw[fK (λbR=>aK bR.1)] at i;clear aK;have k:=au
   by_cases bi:fx e.l A=iX
   ·rw[fL bi] at i;have d:=TM e iX bM A q aj bi Pm;clear bi;go_wp2_with fail;refine cm d ?_;rintro m s ⟨rfl,bG,bn⟩;have aG:=bG;have am:=U.next bn;replace k:=Open.fH k bn o.out;have b{G}(h:G:=by
    cases X:Qw e.l bv.vl q (A+1) with
    | out=>
     exact Tc
    | f0 bo br=>
     exact Hw
    | ok bq C=>
     have d:=WA bY s.drew q (A+1) aG.drew (by rw[X];nofun)
     have b{G}(h:G:=by
     refine mv (H:=λa l=>Ap e.R s.heap.size s a/\QC e a C q/\Qa (gp s.heap.size) a bq l) (G:=?G2) (λax=>?_) ?_;rotate_left
     ·exact Ei
     intro a l bK;obtain⟨r,z,D⟩:=bK;have be:=am.next r;have bL:=z;have t:=Open.fH k r o.out;have bU:=Open.apart k am.size r o.out (PE.cons D PE.nil);obtain⟨I,M,H⟩:=t.cell;have bj:=PE.length _ _ t.fJ;have bm:=t.row;rw[bj] at bm;have bI:=bm;have cp:=be.size;have cn:aJ.fJ.length<=3:=by rw[bB.out];decide
     clear bj;refine WL 10 λK c=>?_;refine step_append_lies _ rfl _ _ 38 rfl w.heap.size 22 aZ Ry 1 8 hH aX aY aV aW rfl Pm _ _ _ rfl (bI.alloc _) (O7 a.heap.size 0) 1 1 [O5 l] rfl rfl (SK a l _ rfl) (gZ l) Pm (by unfold maxLen;omega) O9 RQ (a.heap.size+1) P7 ?_
     intro bE bC F bS ai bc _;refine c _ _ ?_;clear c K;have bQ:=Y (ZW t bU bL be aN.out bS ai bc);have bO:F.cell? (O7 g 3)=a.cell? (O7 g 3)/\F.frozen? (O7 g 3)=a.frozen? (O7 g 3):=rc
     obtain⟨bf,bh⟩:=bO;rw[I] at bf;rw[M 3] at bh;clear bc;refine wt 11 (O5 g) ?_;refine wt 12 (PL g 3) ?_;refine WL 13 λK c=>?_;go_simp;refine c _ _ ?_;clear c K bf bh I M H;refine ha Qs ?_ _;go_simp;obtain⟨T,ac,ah⟩:=O4 bQ;have bu:=T;have bD:=ac;have a7:=ah
     cases X:Qm e.l Q9 C with
     | out=>
      exact Tc
     | f0 bo br=>
      exact uo
     | ok b7 b4=>
      exact J4):=O6 h;exact oL):=O6 h;exact qZ
   ·rw[fK bi] at i;have d:=UA e iX bM A q aj bi;clear bi;go_wp2_with fail;refine cm d ?_;rintro m s ⟨rfl,a1⟩;have aG:=aj.fH a1;have am:=U.next (Ap.of a1);exact Bt):=O6 h;exact FK):=O6 h;exact AL):=O6 h;exact YU):=O6 h;exact E0):=O6 h;exact kM):=O6 h;exact qj
