import Derived.Test.YticfnaiehdpbmaaGreatDoorFa7
import Derived.Deep.MidRow
import Derived.Laws.AppendOwnNone
set_option maxRecDepth 100000
set_option maxHeartbeats 0
set_option linter.all false
namespace Go.Proofs.YticfnaiehdpbmaaGreatDoor
open Go.RowKit Go.Proofs.Tryz
def sg2 {c:Py}{x:Sg}(h:iu 2 c=some x):2<=x.str/\x.str<=7:=by
 unfold iu at h
 cases a:kW c with
 | none=>rw[a] at h;cases h
 | some y=>
  rw[a] at h;have b:=h7 a;have e:y=x/\(y.parts==2)=true:=by
   simp only[Option.filter] at h
   split at h
   ·exact⟨gQ h,by assumption⟩
   ·
    cases h
  obtain⟨rfl,d⟩:=e;simp only[ZH,gP,jz,jt] at b
  rcases b with rfl|rfl|rfl|rfl|rfl|rfl|rfl|rfl|rfl|rfl|rfl|rfl|rfl|rfl <;> first|decide | (exact absurd d Pm)
def Av {a:gy}{d b:Pe}{c f:Nat}(x:Sg)(j:QC a b c f)(i:Ap a.R d.heap.size d b)(g:c+1<a.l.length) :
  QC a ((b.setCell (O7 a.R 1) (O3 ((c:Int)+1))).alloc (.cells #[Pj x.tx,O3 x.kd,O3 x.parts,O3 x.str] 275)).drew (c+1) f/\Ap a.R d.heap.size d ((b.setCell (O7 a.R 1) (O3 ((c:Int)+1))).alloc (.cells #[Pj x.tx,O3 x.kd,O3 x.parts,O3 x.str] 275)).drew /\
  ((b.setCell (O7 a.R 1) (O3 ((c:Int)+1))).alloc (.cells #[Pj x.tx,O3 x.kd,O3 x.parts,O3 x.str] 275)).drew.heap[b.heap.size]? = some (.cells #[Pj x.tx,O3 x.kd,O3 x.parts,O3 x.str] 275):=by
 obtain⟨k,e⟩:=h3 j i g;refine⟨(k.alloc _).drew,(e.alloc e.size _).drew,?_⟩;have:=Ph (b.setCell (O7 a.R 1) (O3 ((c:Int)+1))) (.cells #[Pj x.tx,O3 x.kd,O3 x.parts,O3 x.str] 275);rw[j9] at this;exact this
section
variable {e:gy} {a:Um}
include e a
def ML (v:hs e 333 NV (VW e.l a))(k:Pe)(i j:Nat)(n:PR Tr)(u:iu 1 (fx e.l j)=none)(s:VW e.l a i j=n)(o:n≠.out)(h:QC e k j i):Pq 311 #[Qi e] k (QT e k i (NV k.heap.size) n):=by
 have E:=Y u;clear u;have C:=Ap.refl e.R k.heap.size k;have l:=Y s;have A:=Y o;clear s o;go_enter func311,ntmps311;have d:=Xt e 1 k j i h;rw[E.out] at d;simp only[ml,n5,Option.isSome] at d;have b{G}(h:G:=by
 have M:=C.next (Ap.of D);have H:=h.fH D;clear h;have z{G}(h:G:=by
 cases c:VW e.l a i j with
 | out=>
  rw[c] at l;exact absurd l.out.symm A.out
 | f0 g q=>
  have d:=v (t.alloc (.cells #[Qn,O3 0,O3 0,O3 0] 275)) i j _ rfl (by rw[c];nofun) N
  rw[c] at d l;clear c;have b{G}(h:G:=by
  exact⟨rfl,QV l.out.symm (O.next f)⟩):=O6 h;exact YT
 | ok I L=>
  have d:=v (t.alloc (.cells #[Qn,O3 0,O3 0,O3 0] 275)) i j _ rfl (by rw[c];nofun) N
  rw[c] at d l;clear c;go_wp2_with fail;refine cm d ?_;have b{G}(h:G:=by
  have B:=O.next f;have w:=Ub F O.size;go_wp2;go_ret;exact Uz l.out.symm ⟨r,rfl,w⟩ g B):=O6 h;exact nP):=O6 h;exact vI):=O6 h;exact pR
def ZL (au:FC e a)(w:Pe)(l n:Nat)(x:Sg)(E:PR Tr)(A:iu 1 (fx e.l n)=some x)(ay:((Qw e.l a.sg l (n+1)).bind λN b=>PR.ok (.mk x.kd O8 0 [N]) b)=E)(bA:E≠.out)(h:QC e w n l):Pq 311 #[Qi e] w (QT e w l (NV w.heap.size) E):=by
 have aI:=RD e.R 311;have aj:=Y A;have bN:=p7 h.base.ends h.lt A;have aC:=h.base.len;clear A;have H:=h;have ai:=Ap.refl e.R w.heap.size w;have i:=Y ay;have B:=Y bA;clear h ay bA;go_enter func311,ntmps311;have d:=Xt e 1 w n l H;rw[aj.out] at d;simp only[ml,jG,Option.isSome] at d;have b{G}(h:G:=by
 have ak:=ai.next (Ap.of D);have o:=H.fH D;have aG:=o.c1;have aF:=o.fz;have ad:=o.n3;obtain⟨ax,z,I⟩:=Av x o ak bN;have c:=Y I;have am:Hid (e.R<t.heap.size):=ad;clear I
 cases X:Qw e.l a.sg l (n+1) with
 | out=>
  exact Tc
 | f0 q r=>
  have b{G}(h:G:=by
  have b{G}(h:G:=by
  have b{G}(h:G:=by
  intro m g p;obtain⟨rfl,f⟩:=p;exact⟨rfl,QV i.out.symm (z.next f)⟩):=O6 h;exact Hm):=O6 h;exact oA):=O6 h;exact Jd
 | ok N aJ=>
  have b{G}(h:G:=by
  have b{G}(h:G:=by
  have b{G}(h:G:=by
  have b{G}(h:G:=by
  have ah:=z.next f;have T:=Ub F z.size;have C:=Y ((f.block _ (fI c.out) (by have:=O4 am;omega)).trans c.out)
  refine k.out _ _ C.out (λ_=>?_);clear k K;refine Ye 6 λK k=>?_;go_simp;have s:=Y ((gd q (.cells #[O5 r] 22) _ (fI C.out)).trans C.out);refine k.out _ _ s.out (λ_=>?_);clear k K;refine Ye 7 λK k=>?_;go_simp;refine cm (QA x.kd O8 (.slice (some (O7 q.heap.size 0)) 1 1) (q.alloc (.cells #[O5 r] 22)) ⟨_,_,_,rfl⟩) ?_;rintro m aD ⟨rfl,rfl⟩
  have M:=Y ((gd (q.alloc (.cells #[O5 r] 22)) (Qc x.kd O8 0 (.slice (some (O7 q.heap.size 0)) 1 1)) _ (fI s.out)).trans s.out);refine k.out _ _ M.out (λ_=>?_);clear k K;refine wh 8 (O5 (q.alloc (.cells #[O5 r] 22)).heap.size) M.out ?_;refine YN ?_;go_wp2;go_ret;obtain⟨O,R,ac⟩:=made g ah (PE.cons T PE.nil) (by simp[maxLen]) #[O5 r] rfl 1 rfl x.kd O8 (q.heap.size+1) rfl;exact Uz i.out.symm O.nv R ac):=O6 h;exact nP):=O6 h;exact Hm):=O6 h;exact oL):=O6 h;exact Jd):=O6 h;exact pR
def Yl (k:FC e a)(l:hs e 333 NV (VW e.l a)):hs e 311 NV (Vw e.l a):=by
 intro j g d i b f h;unfold Vw at b
 cases c:iu 1 (fx e.l d) with
 | none=>rw[c] at b;exact ML l j g d i c b f h
 | some x=>rw[c] at b;exact ZL k j g d x i c b f h
end
def Xh {e:gy}{I:Um}(aD:FC e I)(aK:∃ j,jW e.l j I)(ac:Int)(w:Pe)(k n:Nat)(ai:PR Tr)(ay:Y8 e.l I ac k n=ai)(bA:ai≠.out)(h:QC e w n k):Pq 280 #[Qi e,O3 ac] w (QT e w k (NV w.heap.size) ai):=by
 have a7:=h.base.ends;have a1:=Y h.base.len;have be:=Y aK;clear aK;have aG:=h;have b{G}(h:G:=by
 unfold Y8 at ay;have i:=Y ay;have B:=Y bA;clear h ay bA;go_enter func280,ntmps280
 cases X:I.sg k n with
 | out=>
  exact Tc
 | f0 ba ah=>
  have d:=aD.sg w k n _ rfl (by rw[X];nofun) aG
  exact mi
 | ok aW aX=>
  have d:=aD.sg w k n _ rfl (by rw[X];nofun) aG
  have b{G}(h:G:=by
  have b{G}(h:G:=by
  have au:=R.next f;have ak:=g;have aZ:=Ub F R.size;clear f;go_wp2_with fail
  go_loopw [5] (λv wr=>∃ j T l ah,v=O5 ah/\UQ e.l I ac k j T l=ai/\QC e wr l k/\Ap e.R w.heap.size w wr/\Qa (gp w.heap.size) wr T ah) (λ_ wr=>e.l.length - pC e wr)
  case atStart=>exact⟨I.fuel,aW,aX,r,rfl,i.out,ak,au,aZ⟩
  case round=>
   obtain⟨j,T,l,C,rfl,s,g,bo,A⟩:=hrel
   cases j with
   | zero=>exact absurd s.symm B.out
   | succ j=>
    have aj:=g;have bh:=g;have bf:=g.lt;have bv:=O4 a1;unfold UQ at s
    cases E:iu 2 (fx e.l l) with
    | none=>
     rw[E] at s;have a:=Y s;have ad:=Y E;clear s E;have d:=Xt e 2 wr l k aj;rw[ad.out] at d;simp only[ml,n5,Option.isSome] at d;have b{G}(h:G:=by
     have b{G}(h:G:=by
     have z{G}(h:G:=by
     replace A:=Y (TP A (Ap.of (RP.alloc Qp (.cells #[Qn,O3 0,O3 0,O3 0] 275))) o.out);go_wp2;go_ret;exact Uz a.out.symm ⟨C,rfl,A⟩ N O):=O6 h;exact vI):=O6 h;exact yT):=O6 h;exact pR
    | some x=>
     rw[E] at s
     dsimp only at s
     have ad:=Y E;have bN:=p7 a7 bf E;obtain⟨bx,bE⟩:=sg2 E;clear E
     by_cases aN:x.str<ac
     ·rw[fL aN] at s;have a:=Y s;clear s;have d:=Xt e 2 wr l k aj;rw[ad.out] at d;simp only[ml,jG,Option.isSome] at d;have b{G}(h:G:=by
      have b{G}(h:G:=by
      have b{G}(h:G:=by
      replace A:=Y (TP A (Ap.of (RP.alloc Qp (.cells #[Pj x.tx,O3 x.kd,O3 x.parts,O3 x.str] 275))) o.out);go_wp2;go_ret;exact Uz a.out.symm ⟨C,rfl,A⟩ N O):=O6 h;exact Fq):=O6 h;exact yT):=O6 h;exact pR
     ·rw[fK aN] at s;have a:=Y s;clear s;have d:=Xt e 2 wr l k aj;rw[ad.out] at d;simp only[ml,jG,Option.isSome] at d;have b{G}(h:G:=by
      have b{G}(h:G:=by
      have bC:=H.c1;have bB:=H.fz;have a8:=H.n3;obtain⟨bq,aC,aJ⟩:=Av x H M bN;have c:=Y aJ;have bj:Hid (e.R<t.heap.size):=a8;replace A:Hid (Qa (gp w.heap.size) (((t.setCell (O7 e.R 1) (O3 ((l:Int)+1))).alloc (.cells #[Pj x.tx,O3 x.kd,O3 x.parts,O3 x.str] 275)).drew) T C):=TP (a:=e) A ⟨rfl,rfl,rfl,by simp,λj am ap=>by
       show ((t.setCell (O7 e.R 1) (O3 ((l:Int)+1))).alloc (.cells #[Pj x.tx,O3 x.kd,O3 x.parts,O3 x.str] 275)).heap[j]? = _
       rw[gd _ _ j (by simpa using am),g1 t (O7 e.R 1) _ j ap]⟩ o.out
      clear aJ
      cases X:I.pr (x.str+1) k (l+1) with
      | out=>
       exact x7
      | f0 ba ah=>
       have b{G}(h:G:=by
       rw[X] at d a;simp only[QK] at a;have b{G}(h:G:=by
       intro m bF p;obtain⟨rfl,f⟩:=p;exact⟨rfl,QV a.out.symm (aC.next f)⟩):=O6 h;exact EF):=O6 h;exact IM
      | ok aS am=>
       have b{G}(h:G:=by
       have bD:l+1<am:=by
        obtain⟨aV,ap⟩:=O4 be;exact((ap.pr (x.str+1) k (l+1) bN).2 aS am X).1
       rw[X] at d a;simp only[gb] at a;have b{G}(h:G:=by
       have b{G}(h:G:=by
       have au:=aC.next f;have ak:=g;have bu:=g.lt;replace A:=Y (yz A f o.out aC.size F);have ax:=Y ((f.block _ (fI c.out) (by have:=O4 bj;omega)).trans c.out)
       clear f;refine z.out _ _ ax.out (λ_=>?_);clear z K;refine Ye 8 λK z=>?_;go_simp;have ap:=Y ((gd q (.cells #[O5 C,O5 r] 22) _ (fI ax.out)).trans ax.out);refine z.out _ _ ap.out (λ_=>?_);clear z K;refine Ye 9 λK z=>?_;go_simp;refine cm (QA x.kd O8 (.slice (some (O7 q.heap.size 0)) 2 2) (q.alloc (.cells #[O5 C,O5 r] 22)) ⟨_,_,_,rfl⟩) ?_;rintro m bz ⟨rfl,rfl⟩
       have aO:=Y ((gd (q.alloc (.cells #[O5 C,O5 r] 22)) (Qc x.kd O8 0 (.slice (some (O7 q.heap.size 0)) 2 2)) _ (fI ap.out)).trans ap.out);refine z.out _ _ aO.out (λ_=>?_);clear z K;refine wh 10 (O5 (q.alloc (.cells #[O5 C,O5 r] 22)).heap.size) aO.out ?_;refine YN ?_;obtain⟨aY,aI,a6⟩:=made ak au A (by simp[maxLen]) #[O5 C,O5 r] rfl 2 rfl x.kd O8 (q.heap.size+1) rfl;obtain⟨bm,aQ,bn⟩:=aY.nv;have bc:bm=q.heap.size+1:=by simpa[O5] using aQ.symm
       subst bc;clear aQ;go_wp2
       go_roundw
       case rel=>exact⟨j,.mk x.kd O8 0 [T,aS],am,q.heap.size+1,rfl,a.out,aI,a6,bn⟩
       case measure=>rw[VD aI,VD bh];omega):=O6 h;exact nP):=O6 h;exact EF):=O6 h;exact IM):=O6 h;exact yT):=O6 h;exact pR):=O6 h;exact nP):=O6 h;exact YU):=O6 h;exact kM
def Wz (a:List Tk)(b:Um)(c e:Nat):WW a b c e=(UE a b c e).bind λd i2=>
  if fx a i2=pP then (Qw a b.st c (i2+1)).bind λs2 f=>.ok (.mk d.kd d.tx d.n (d.fJ++[s2])) f else .ok d i2:=by
 unfold WW UE
 cases Vu a b c (e+1) with
 | out=>rfl
 | f0 g i=>rfl
 | ok k f=>
  simp only[gb]
  cases Qw a b.st c f with
  | out=>rfl
  | f0 g i=>rfl
  | ok j i2=>rfl
def aj8 {e:List Tk}{b:Um}{c f k:Nat}{g:Tr}(h:UE e b c f=.ok g k):g.fJ.length=2:=by
 unfold UE at h
 cases d:Vu e b c (f+1) with
 | out=>rw[d] at h;cases h
 | f0 j l=>rw[d] at h;cases h
 | ok n i=>
  rw[d,gb] at h
  cases a:Qw e b.st c i with
  | out=>rw[a] at h;cases h
  | f0 j l=>rw[a] at h;cases h
  | ok m i2=>rw[a,gb] at h;cases h;rfl
def amm {e:gy}{I:Um}(M:FC e I)(w:Pe)(k n:Nat)(ah:PR Tr)(aj:(Qe e.l n).kd≠6)(ay:WW e.l I k n=ah)(bA:ah≠.out)(h:QC e w n k):Pq 151 #[Qi e] w (QT e w k (NV w.heap.size) ah):=by
 have bD:=RD e.R 160;have aJ:=Y aj;have b{G}(h:G:=by
 rw[Wz] at ay;clear aj;have am:=h;have b{G}(h:G:=by
 have i:=Y ay;have B:=Y bA;clear h ay bA;go_enter func151,ntmps151
 cases X:UE e.l I k n with
 | out=>
  exact Tc
 | f0 bf br=>
  have d:=x2 M w k n _ aJ.out rfl (by rw[X];nofun) am
  exact mi
 | ok a1 C=>
  have bo:=Y (aj8 X);have d:=x2 M w k n _ aJ.out rfl (by rw[X];nofun) am
  have b{G}(h:G:=by
  intro m aK p;obtain⟨⟨bE,rfl,aS⟩,z,f⟩:=p;have au:=R.next f;have ac:=z;have bc:=EV.mono aS R.size;obtain⟨g,u0,bu,rfl,s⟩:=bc.opens
  by_cases A:fx e.l C=pP
  ·rw[fL A] at i;have d:=TM e pP aK C k ac A Pm;clear A;go_wp2_with fail;refine cm d ?_;rintro m q ⟨rfl,bn,aF⟩;have T:=bn;have E:=au.next aF;replace s:=Y (Open.fH s aF o.out);have b{G}(h:G:=by
   cases X:Qw e.l I.st k (C+1) with
   | out=>
    exact Tc
   | f0 bf br=>
    have d:=oS M q.drew k (C+1) T.drew (by rw[X];nofun)
    have b{G}(h:G:=by
    refine l3 ?_;refine wt 5 (Qi e) ?_;refine wt 6 (Qi e) ?_;refine wt 7 (.func (.func 160) #[Qi e] #[]) ?_;refine hJ 4 8 (λK c=>?_) λK c=>?_
    ·go_simp;refine c _ _ ?_;clear c K;refine WL 8 λK c=>?_;go_simp;exact DS
    ·go_simp;exact DS):=O6 h;exact oA
   | ok aQ aO=>
    have d:=oS M q.drew k (C+1) T.drew (by rw[X];nofun)
    have b{G}(h:G:=by
    refine mv (H:=λa l=>Ap e.R q.heap.size q a/\QC e a aO k/\Qa (gp q.heap.size) a aQ l) (G:=?G1) (λax=>?_) ?_;rotate_left
    ·refine l3 ?_;refine wt 5 (Qi e) ?_;refine wt 6 (Qi e) ?_;refine wt 7 (.func (.func 160) #[Qi e] #[]) ?_;refine hJ 4 8 (λK c=>?_) λK c=>?_
     ·go_simp;refine c _ _ ?_;clear c K;refine WL 8 λK c=>?_;have b{G}(h:G:=by
      have b{G}(h:G:=by
      obtain⟨O,U,H⟩:=(Open.fH s r o.out).cell;exact Ar):=O6 h;exact Ii):=O6 h;go_simp;exact oV
     ·have b{G}(h:G:=by
      have b{G}(h:G:=by
      obtain⟨O,U,H⟩:=(Open.fH s r o.out).cell;exact vK):=O6 h;exact Ii):=O6 h;go_simp;exact oV
    intro a l a6;obtain⟨r,z,D⟩:=a6;have ak:=E.next r;have t:=Open.fH s r o.out;have bq:=Open.apart s E.size r o.out (PE.cons D PE.nil);obtain⟨O,U,H⟩:=t.cell;have aG:=PE.length _ _ t.fJ;have aI:=t.row;rw[aG] at aI;have bB:=ak.size;have bv:a1.fJ.length<=3:=by rw[bo.out];decide
    clear aG;refine WL 10 λK c=>?_;refine step_append_lies _ rfl _ _ 38 rfl w.heap.size 22 aZ Ry 1 8 hH aX aY aV aW rfl Pm _ _ _ rfl (aI.alloc _) (O7 a.heap.size 0) 1 1 [O5 l] rfl rfl (SK a l _ rfl) (gZ l) Pm (by unfold maxLen;omega) O9 RQ (a.heap.size+1) P7 ?_
    intro bC bx F bm ai ad _;refine c _ _ ?_;clear c K;have bj:=Y (ZW t bq z ak aN.out bm ai ad);have bh:F.cell? (O7 g 3)=a.cell? (O7 g 3)/\F.frozen? (O7 g 3)=a.frozen? (O7 g 3):=rc
    obtain⟨aC,aD⟩:=bh;rw[O] at aC;rw[U 3] at aD;clear ad;refine wt 11 (O5 g) ?_;refine wt 12 (PL g 3) ?_;refine WL 13 λK c=>?_;go_simp;refine c _ _ ?_;clear c K aC aD O U H;refine ha Qs ?_ _;go_simp;obtain⟨a7,ba,be⟩:=O4 bj;go_wp2;go_ret;exact Uz i.out.symm a7.nv ba be):=O6 h;exact oL):=O6 h;exact rA
  ·rw[fK A] at i;have d:=UA e pP aK C k ac A;clear A;go_wp2_with fail;refine cm d ?_;rintro m q ⟨rfl,a⟩;have T:=ac.fH a;have E:=au.next (Ap.of a);replace s:=Y (Open.fH s (Ap.of a) o.out);go_wp2;go_ret;exact Uz i.out.symm s.ev.nv T E):=O6 h;exact YU):=O6 h;exact kM):=O6 h;exact qj
def UT {i:gy}{d c:Pe}{n l:Nat}{j:Tr}{a:Nat}{f:Px}{o:List Nat}(e:Open d.heap.size c j a f o)(q:QC i c n l)(p:Ap i.R d.heap.size d c)(t:i.lo<=d.heap.size) :
  EV d.heap.size (c.setCell (O7 a 3) f) (.mk j.kd j.tx j.n (j.fJ++[])) (O5 a)/\QC i (c.setCell (O7 a 3) f) n l/\Ap i.R d.heap.size d (c.setCell (O7 a 3) f):=by
 have m:∀ b,b≠a->(c.setCell (O7 a 3) f).heap[b]? = c.heap[b]?:=λb g=>g1 c (O7 a 3) _ b g;have k:Below d.heap.size c (c.setCell (O7 a 3) f):=RP.setCell (p:=(O7 a 3)) e.low _;refine⟨?_,q.ap k t,p.trans (Ap.of k)⟩;rw[i8];refine⟨a,f,o,rfl,e.low,by rw[gi e.gw];rfl,?_,e.own,PE.fH (λb g _=>m b g.2.1) _ _ e.fJ⟩
 exact Rt (a:=λb=>b≠a) (λb g _=>m b g) (λu s r=>e.own (by rw[s,r])) e.row
def aIl {i:gy}{a b e:Pe}{u q:Nat}{g:Tr}{s:List Tr}{d f j c:Nat}{l:Px}{n o:List Nat}(k:Open a.heap.size b g d l n)(z:PE (λm=>a.heap.size<=m/\m≠d/\l.ownBlock≠some m) b (g.fJ++s) (n++o))(A:QC i b u q)(r:Ap i.R a.heap.size a b)(F:i.lo<=a.heap.size)
  (D:e.ownsRow a.heap.size 22 1 (.slice (some (O7 f 0)) c j) c (n.map O5++o.map O5)) (w:c=n.length+o.length) (p:b.grownBy e l.ownBlock) (B:l.ownBlock=some f\/f=b.heap.size) :
  EV a.heap.size (e.setCell (O7 d 3) (.slice (some (O7 f 0)) c j)) (.mk g.kd g.tx g.n (g.fJ++s)) (O5 d) /\
  QC i (e.setCell (O7 d 3) (.slice (some (O7 f 0)) c j)) u q /\
  Ap i.R a.heap.size a (e.setCell (O7 d 3) (.slice (some (O7 f 0)) c j)):=by
 have E:∀ m,l.ownBlock=some m->a.heap.size<=m:=λm v=>(QD k.row m v).2;have C:Below a.heap.size b e:=(f2 a.heap.size b).grown p r.size E;have t:Below a.heap.size b (e.setCell (O7 d 3) (.slice (some (O7 f 0)) c j)):=C.setCell (p:=(O7 d 3)) k.low _;refine⟨?_,A.ap t F,r.trans (Ap.of t)⟩;exact wQ k.low k.gw k.own z (by rw[gM];exact D) (by rw[w,gj]) p B
def aJW:WM 348:=λ_ _=>by kernel_rfl
def aJX:WM 349:=λ_ _=>by kernel_rfl
def LV.zv {m:Nat}{k:Pe}{d:List Tr}{n:Px}(h:LV m k d n)(u:d≠[]):∃ e g a,n=.slice (some (O7 e 0)) d.length g/\a.length=d.length/\PE (gp m) k d a/\(∀ c j,(a.map O5)[c]? = some j->k.cell? (((O7 e 0):Addr).add c)=some j):=by
 obtain⟨⟨a,p,l⟩,_,_⟩:=h;have i:=PE.length _ _ l;have s:0<a.length:=by rw[i];exact List.length_pos_iff.2 u
 obtain⟨e,g,t,q⟩:=TG p s;refine⟨e,g,a,by rw[t,i],i,PE.mono (λr o _=>o.1) _ _ l,λc j b=>?_⟩;rw[Addr.add_mid,ib];rw[i6] at b
 cases f:a[c]? with
 | none=>rw[f] at b;cases b
 | some v=>
  rw[f] at b;obtain⟨o,r⟩:=gr.1 f;rw[q c o,r];exact b
def Uq (c:List Nat):∀ a ∈ c.map O5,a.oneCell'=true:=by
 intro a b;obtain⟨d,_,rfl⟩:=hy.1 b;rfl
def Open.cap {f:Nat}{w:Pe}{d:Tr}{g:Nat}{ua:Option Addr}{bz uc:Nat}{i:List Nat}(h:Open f w d g (.slice ua bz uc) i)(k:0<d.fJ.length):bz<=uc/\∃ a,ua=some (O7 a 0):=by
 have q:=PE.length _ _ h.fJ
 rcases h.row.2 with l|⟨a,p,o,b,_,_,ad,_⟩
 ·omega
 ·simp only[g7] at b;obtain⟨rfl,rfl,rfl⟩:=b;exact⟨ad,a,rfl⟩
def apO {e:gy}{k:Um}(aS:FC e k)(aF:∃ j,jW e.l j k)(c:pf k):hs e 333 NV (VW e.l k):=by
 have cJ:=RD e.R 348;have cG:=RD e.R 349;intro w l n bS ay bA h;have br:=Y h.base.size;have aN:=h.base.ends;have bM:=Y h.base.len;obtain⟨cl,b6,b7,bZ,b3⟩:=gY hV;have bR:=Y aF;have ba:=h;have b{G}(h:G:=by
 unfold VW at ay;have i:=Y ay;have B:=Y bA;clear h ay bA;go_enter func333,ntmps333
 cases X:WH e.l k l n with
 | out=>
  exact Tc
 | f0 be am=>
  have d:=HR aS aF c w l n _ rfl (by rw[X];nofun) ba
  exact mi
 | ok bI bc=>
  have d:=HR aS aF c w l n _ rfl (by rw[X];nofun) ba
  have b{G}(h:G:=by
  have b{G}(h:G:=by
  have bO:=R.next f;have bK:=g;have bL:=Ub F R.size;clear f;clear aF c;go_wp2_with fail
  go_loopw [3] (λv wr=>∃ j z a8 am,v=O5 am/\TJ e.l k l j z a8=bS/\QC e wr a8 l/\Ap e.R w.heap.size w wr/\Qa (gp w.heap.size) wr z am) (λ_ wr=>e.l.length - pC e wr)
  case atStart=>exact⟨k.fuel,bI,bc,r,rfl,i.out,bK,bO,bL⟩
  case round=>
   obtain⟨j,z,a8,D,rfl,aD,g,cr,A⟩:=hrel
   cases j with
   | zero=>exact absurd aD.symm B.out
   | succ j=>
    have cq:=g;have aX:=g;have bf:=g.lt;have cI:=O4 bM;unfold TJ at aD;have i:=Y aD;have d:=TN e wr a8 l g;clear aD
    by_cases E:fx e.l a8=rI
    ·rw[fL E] at i;have bT:((fx e.l a8).toList==[46])=true:=VL (a:=rI) rfl E;have bN:=XD aN bf E Pm;clear E;have b{G}(h:G:=by
     have M:=ah.c1;have L:=ah.fz;have cW:=ah.n3;obtain⟨C,u⟩:=h3 ah aZ bN;replace A:=Y (TP (a:=e) A (Ap.setCell (R:=e.R) (Ap.refl _ _ _) (p:=(O7 e.R 1)) (fU rfl) (O3 ((a8:Int)+1))) o.out)
     cases X:gC e.l (a8+1) with
     | out=>
      exact Tc
     | f0 be am=>
      have d:=gH e (wf.setCell (O7 e.R 1) (O3 ((a8:Int)+1))) (a8+1) l C;rw[X] at d i;simp only[QK] at i;clear X;have b{G}(h:G:=by
      exact⟨rfl,QV i.out.symm (u.next f)⟩):=O6 h;exact YT
     | ok s aI=>
      have bQ:=((Wn (d:=True) aN bN).2 _ _ X).1;have d:=gH e (wf.setCell (O7 e.R 1) (O3 ((a8:Int)+1))) (a8+1) l C;have b{G}(h:G:=by
      intro m a p;obtain⟨⟨N,rfl,rfl⟩,g,f⟩:=p;have H:=u.next f;have t:=g;replace A:=Y (TP A f o.out);clear f;have cu:=t.lt;have d:=QA 36 s (.slice (some (O7 a.heap.size 0)) 1 1) (a.alloc (.cells #[O5 D] 22)) ⟨_,_,_,rfl⟩;go_wp2_with fail;refine cm d ?_;rintro m ac ⟨rfl,rfl⟩;obtain⟨ai,au,ax⟩:=made t H (PE.cons A PE.nil) (by simp[maxLen]) #[O5 D] rfl 1 rfl 36 s (a.heap.size+1) rfl;obtain⟨ap,aC,a7⟩:=ai.nv;have aj:ap=a.heap.size+1:=by simpa[O5] using aC.symm
      subst aj;have aJ:=a7;have I:=au;have aK:=ax;clear aC;go_wp2
      go_roundw
      case rel=>exact⟨j,.mk 36 s 0 [z],aI,a.heap.size+1,by simp,i.out,I,aK,aJ⟩
      case measure=>rw[VD I,VD aX];omega):=O6 h;exact YU):=O6 h;exact x1
    ·rw[fK E] at i;have bT:((fx e.l a8).toList==[46])=false:=Vt (a:=rI) rfl E;clear E
     by_cases bi:fx e.l a8=Rz
     ·rw[fL bi] at i;have bG:((fx e.l a8).toList==[40])=true:=VL (a:=Rz) rfl bi;clear bi;have b{G}(h:G:=by
      have d:=QA 35 O8 (.slice (some (O7 wf.heap.size 0)) 1 1) (wf.alloc (.cells #[O5 D] 22)) ⟨_,_,_,rfl⟩;go_wp2_with fail;refine cm d ?_;rintro m cC ⟨rfl,rfl⟩;obtain⟨ai,au,ax⟩:=made ah aZ (PE.cons A PE.nil) (by simp[maxLen]) #[O5 D] rfl 1 rfl 35 O8 (wf.heap.size+1) rfl;obtain⟨t,T⟩:=xE (.mk 35 O8 0 [z]:Tr);rw[<-T] at ai;have bv:Hid (t.fJ.length=1):=by
       show _=_
       rw[T];rfl
      have cy:=Y T;obtain⟨a,u0,cz,aj,s⟩:=ai.opens;have aG:a=wf.heap.size+1:=by simpa[O5] using aj.symm
      rw[aG] at s;have bj:=au;have U:=ax;clear aj T;obtain⟨ac,aQ⟩:=xE ((wf.alloc (.cells #[O5 D] 22)).alloc (Qc 35 O8 0 (.slice (some (O7 wf.heap.size 0)) 1 1)));rw[<-aQ] at s bj U;rw[<-aG] at s;rw[show (wf.alloc (.cells #[O5 D] 22)).heap.size=a by rw[aG];simp,<-aQ]
      clear aQ aG;have b{G}(h:G:=by
      obtain⟨cK,bh⟩:=O4 bR
      cases X:XB e.l Rz Tt (hO e.l) (oz e.l k l) k.fuel a8 with
      | out=>
       exact Tc
      | f0 be am=>
       have b{G}(h:G:=by
       have b{G}(h:G:=by
       refine qe ?_;refine H7 ?_;refine hJ 4 10 (λK c=>?_) λK c=>?_
       ·go_simp;refine c _ _ ?_;clear c K;refine WL 10 λK c=>?_;go_simp;exact vr
       ·go_simp;exact vr):=O6 h;exact oA):=O6 h;exact GW
      | ok C aI=>
       have b{G}(h:G:=by
       have bQ:=((te (e:=False) aN bf Pm Pm (λh=>h.elim) (λbc _ ad=>zo bh ad (λh=>h.elim))).2 _ _ X).1;have b{G}(h:G:=by
       refine qe ?_;refine H7 ?_;refine hJ 4 10 (λK c=>?_) λK c=>?_
       ·go_simp;refine c _ _ ?_;clear c K;refine WL 10 λK c=>?_;have b{G}(h:G:=by
        clear c K;exact EC):=O6 h;go_simp;exact Li
       ·have b{G}(h:G:=by
        clear c K;refine wbZ 4 ?_;exact EC):=O6 h;go_simp;exact Li):=O6 h;exact oL):=O6 h;exact GW):=O6 h;exact rA):=O6 h;exact x1
     ·rw[fK bi] at i;have bG:((fx e.l a8).toList==[40])=false:=Vt (a:=Rz) rfl bi;clear bi;have b{G}(h:G:=by
      go_wp2;go_ret;exact Uz i.out.symm ⟨D,rfl,A⟩ ah aZ):=O6 h;exact x1):=O6 h;exact nP):=O6 h;exact YU):=O6 h;exact kM
