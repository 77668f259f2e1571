import Derived.Test.YticfnaiehdpbmaaGreatDoorFa17
import Derived.Lib.AppendIntMem
import Derived.Lib.ItoaLen
set_option maxRecDepth 100000
set_option maxHeartbeats 0
set_option linter.all false
namespace Go.Proofs.YticfnaiehdpbmaaGreatDoor
open Go.RowKit Go.Proofs.Tryz
namespace Hp
section
variable {M:Pe} {k z:Nat} {p:List Nat} {s T E I C:Px} {w w' w2:Pe} {d:St} {a6:Nat}
theorem Mx.fO (b:Mx M k z p T E I C w d)(a:Nat):Mx M k z p T E I C (w.setCell (O7 k 10) (O3 (a:Int))) { d with fO:=a }/\Ql [84] k w (w.setCell (O7 k 10) (O3 (a:Int))):=by
 obtain⟨q,e⟩:=b.hh.cell 8 (O3 (a:Int));have c:Ql Th k w (w.setCell (O7 k 10) (O3 (a:Int))):=⟨e.below,λl a m f i=>e.rest l a m f (λh=>i (by rw[gc.1 h];decide))⟩
 obtain⟨n,o,g,j⟩:=b.fu;exact⟨⟨b.bw.trans c.below,q,PV b.lg c Pm,PV b.se c Pm,PV b.ow c Pm,n,o,PV g c Pm,λr f l i m=>(j r f l i m).kp (Ql.kp c)⟩,e⟩
theorem Pw (b:Nat)(a:Nat)(c:FrameMode)(w:Pe)(j:w.cell? (O7 b 0)=some (PL k 0))(i:w.cell? (O7 k 10)=some (O3 ((a+1:Nat):Int)))(g:w.frozen? (O7 k 10)=false)(l:a<=40) :
  CallsD prog 338 #[PL b 0] c w λe f w'=>f=c/\(e=PK (.tuple #[])/\w'=w.setCell (O7 k 10) (O3 (a:Int))):=by
 go_enter_d func338,ntmps338
 go_wp2
 go_end0
 exact⟨rfl,rfl⟩
def w3 (w e:Pe):Prop:=∀ (b:Nat) c (a:TypeId),w.heap[b]? = some (PZ c a)->a≠84->e.heap[b]? = some (PZ c a)
theorem apg (L:Mx M k z p T E I C w d)(a7:d.fO<40){H:Nat}{ah:Array Px}(bG:WM H){a:(Va × Er) × St}(S:a.2.fO=d.fO+1)
  (aF:∀ b,Mx M k z p T E I C b { d with fO:=d.fO+1 }->w3 w b->w.heap.size<=b.heap.size->Pq H ah b (P5 M k z p s b a)) :
  Pq 319 #[O5 k,.func (.func H) #[] ah] w (P5 M k z p s w (a.1,{ a.2 with fO:=a.2.fO - 1 })):=by
 have bE:=Zg;have aO:=L.lt;obtain⟨aD,B⟩:=L.fO (d.fO+1);obtain⟨l,O⟩:=xH (w.setCell (O7 k 10) (O3 ((d.fO:Int)+1)));have W:((d.fO+1:Nat):Int)=(d.fO:Int)+1:=by push_cast;rfl
 rw[W,<-O.out] at aD B;have j:l.heap.size=w.heap.size:=by rw[O.out];simp
 obtain⟨w2,v⟩:=xH ((l.alloc (.cells #[O5 k] 62)).alloc (.cells #[O3 0,O3 0,Qn] 65));have t:Pn l w2:=by rw[v.out];exact QJ.alloc P7 _
 obtain⟨n,ax⟩:=xH w.heap.size;obtain⟨e,r⟩:=xH (w.heap.size+1);have P:w2.heap[n]? = some (PZ #[O5 k] 62):=by rw[v.out,ax.out,<-j];exact fY (Ph _ _)
 have ap:w2.heap[e]? = some (PZ #[O3 0,O3 0,Qn] 65):=by
  rw[v.out,r.out,<-j,show l.heap.size+1=(l.alloc (.cells #[O5 k] 62)).heap.size by simp];exact Ph _ _
 have a8:=aD.fH t;have aU:w3 w w2:=λi q f g m=>by
  rw[t.block i (by rw[j];exact gz g)]
  exact B.rest i q f g (by simpa using m)
 have au:w.heap.size<=w2.heap.size:=by rw[<-j];exact t.size
 have aI:P8 none k w w2:=(P8.jR (L:=none) (⟨B.below,λi q f g m=>B.rest i q f g (λh=>m (by rw[gc.1 h];decide))⟩:Ql Th k w l)).trans (P8.of t (by rw[j];exact P6 aO))
 have ba:=aF w2 a8 aU au;obtain⟨bn,bo⟩:=L.hh.at_ 8 _ rfl;have bA:(d.fO:Int)≠40:=O9;have bv:(d.fO:Int)<40:=O9;have bB:(0:Int)<=(d.fO:Int):=O9;have R:a.2.fO=d.fO+1:=S;obtain⟨c,aC⟩:=xH a.1.1;obtain⟨bH,A⟩:=xH ((a.1,{ a.2 with fO:=a.2.fO - 1 }):(Va × Er) × St);rw[<-A.out];have ai:=Y R;have aY:=Y P;have aV:=Y ap;clear aF S P ap au j W R a7
 go_enter_defers func319,ntmps319
 go_wp2_with fail;rw[<-O.out,<-v.out,<-r.out,<-ax.out];clear bn bo;refine cm ba ?_;rintro f aN ⟨⟨ak,rfl,aL⟩,U,N⟩;rw[<-aC.out];have am:=Y (N.fR aV.out Pm);have bc:=Y (N.fR aY.out Pm);have aX:=aI.trans N;have bD:=U.lt;have b{G}(h:G:=by
 go_wp2_with fail;obtain⟨u,ac⟩:=xE (((aN.setCell (O7 e 0) (O3 c.k)).setCell (O7 e 1) (O3 c.n)).setCell (O7 e 2) (Pj c.s));rw[<-ac];have aj:=lq am.out (O3 c.k) (O3 c.n) (Pj c.s);have be:k<=e:=by have:=O4 r;omega
 have aW:w.heap.size<=e:=by have:=O4 r;omega
 have o:=Tn am.out be (O3 c.k) (O3 c.n) (Pj c.s);have ad:=aX.hX o (UU aW _ _ _);have X:=U.ie o Pm;rw[<-ac] at aj ad X o;have bh:=aL.Rf o Pm;have bj:=o.rest n _ _ bc.out Pm;obtain⟨bq,br,bx,bz,ay⟩:=X;obtain⟨aJ,aK⟩:=ay.hh.at_ 8 _ rfl;obtain⟨bm,F⟩:=ay.fO d.fO;have aG:u.cell? (O7 k 10)=some (O3 ((d.fO+1:Nat):Int)):=by rw[<-ai.out];exact aJ
 have bf:u.cell? (O7 n 0)=some (PL k 0):=by rw[cell_of bj];rfl
 have bu:k≠e:=by have:=O4 r;omega
 refine leaves_cons (f:=338) (args:=#[PL n 0]) P7 (by simp[go_sem]) ?_;refine(Pw n d.fO .returning u bf aG aK O9).mono ?_;rintro f bC bF ⟨rfl,rfl,rfl⟩;have bi:=F.rest e _ _ aj Pm;obtain⟨aZ,aS,aQ,_,_⟩:=fX bi
 show Leaves _ _ _ _ [] .returning _
 refine⟨.tuple #[vA c,ak],by simp[results,results319,go_sem,aZ,aS,aQ],⟨ak,?_,?_⟩,?_,?_⟩
 ·rw[A.out,aC.out]
 ·rw[A.out];exact bh.Rf F Pm
 ·rw[A.out];have a1:({ a.2 with fO:=a.2.fO - 1 }:St)={ a.2 with fO:=d.fO }:=by rw[ai.out];rfl
  show Ms _ _ _ _ _ ({ a.2 with fO:=a.2.fO - 1 }:St)
  rw[a1];exact⟨_,_,_,_,bm⟩
 ·exact ad.trans (P8.jR (⟨F.below,λi q f g m=>F.rest i q f g (λh=>m (by rw[gc.1 h];decide))⟩:Ql Th k u _))):=O6 h;exact Ah
theorem T4 (c:Ms M k z p w d)(q:d.fO=40)(C:Px) :
  Pq 319 #[O5 k,C] w (P5 M k z p s w ((vU,f0 Vd),d)):=by
 have F:=c.lt;obtain⟨w2,j⟩:=xH ((w.alloc (.cells #[O5 k] 62)).alloc (.cells #[O3 0,O3 0,Qn] 65));have g:Pn w w2:=by rw[j.out];exact QJ.alloc P7 _
 obtain⟨a,f⟩:=xH (w.heap.size+1);have u:w2.heap[a]? = some (PZ #[O3 0,O3 0,Qn] 65):=by
  rw[j.out,f.out,show w.heap.size+1=(w.alloc (.cells #[O5 k] 62)).heap.size by simp];exact Ph _ _
 have o:=c.fH g;have S:=o.lt;have U:=Vz (es:=s) S Vd;obtain⟨T,E,I,C,c⟩:=c;obtain⟨v,ac⟩:=c.hh.at_ 8 _ rfl;rw[q] at v;have N:=Y u;clear u q
 go_enter_defers func319,ntmps319
 go_wp2_with fail;rw[<-j.out,<-f.out];clear v ac;refine cm U ?_;rintro ah B ⟨⟨t,rfl,A⟩,i⟩;have am:=Y (fQ i N.out);have X:=o.fH i;have P:=P8.of (L:=none) (g.trans (i.mono g.size)) (P6 F);have b{G}(h:G:=by
 go_wp2_with fail;obtain⟨ad,m⟩:=xE (((B.setCell (O7 a 0) (O3 0)).setCell (O7 a 1) (O3 0)).setCell (O7 a 2) (Qn));rw[<-m];have r:=lq am.out (O3 0) (O3 0) (Qn);have W:k<=a:=by have:=O4 f;omega
 have O:w.heap.size<=a:=by have:=O4 f;omega
 have e:=Tn am.out W (O3 0) (O3 0) (Qn);have n:=P.hX e (UU O _ _ _);have l:=X.ie e Pm;rw[<-m] at r n l e;obtain⟨R,L,H,_,_⟩:=fX r
 show Leaves _ _ _ _ [] .returning _
 exact⟨.tuple #[vA vU,t],by simp[results,results319,go_sem,R,L,H,vU],⟨t,rfl,A.Rf e Pm⟩,l,n⟩):=O6 h;exact Ah
theorem wL (f:Mx M k z p T E I C w d)(l:d.fO<=40){e:Nat}{c:Array Px}(i:WM e){a:St->(Va × Er) × St}(g:d.fO≠40->(a { d with fO:=d.fO+1 }).2.fO=d.fO+1)
  (j:d.fO≠40->∀ b,Mx M k z p T E I C b { d with fO:=d.fO+1 }->w3 w b->w.heap.size<=b.heap.size->Pq e c b (P5 M k z p s b (a { d with fO:=d.fO+1 }))) :
  Pq 319 #[O5 k,.func (.func e) #[] c] w (P5 M k z p s w (within d a)):=by
 unfold Hp.within
 split
 ·rename_i h;exact T4 ⟨_,_,_,_,f⟩ h _
 ·rename_i h;exact apg f O9 i (g h) (j h)
def ZM (a:Va):List Px:=[O3 a.k,O3 a.n,Pj a.s]
def m7 (b:Nat)(w:Pe)(c:Px)(a:List Va):Prop:=w.ownsRow b 65 3 c a.length (a.flatMap ZM)
variable {U:Fx}
theorem m7.nil (a:Nat)(w:Pe):m7 a w Q8 []:=⟨rfl,fM ⟨rfl,rfl⟩⟩
theorem m7.fR {j:Nat}{a:Px}{b:List Va}(h:m7 j w a b)(c:P8 none k w w'):m7 j w' a b:=jU h λ_ _ _ e=>c.fR e Pm
def AA (M:Pe)(k z:Nat)(p:List Nat)(s:Px)(w:Pe)(a:(List Va × Er) × St)(e:Ending)(w':Pe):Prop:=
 (∃ c b,e=PK (.tuple #[c,b])/\m7 w.heap.size w' c a.1.1/\X8 s w' b a.1.2)/\Ms M k z p w' a.2/\P8 none k w w'
theorem Oa:(prog.info? 65).map (λa=>(a.zero,a.size,a.bytes))=some (some (.agg #[O3 0,O3 0,Qn]),3,32):=by kernel_rfl
theorem ao2 (w:Pe)(H:Nat)(e:w.heap.size=H)(b:Va)(a:Nat)(c:Px)(h:(ZM b)[a]? = some c) :
  (w.alloc (.cells #[O3 b.k,O3 b.n,Pj b.s] 65)).cell? (((O7 H 0):Addr).add a)=some c:=by
 subst e;unfold ZM at h
 rcases a with _|_|_|a <;> simp at h
 all_goals subst h;simp[Addr.add]
theorem val_one (c:Va):∀ b ∈ ZM c,b.oneCell'=true:=by
 intro b a;unfold ZM at a;simp at a
 rcases a with rfl|rfl|rfl <;> rfl
section
variable {b:Pl} {c:Nd} {f:List Nd} {e:List Va} {g:Va}
include b c f e g
theorem Az {a:St}(h:U.v c b d=((g,.no),a)):UD U b (c::f) e d=UD U b f (e++[g]) a:=by rw[UD,h]
theorem H2 {a:Er}{i:St}(h:U.v c b d=((g,a),i))(j:a≠.no):UD U b (c::f) e d=(([],a),i):=by
 rw[UD,h];exact wu
end
theorem JS (bT:ig s)(ah:Ms M k z p w d){bL:Px}{f:List Ad}{e:List Nd}(X:TY 0 w bL f)(bn:UW p w f e)(cL:e.length<=1000000)(A:Pl)(o:Option Addr)
  (P:St->Prop) (hP:P d) (bi:∀ a ∈ e,∀ d,P d->Ux M k z p s d a A (U.v a A d)/\∀ v H,U.v a A d=((v,.no),H)->P H) :
  Pq 293 #[O5 k,bL,Qy A o] w (AA M k z p s w (UD U A e [] d)):=by
 obtain⟨ci,b3,b6,bV,b1⟩:=gY Oa;have aS:=ah.lt;have b{G}(h:G:=by
 have b7:w.heap.size<=W:=O9;have bj:=UW.len _ _ bn;obtain⟨a1,bm⟩:=xH (UD U ⟨l,q,r⟩ e [] d);rw[<-bm.out];have bK{G}(h:G:=by
 have b0:=Y F;have bN:=X.fH ap;have cp:=UW.kp (Kp.of ap) _ _ bn;have cq:=Y hP;have bU:=Y bi;have ch:=ap.size;obtain⟨ua,cE,bR⟩:=X.form;subst bR;have b8:=bf.lt;have bG:=Y bj;have cA:f.length<=1000000:=O9;clear F hP bi b7 bj;go_enter func293,ntmps293;go_wp2_with fail;rw[<-aV.out,<-aD];clear aD
 go_loopw [8,15] (λaL n wr=>∃ (j:Nat) (g:List Va) (i:St),j<=f.length/\n=O3 j/\g.length=j/\m7 w2.heap.size wr aL g/\Ms M k z p wr i/\P i/\P8 none k w2 wr/\a1=UD U ⟨l,q,r⟩ (e.drop j) g i) (λ_ n _=>f.length - (intOf n).toNat)
 case atStart=>exact⟨0,[],d,f3 _,rfl,rfl,m7.nil _ _,bf,cq.out,P8.of RP (P6 b8),bm.out⟩
 case round=>
  obtain⟨j,g,i,cy,rfl,bq,bu,ah,bD,t,bx⟩:=hrel;have bI:=bu;have cn:=Y bD;have aZ:=Y bx;have bO:=Y bq;have cJ:=ah.lt;obtain⟨a8,bo,bA⟩:=PW bu;subst bA;have cO:=t.below.size;clear bD bx bq
  by_cases ay:j<f.length
  ·have ba:j<e.length:=by rw[<-bG.out];exact ay
   obtain⟨cG,cD,B,cK,ai,cC⟩:=(bN.kp t.Vo).cell j ay;have b{G}(h:G:=by
   have cf:(j:Int)<(f.length:Int):=O9;obtain⟨b2,bB⟩:=O4 bU e[j] (gT _) i cn.out;have aF:=b2 wr f[j] o ah ((UW.get _ _ cp j ay ba).kp t.Vo);obtain⟨cP,bc⟩:=xE ((f[j]).p);rw[<-bc] at ai aF
   rcases aN:U.v e[j] ⟨l,q,r⟩ i with ⟨⟨a,bh⟩,H⟩
   rw[aN] at aF;have cl:=Y bB;have aO:=Y aN;have bC:e.drop j=e[j]::e.drop (j+1):=iD ba;have bF:=Y bC;obtain⟨bS,cr,bW,bZ,_,b4⟩:=fN (t.fR b0.out Pm);have a7:Hid (g.length=j):=bO;clear bB bc aN bC;go_wp2_with fail;refine cm aF ?_;rintro m c ⟨⟨b9,rfl,aC⟩,aY,aW⟩;have aQ:=t.trans aW;have cu:=bI.fR aW;have bv:=aY.lt;have cM:wr.heap.size<=c.heap.size:=aW.below.size;clear bS cr bW bZ b4 ai
   by_cases D:bh=.no
   ·subst D;have aG:b9=QW:=aC;subst aG;obtain⟨ax,am⟩:=xH g.length;have cw:ax=j:=by rw[am.out];exact O4 a7
    have au:c.ownsRow w2.heap.size 65 3 (.slice a8 ax bo) ax (g.flatMap ZM):=by rw[am.out];exact cu
    rw[<-am.out];have cz:ax<=1000000:=O9;clear cw
    go_wp2_with (at_builtin;refine wpList_append_lies _ rfl _ _ 311 rfl w2.heap.size 65 ci _ 3 32 underlying311 b3 b6 bV b1 rfl Pm _ _ _ rfl ((au.alloc _).alloc _) (O7 (c.heap.size+1) 0) 1 1 (ZM a) rfl rfl (ao2 (c.alloc (.cells #[O3 a.k,O3 a.n,Pj a.s] 65)) _ P7 a) (val_one a) Pm (by unfold maxLen;omega) O9 RQ (c.heap.size+2) P7 ?_)
    intro cH cx be hown' br cg _;have aj:Pn c ((c.alloc (.cells #[O3 a.k,O3 a.n,Pj a.s] 65)).alloc (.cells #[O3 a.k,O3 a.n,Pj a.s] 65)):=QJ.alloc P7 _;have bM:Ql [65] k ((c.alloc (.cells #[O3 a.k,O3 a.n,Pj a.s] 65)).alloc (.cells #[O3 a.k,O3 a.n,Pj a.s] 65)) be:=Ql.grown br (by have:=aj.size;omega) λN O=>by
     obtain⟨aI,ai⟩:=QM ((au.alloc _).alloc _) O;exact⟨by have:=(QD au N O).2;omega,aI,65,ai,by simp⟩
    have ck:=(aY.fH aj).ie bM Pm;have bY:P8 none k w2 be:=by
     refine⟨aQ.below.trans ((aj.mono (P6 bv)).trans bM.below),λN aI m O D aX=>?_⟩;have ad:=fQ aj (aQ.rest N aI m O D aX);refine(br.block N (fI ad) (λm=>?_)).trans ad;have ak:=(QD au N m.symm).2;have cB:=fI O;omega
    clear cg;go_wp2
    go_roundw
    case rel=>
     refine⟨j+1,g++[a],H,by omega,by go_num,by rw[gj,a7.out];rfl,?_,ck,O4 cl a H aO.out,bY,?_⟩
     ·refine mD ?_;rw[gj,jl,<-am.out];simpa using hown'
     ·rw[aZ.out,bF.out];exact Az aO.out
    case measure=>simp[intOf];omega
   ·obtain⟨am,au,aG⟩:=aC.XO D bT;subst aG;have ac:a1=(([],bh),H):=by rw[aZ.out,bF.out];exact H2 aO.out D
    have aK:=Y ac;clear ac D;go_wp2_with fail;have aj:=(f2 c.heap.size c).alloc Qp (.cells #[O3 a.k,O3 a.n,Pj a.s] 65);refine Vm (v:=.tuple #[Q8,.iface am au]) ?_;rw[aK.out];exact⟨⟨_,_,rfl,m7.nil _ _,aC.fH aj⟩,aY.fH aj,bE.trans (aQ.trans (P8.of (L:=none) aj (P6 bv)))⟩):=O6 h;exact UM
  ·have a:j=f.length:=O9;have ac:a1=((g,.no),i):=by rw[aZ.out,a,bG.out,ll];rfl
   have aK:=Y ac;have cf:¬ (j:Int)<(f.length:Int):=O9;clear ac a;go_wp2_with fail;refine Vm (v:=.tuple #[.slice a8 g.length bo,QW]) ?_;rw[aK.out];exact⟨⟨_,_,rfl,Vi bI ch,rfl⟩,ah,bE.trans t⟩):=O6 h;exact rZ):=O6 h;exact m9
abbrev Wj (w : Pe) : Prop := Lib.TabIs prog w "internal/strconv.uint64pow10" .u64 Lib.pow10Tab
theorem Ms.nE (h:Ms M k z p w d)(b:Bs M k z p s)(a:Wj M):Wj w:=Lib.tabBelow_of_tabIs a w (by rw[b.sz];exact h.below)
theorem MZ (a:Bool)(w:Pe):Pq 131 #[Pv a] w λb w'=>b=PK (Pj (if a then n8 else Yk))/\w'=w:=by
 have h:Pq 207 #[Pv a] w λb w'=>b=PK (Pj (if a then n8 else Yk))/\w'=w:=by
  cases a
  all_goals
   go_enter func207,ntmps207;go_wp2;go_ret;exact⟨rfl,rfl⟩
 obtain⟨e,c⟩:=xE ((if a then n8 else Yk));rw[<-c] at h ⊢;clear c;go_enter func131,ntmps131;go_wp2_with fail;refine cm h ?_;exact xy
theorem agS (g:Ms M k z p w d)(a:Int):Pq 134 #[O5 k,O3 a] w λb w'=>b=PK (Pj (if d.M.gn a≠0 then QL else Xy))/\w'=w:=by
 obtain⟨_,_,_,_,i⟩:=g;obtain⟨j,e⟩:=xE (d.M.gn a);have c:=xZ i.hh a;rw[<-e] at c ⊢;clear e
 by_cases f:j=0
 ·subst f;rw[fK P7];go_enter func134,ntmps134;go_wp2_with fail;refine cm c ?_;exact xy
 ·rw[fL f];go_enter func134,ntmps134;go_wp2_with fail;refine cm c ?_;exact xy
theorem ux (W:Bs M k z p s)(S:Wj M)(R:Ms M k z p w d)(f:Va)(t:-9223372036854775808<=f.n/\f.n<=9223372036854775807):Pq 61 #[O5 k,vA f] w λj w'=>j=PK (Pj (d.M.hu f))/\Pn w w':=by
 have i:=(f2 w.heap.size w).alloc Qp (.cells #[O3 f.k,O3 f.n,Pj f.s] 65);have r:=R.fH i;have O:=r.nE W S;have v:=Y t;clear t;obtain⟨g,a,e⟩:=f
 by_cases q:g=0
 ·subst q;have b:d.M.hu ⟨0,a,e⟩=QX:=rfl;exact vk
 by_cases u:g=1
 ·subst u;have b:d.M.hu ⟨1,a,e⟩=qa:=rfl;exact vk
 by_cases A:g=2
 ·subst A;obtain⟨N,o⟩:=xE (Va.iU ⟨2,a,e⟩);obtain⟨E,c⟩:=xE ((if N then n8 else Yk));have b:d.M.hu ⟨2,a,e⟩=E:=by rw[c,o];rfl
  rw[b];have B:=X6 ⟨2,a,e⟩ (w.alloc (.cells #[O3 2,O3 a,Pj e] 65));rw[<-o] at B;have L:=Y (λP=>MZ N P);rw[<-c] at L;clear b o c;go_enter func61,ntmps61;go_wp2_with fail;refine cm B ?_;rintro j m ⟨rfl,X⟩;have n:=i.trans (X.mono i.size);go_wp2_with fail;refine cm (O4 L m) ?_;rintro j ac ⟨rfl,rfl⟩;go_wp2;go_ret;exact⟨rfl,n⟩
 by_cases D:g=3
 ·subst D;have b:d.M.hu ⟨3,a,e⟩=UN a:=rfl;rw[b];have B:=Tryz.strconv_Itoa a v.out.1 v.out.2 _ O;obtain⟨E,c⟩:=xE (UN a);have o:(⟨(Lib.itoa a).toArray⟩:Py)=E:=by rw[c];rfl
  rw[o] at B;rw[<-c];clear b c o;go_enter func61,ntmps61;go_wp2_with fail;refine cm B ?_;rintro j m ⟨rfl,L,N,l⟩;have n:Pn w m:=by
   show Below _ _ _
   rw[l];exact i.trans (Lib.below_grow _ _ i.size L N)
  clear l;go_wp2;go_ret;exact⟨rfl,n⟩
 by_cases H:g=4
 ·subst H;have b:d.M.hu ⟨4,a,e⟩=e:=rfl;exact vk
 by_cases F:g=5
 ·subst F;have o:=agS r a;obtain⟨E,c⟩:=xE ((if d.M.gn a≠0 then QL else Xy));have b:d.M.hu ⟨5,a,e⟩=E:=by rw[c];rfl
  rw[b];rw[<-c] at o;clear b c;go_enter func61,ntmps61;go_wp2_with fail;refine cm o ?_;rintro j m ⟨rfl,l⟩;rw[l];clear l;go_wp2;go_ret;exact⟨rfl,i⟩
 have b:d.M.hu ⟨g,a,e⟩=O8:=by unfold Mo.hu;simp[q,u,A,D,H,F]
 exact vk
structure UZ (w:Pe)(u:Px)(vs:List Va):Prop where
 form:∃ aA cap,u=.slice aA vs.length cap
 at_:∀ (i:Nat) v,vs[i]? = some v->∃ g o cap c,u=.slice (some (O7 g o)) vs.length cap/\w.heap[g]? = some (PZ c 65)/\c[o+i * 3]? = some (O3 v.k)/\c[o+i * 3+1]? = some (O3 v.n)/\c[o+i * 3+2]? = some (Pj v.s)
variable {o:Option Nat}{A:Px}{l:List Va}
section
variable (h:UZ w A l)
include h
theorem UZ.fR (c:∀ (b:Nat) a,w.heap[b]? = some (Obj.cells a 65 (0,0))->w'.heap[b]? = some (Obj.cells a 65 (0,0))):UZ w' A l:=
 ⟨h.form,λm q g=>by obtain⟨b,n,i,a,j,e,f⟩:=h.at_ m q g;exact⟨b,n,i,a,j,c b a e,f⟩⟩
theorem UZ.fH (a:Pn w w'):UZ w' A l:=h.fR λ_ _ b=>fQ a b
theorem UZ.jn (a:P8 none k w w'):UZ w' A l:=h.fR λ_ _ b=>a.fR b Pm
theorem UZ.cells {i:Nat}{b:Va}(m:l[i]? = some b):∃ g a e,A=.slice (some (O7 g a)) l.length e/\g<w.heap.size/\w.cell? (O7 g (a+i * 3))=some (O3 b.k)/\w.cell? (O7 g (a+i * 3+1))=some (O3 b.n)/\w.cell? (O7 g (a+i * 3+2))=some (Pj b.s):=by
 obtain⟨g,a,e,r,q,c,j,f,n⟩:=h.at_ i b m;refine⟨g,a,e,q,fI c,?_,?_,?_⟩
 ·simp[World.cell?,c,j]
 ·simp[World.cell?,c,f]
 ·simp[World.cell?,c,n]
end
theorem D4 (x y:List UInt8)(a:List (List UInt8)):Lib.join (x::y::a) [32]=x++([32]++Lib.join (y::a) [32]):=by simp[Lib.join,List.intercalate,List.intersperse]
theorem C4:∀ (a:List ByteArray),(⟨(Lib.join (a.map (·.data.toList)) [32]).toArray⟩:ByteArray)=YI a
 | []=>rfl
 | [b]=>by
  rw[YI,gW,List.map_nil,Lib.join_one]
 | b::c::a=>by
  have h:=C4 (c::a);rw[YI,gW,gW,D4,<-h];unfold XI;simp;intro h;cases h
theorem join_le:∀ (b:List ByteArray),(∀ x ∈ b,x.size<=3000)->(Lib.join (b.map (·.data.toList)) [32]).length<=3001 * b.length
 | [],_=>by simp[Lib.join,List.intercalate]
 | [a],h=>by
  have:=h a gf;rw[gW,List.map_nil,Lib.join_one];simp;omega
 | a::g::b,h=>by
  have c:=join_le (g::b) (λx e=>h x (gE _ e));have i:=h a gf;have f:a.data.toList.length=a.size:=by simp
  rw[gW,gW,D4,gj,gj,f];rw[gW] at c;simp only[gL,mE] at c ⊢;omega
theorem S5 {m:Nat}{a:List ByteArray}(h:SQ m w A a)(v:a.length<=1000)(n:∀ x ∈ a,x.size<=3000):Pq 318 #[A,Pj ⟨#[32]⟩] w λi w'=>i=PK (Pj (YI a))/\Pn w w':=by
 rcases Nat.eq_zero_or_pos a.length with c|c
 ·obtain⟨f,g,rfl⟩:=PW h;rw[c];obtain rfl:=lm c;exact(Tryz.strings_Join_none f g ⟨#[32]⟩ w).mono λi w' ⟨b,e⟩=>⟨b,by rw[e];exact RP⟩
 ·obtain⟨j,g,rfl,u,_⟩:=World.ownsRow.form h c;have q:a.length<=g:=by
   rcases h.2 with ⟨b,_⟩|⟨t,f,r,b,_,_,e,_⟩
   ·
    cases b
   ·simp only[g7] at b;omega
  rw[<-C4];exact Tryz.strings_Join j 0 g a ⟨#[32]⟩ w (λr x f=>by
   rw[ib];have t:=(gr.1 f).1;rw[World.ownsRow.cellAt h r O9];simp[f]) (World.ownsRow.lt h j rfl).2 O9 q (by have:=join_le a n;show (Lib.join _ [32]).length<=_;omega)
theorem aw2 (bn:Bs M k z p s)(bm:Wj M)(aG:Ms M k z p w d)(X:UZ w A l)(ba:l.length<=1000)(aI:∀ v ∈ l,(-9223372036854775808<=v.n/\v.n<=9223372036854775807)/\(d.M.hu v).size<=3000)(bT:d.hq.length<=1000000000) :
  Pq 299 #[O5 k,A] w λm w'=>m=PK (.tuple #[])/\Ms M k z p w' { d with hq:=d.hq++[YI (l.map d.M.hu)] }/\P8 none k w w':=by
 obtain⟨a1,aV,aW,aN,aS⟩:=gY jI;have bo:=aG.lt;have bF:=aG;have be:=X;have bq:=Y (λ(v:Va) (g:v ∈ l) (L:Pe) (i:Pn w L)=>ux bn bm (aG.fH i) v (aI v g).1);have bv:=Y aI;obtain⟨ua,bY,H⟩:=X.form;subst H;clear aI;go_enter func299,ntmps299;go_wp2_with fail
 go_loopw [4,9] (λaL n wr=>∃ j:Nat,j<=l.length/\n=O3 j/\SQ w.heap.size wr aL ((l.take j).map d.M.hu)/\Pn w wr) (λ_ n _=>l.length - (intOf n).toNat)
 case atStart=>exact⟨0,f3 _,rfl,Zb _ _,RP⟩
 case round=>
  obtain⟨j,ai,rfl,aZ,aY⟩:=hrel;have aC:=aZ;have au:=aY;obtain⟨F,aj,rfl⟩:=PW aZ;have bx:=aY.size
  by_cases aF:j<l.length
  ·obtain⟨v,g⟩:=xE (l[j]);have ap:l[j]? = some v:=by rw[g];exact ga aF
   obtain⟨b0,aL,bW,H,bK,br,bu,B⟩:=(be.fH au).cells ap;simp only[g7] at H;obtain⟨rfl,_,rfl⟩:=H;have bZ:(j:Int)<(l.length:Int):=O9;obtain⟨x,r⟩:=xE (d.M.hu v);have aQ:=Y (O4 bq v (gt ap));rw[<-r] at aQ;have bD:=Y r;obtain⟨D,W⟩:=xE ((l.take j).map d.M.hu);have ax:D.length=j:=by rw[W];simp;omega
   have bB:=Y W;rw[<-W] at aC ⊢;have bO:World.ownsRow wr w.heap.size 9 1 (.slice F j aj) j (D.map Value.string):=by
    have h:World.ownsRow wr w.heap.size 9 1 (.slice F D.length aj) D.length (D.map Value.string):=aC;rw[ax] at h;exact h
   rw[ax];have bQ:=Y ax;have bh:=Y ap;clear r W ax g ap;go_wp2_with fail;obtain⟨w2,q⟩:=xE (wr.alloc (.cells #[O3 v.k,O3 v.n,Pj v.s] 65));obtain⟨bS,aD⟩:=xE wr.heap.size;have aJ:w2.heap[bS]? = some (ZK v):=by rw[q,aD];exact Ph _ _
   have bE:=Y (fX aJ);have ac:Pn w w2:=by show Below _ _ _;rw[q];exact au.alloc bx _
   have bR:=Qg bO (show Pn wr w2 by rw[q];exact QJ)
   have bU:k<w2.heap.size:=by have:=ac.size;omega
   have am:=fI aJ;rw[<-q,<-aD];clear q aD aJ br bu B bK;refine UC 5 λa=>?_;refine uh 0 (.slice F j aj) (a) ?_;refine up 1 k 0 a ?_;refine up 2 k 0 a ?_;refine up 3 k 0 a ?_;refine jN 4 bE.out a ?_;refine Rl 5 λK c=>?_;go_simp;refine cm (O4 aQ _ (ac.drew)) ?_;rintro m b ⟨rfl,ah⟩;refine ko c ?_;clear c K;have a7:=ac.drew.trans (ah.mono ac.drew.size);have bc:=Qg bR ((f2 _ w2).drew.trans ah);have bj:=a7.size;refine uaZ 6 ?_;refine Rl 7 λK c=>?_
   refine step_append_lies _ rfl _ _ 26 rfl w.heap.size 9 a1 (Pj ByteArray.empty) 1 16 ju aV aW aN aS rfl Pm _ _ _ rfl (bc.alloc _) (O7 b.heap.size 0) 1 1 [Pj x] rfl rfl (Zc b x _ rfl) (qw x) Pm (by unfold maxLen;omega) O9 RQ (b.heap.size+1) P7 ?_
   intro bG bf bV hown' bL bI _;refine ko c ?_;clear c K;have bC:=(a7.alloc bj (.cells #[Pj x] 9)).grown bL RQ (λN O=>(QD bc N O).2);clear bI;refine uz 8 (.slice (some (O7 bG 0)) (j+1) bf) ?_;refine TQ ?_ _;go_simp;go_wp2
   go_roundw
   case rel=>
    refine⟨j+1,by omega,by go_num,?_,bC⟩;have bM:l.take (j+1)=l.take j++[v]:=by
     rw[g3 aF];have aK:=O4 bh;rw[ga aF] at aK;cases aK;rfl
    rw[bM,gM,<-bB.out];refine mD ?_;rw[gj,gM,bQ.out]
    show World.ownsRow _ _ _ _ _ _ (_++[Value.string (d.M.hu v)])
    rw[<-bD.out];exact hown'
   case measure=>simp[intOf];omega
  ·have bh:j=l.length:=O9;subst bh;have e4:=S5 (Qg aC (f2 wr.heap.size wr).drew) (by rw[gu,gO];exact ba) (λx r=>by
    obtain⟨v,g,rfl⟩:=hy.1 r;rw[gO] at g;exact(O4 bv v g).2)
   obtain⟨q,D⟩:=xE (YI ((l.take l.length).map d.M.hu));obtain⟨bO,am⟩:=xE (((l.take l.length).map d.M.hu).length);rw[<-D,<-am] at e4;rw[<-am];rw[gO] at D;have bc:=Y D;obtain⟨T,E,I,C,bQ⟩:=bF;have t:=bQ.fH au;have bB:=t.lt;obtain⟨bK,br,bM⟩:=PW t.lg;subst bM;have bj:=t;obtain⟨B,_⟩:=t.hh.at_ 0 _ rfl;obtain⟨aQ,ax⟩:=xE d.hq.length;rw[<-ax] at B;have bu:=Y B;have ap:=Y ax;have bV:aQ<=1000000000:=O9;clear D am B ax;go_wp2_with fail
   refine UC 9 λa=>?_;refine iy ?_;refine up 3 k 2 a ?_;refine up 4 k 2 a ?_;refine uk 5 bu.out a ?_;refine uh 6 (.slice F bO aj) (a) ?_;refine Rl 7 λK c=>?_;go_simp;refine cm e4 ?_;rintro m b ⟨rfl,ah⟩;have f:Pn wr b:=(f2 _ wr).drew.trans ah;refine c.out _ _ (λ_=>f) ?_;clear c K;refine Rl 8 λK c=>?_;go_simp;refine c.out _ _ (λ_=>f.alloc f.size _) ?_;clear c K;refine Rl 9 λK c=>?_;have aJ:=bj.fH (f.alloc f.size (.cells #[Pj q] 9));have W:=aJ.lg;rw[<-ap.out] at W
   have bU:=f.size;refine step_append_lies _ rfl _ _ 26 rfl k 9 a1 (Pj ByteArray.empty) 1 16 ju aV aW aN aS rfl Pm _ _ _ rfl W (O7 b.heap.size 0) 1 1 [Pj q] rfl rfl (Zc b q _ rfl) (qw q) Pm (by unfold maxLen;omega) O9 RQ (b.heap.size+1) P7 ?_
   intro bG bE ac hown4 aD bL _;refine ko c ?_;clear c K;have bD:World.grownBy (b.alloc (.cells #[Pj q] 9)) ac (Value.slice bK d.hq.length br).ownBlock:=by rw[<-ap.out];exact aD
   obtain⟨bI,bC⟩:=aJ.OY q (a:=.slice (some (O7 bG 0)) (aQ+1) bE) bD (by rw[<-ap.out];exact hown4)
   obtain⟨bR,bS⟩:=(aJ.hh.fR (a:=[9]) (j:=k) (w':=ac) (Ql.grown aD RQ λj ai=>by
    obtain⟨e,bf⟩:=QM W ai;exact⟨(W.lt j ai).1,e,9,bf,by simp⟩) Pm Pm Pm Pm Pm).at_ 0 _ rfl
   have a7:=(P8.of (L:=none) au (P6 bo)).trans ((P8.of (L:=none) (f.alloc f.size (.cells #[Pj q] 9)) (P6 bB)).trans bC);have bW:k<ac.heap.size:=by have:=aD.size;simp at this;omega
   clear bL;refine uz 10 (PL k 0) ?_;refine uz 11 (PL k 2) ?_;refine uz 12 (PL k 2) ?_;refine uaZ 13 ?_;refine TQ ?_ _;go_simp;go_wp2
   go_end0
   have aK:=bI;rw[bc.out] at aK;exact⟨rfl,⟨_,_,_,_,aK⟩,a7⟩
theorem sJ (a b:Py):a++b=XI a b:=by
 apply ByteArray.ext;simp[XI]
def py (c a b:Int):Va × Er:=if c=28 then (QE (decide (a<b)),.no) else if c=29 then Vl (a+b) else if c=30 then Vl (a - b) else Vl (a * b)
def pw (a b:Py):Va × Er:=if 500<a.size+b.size then (vU,f0 Vd) else (Vk (XI a b),.no)
def zV (s:Px)(w:Pe)(b:Va × Er)(c:Ending)(w':Pe):Prop:=(∃ a,c=PK (.tuple #[vA b.1,a])/\X8 s w' a b.2)/\Pn w w'
theorem xG (a:Int)(w:Pe):Pq 314 #[O3 a] w (zV s w (Vl a)):=by
 by_cases h:a < -1000000000\/1000000000<a
 ·exact alz s a h w
 ·exact OD s a h w
theorem Sd (r u a:Int)(au:-1000000000<=u/\u<=1000000000)(ap:-1000000000<=a/\a<=1000000000)(w:Pe):Pq 294 #[O3 r,O3 u,O3 a] w (zV s w (py r u a)):=by
 obtain⟨aV,aO⟩:=au;obtain⟨aS,aQ⟩:=ap;have e{G}(h:G:=by
 obtain⟨B,c⟩:=xE (py r u a);rw[<-c]
 by_cases W:r=28
 ·subst W
  by_cases ak:u<a
  ·have i:Hid (B=(QE true,.no)):=by show _=_;rw[c];unfold py;rw[fL rfl,g4 ak]
   clear c;go_enter func294,kD;go_wp2_with fail;rw[<-m.out];refine cm (WI true w2) ?_;rintro S wb ⟨rfl,g⟩;obtain⟨b,f⟩:=xE (QE true);exact Ic
  ·have i:Hid (B=(QE false,.no)):=by show _=_;rw[c];unfold py;rw[fL rfl,gN ak]
   clear c;go_enter func294,kD;go_wp2_with fail;rw[<-m.out];refine cm (WI false w2) ?_;rintro S wb ⟨rfl,g⟩;obtain⟨b,f⟩:=xE (QE false);exact Ic
 by_cases ac:r=29
 ·subst ac;have i:Hid (B=Vl (u+a)):=by show _=_;rw[c];rfl
  clear c W;go_enter func294,kD;go_wp2_with fail;rw[<-m.out];refine cm (xG (s:=s) (u+a) w2) ?_;rintro S wb ⟨⟨ah,rfl,ad⟩,g⟩;obtain⟨b,f⟩:=xE ((Vl (u+a)).1);exact Ak
 by_cases am:r=30
 ·subst am;have i:Hid (B=Vl (u - a)):=by show _=_;rw[c];rfl
  clear c W ac;go_enter func294,kD;go_wp2_with fail;rw[<-m.out];refine cm (xG (s:=s) (u - a) w2) ?_;rintro S wb ⟨⟨ah,rfl,ad⟩,g⟩;obtain⟨b,f⟩:=xE ((Vl (u - a)).1);exact Ak
 have i:Hid (B=Vl (u * a)):=by show _=_;rw[c];unfold py;rw[fK W,fK ac,fK am]
 have e{G}(h:G:=by
 clear c;go_enter func294,kD;go_wp2_with fail;rw[<-m.out]
 try rw[ak]
 refine cm (xG (s:=s) (u * a) w2) ?_;rintro S wb ⟨⟨ah,rfl,ad⟩,g⟩;obtain⟨b,f⟩:=xE ((Vl (u * a)).1);exact Ak):=O6 h;exact E3):=O6 h;exact FW
theorem aAO (u a:Py)(ah:u.size<=1000000)(ad:a.size<=1000000)(w:Pe):Pq 295 #[Pj u,Pj a] w (zV s w (pw u a)):=by
 have e{G}(h:G:=by
 obtain⟨B,c⟩:=xE (pw u a);rw[<-c]
 by_cases f:500<u.size+a.size
 ·have i:Hid (B=(vU,f0 Vd)):=by show _=_;rw[c];unfold pw;rw[fL f]
  have S:(u.size:Int)+(a.size:Int) > 500:=O9;clear c f;go_enter func295,ntmps295;go_wp2_with fail;rw[<-m.out];refine cm (X5 Vd w2) ?_;rintro W wb ⟨⟨b,rfl,ac,r⟩,g⟩;have D:X8 s wb (.iface 122 (PL b 0)) (f0 Vd):=⟨b,rfl,r⟩;have e{G}(h:G:=by
  clear r ac;go_wp2_with fail;obtain⟨aN,H⟩:=xE (((wb.setCell (O7 w.heap.size 0) (O3 0)).setCell (O7 w.heap.size 1) (O3 0)).setCell (O7 w.heap.size 2) (Qn));rw[<-H];have O:=lq q.out (O3 0) (O3 0) (Qn);have t:=hj aj Qp (O3 0) (O3 0) (Qn);have N:=Tn (k:=w.heap.size) q.out Qp (O3 0) (O3 0) (Qn);rw[<-H] at O t N;obtain⟨bm,be,bj,_,_⟩:=fX O;refine nz (v:=.tuple #[vA vU,.iface 122 (PL b 0)]) ?_;rw[i.out];exact⟨⟨_,rfl,D.Rf N Pm⟩,t⟩):=O6 h;exact xq
 ·have i:Hid (B=(Vk (XI u a),.no)):=by show _=_;rw[c];unfold pw;rw[fK f]
  have S:¬ (u.size:Int)+(a.size:Int) > 500:=O9;clear c f;go_enter func295,ntmps295;go_wp2_with fail;rw[<-m.out,sJ];refine cm (qG (XI u a) w2) ?_;rintro W wb ⟨rfl,g⟩;obtain⟨b,D⟩:=xH (Vk (XI u a));rw[<-D.out];have q:=Y (fQ g ai.out);have aj:=F.trans (g.mono F.size);obtain⟨aD,ay,aC,aF,aG,aI,aK⟩:=Qb q.out;exact Gc):=O6 h;exact FW
theorem Oi (b:Tr)(e:Nat)(w:Pe)(h:TV w b e):Pq 355 #[O5 e] w λi w'=>i=PK (Pv (decide (b.tx=g2)))/\Pn w w':=by
 obtain⟨m,_,g,_⟩:=h.cells;obtain⟨j,c⟩:=xE b.tx;rw[<-c] at g ⊢;clear c h
 by_cases a:j=g2
 ·have f:=VL (a:=g2) rfl a;rw[g4 a];clear a;go_enter func355,ntmps355;go_wp2;go_ret;exact⟨rfl,RP⟩
 ·have f:=Vt (a:=g2) rfl a;rw[gN a];clear a;go_enter func355,ntmps355;go_wp2;go_ret;exact⟨rfl,RP⟩
theorem aGO:WM 355:=λ_ _=>by kernel_rfl
theorem ajr {F:Nat}{e:List Tr}{a:Tr}{i:Nat}(r:U6 F w A e)(am:e.length<=90000)(O:TV w a i)(W:a.count<=20000):Pq 341 #[A,O5 i] w λm w'=>m=PK (Pv (hasArgs e a))/\Pn w w':=by
 have g:=D2 355 (λj=>decide (j.tx=g2)) aGO e A w r am λau _ ap H _ h=>Oi au ap H h;obtain⟨v,b⟩:=xE (e.any λj=>decide (j.tx=g2));rw[<-b] at g;have ah:=Y (λL (c:Pn w L)=>y9 a i false L (O.fH c) W);have aj:(gI a false).length<=100000:=by
  have ad:(gI a false).length<=((if false=true then Qv a else [])++(Uj a).map Tr.tx++(Qd a).map Tr.tx).length:=s8 _;have ak:=sM a;have q:=Go.Proofs.YticfnaiehdpbmaaGreatDoor.Ur a;have c:=Si a;simp at ad;omega
 obtain⟨ua,aG,R⟩:=r.form;subst R;have t:hasArgs e a=(!v && !hasB (gI a false) g2):=by rw[b];rfl
 rw[t];clear b t
 cases v with
 | true=>
  go_enter func341,ntmps341;go_wp2_with fail;refine cm g ?_;rintro m D ⟨rfl,b⟩;have f:=b;clear b;go_wp2;go_ret;exact⟨rfl,f⟩
 | false=>
  obtain⟨aD,c⟩:=xE (hasB (gI a false) g2);rw[<-c];go_enter func341,ntmps341;go_wp2_with fail;refine cm g ?_;rintro m D ⟨rfl,b⟩;have f:=b;clear b;go_wp2_with fail;refine cm (O4 ah D f) ?_;rintro m w2 ⟨⟨u2,rfl,B⟩,ai⟩;have ac:=f.trans (ai.mono f.size);obtain⟨ay,aF,ax⟩:=PW B;subst ax;have q:=WQ (gI a false) g2 _ w2 B aj;rw[<-c] at q;go_wp2_with fail;refine cm q ?_;rintro m aC ⟨rfl,rfl⟩;go_wp2;go_ret;exact⟨by rw[c];simp,ac⟩
def XE (c:Int)(l:List Va)(b:Nat)(d:St):St:=(l.zipIdx.take b).foldl (λd (e,a)=>d.Rj c (XI ⟨#[97]⟩ (UN a)) e false) d
theorem C2 (c:Int)(l:List Va)(a:Nat)(d:St)(f:Va)(b:l[a]? = some f):XE c l (a+1) d=(XE c l a d).Rj c (XI ⟨#[97]⟩ (UN a)) f false:=by
 have e:=(gr.1 b).1;have g:a<l.zipIdx.length:=by rw[jj];exact e
 unfold XE;rw[g3 g,iM,List.getElem_zipIdx];rw[ga e] at b;cases b;simp
theorem Sz.XE (b:Int)(l:List Va):∀ (a:Nat) {d:St},Sz a6 d->a<=l.length->Sz (a6+a) (XE b l a d)
 | 0,_,h,_=>h
 | a+1,d,h,c=>by
  rw[C2 b l a d _ (ga O9)];exact(Sz.XE b l a h O9).Rj _ _ _ _
theorem SL.Ya {e b c a:Px}{w2:Pe}(h:SL k e b c a w w')(f:Ql Th k w' w2):SL k e b c a w w2:=h.trans (SL.jR f)
theorem WK (bT:Bs M k z p s)(bS:Wj M)(ba:Mx M k z p T E I C w d)(aG:Sz a6 d)(cK:a6+2000<1000000000)(X:UZ w A l)(cL:l.length<=1500) :
  Pq 342 #[O5 k,A] w λm w'=>m=PK (vA (SE l d).1)/\Mx M k z p T E I C w' (SE l d).2/\SL k I C I C w w':=by
 have bU:=ba.lt;have b{G}(h:G:=by
 obtain⟨aL,bA⟩:=xE (d.M.objs.length:Int);obtain⟨a1,au⟩:=xE ({ d with M:=d.M.Qj 0 }:St);obtain⟨B,am⟩:=xE (a1.Rj aL Zz (WT l.length) false:St);have bh:Sz (a6+1) a1:=by rw[au];exact aG.heap (ge _) (aG.go.Qj 0) rfl
 have b3:Sz (a6+2) B:=by rw[am];exact bh.Rj _ _ _ _
 have bf:SE l d=(UH aL,XE aL l l.length B):=by
  unfold SE XE;rw[am,au,<-bA,iB (im jj)]
 rw[bf];have bq:=wO (ba.fH r) aG O9 0;rw[<-bA,<-au] at bq;have HP:=Y (λL (i:Mx M k z p T E I C L a1)=>ZQ i bh O9 aL Zz (WT l.length) false);rw[<-am] at HP;have bV:=Y aI;have bF:=X.fH r;have b6:=SL.of (o:=I) (f:=C) r (P6 bU);have b0:=Y aF;obtain⟨ua,bo,W⟩:=X.form;subst W;have ck:k<=H:=O9;clear aI aF au am bf bA;go_enter func342,ntmps342;go_wp2_with fail;rw[<-aD.out,<-aj];clear aj;refine cm bq ?_;rintro m aK ⟨rfl,br,aN⟩;have b1:=b6.Ya aN
 have b4:=Y (aN.rest _ _ _ bV.out Pm);have bK:=bF.fR λN e O=>aN.rest N e 65 O Pm;have cg:=br.lt;go_wp2_with fail;refine UC 7 λa=>?_;refine iy ?_;refine uh 3 (O3 aL) (a) ?_;refine uh 4 (.slice ua l.length bo) (a) ?_;refine uh 5 (O3 (l.length:Int)) (a) ?_;refine Rl 6 λK c=>?_;go_simp;refine cm (yo (l.length:Int) aK.drew) ?_;rintro m ah ⟨rfl,bQ⟩;have q:Pn aK ah:=(f2 _ aK).drew.trans bQ;refine c.out _ _ (λ_=>q) ?_;clear c K;obtain⟨cM,aY⟩:=xE (WT l.length);rw[<-aY];rw[<-aY] at HP
 have bO:=br.fH q;have cl:=b1.trans (SL.of q (P6 cg));have bG:=Y (fQ q b4.out);have bM:=bK.fH q;clear aY;refine Rl 7 λK c=>?_;go_simp;refine cm (O4 HP _ bO) ?_;rintro m cB ⟨rfl,bu,aQ⟩;refine ko c ?_;clear c K;have b9:=cl.Ya aQ;have ch:=Y (aQ.rest _ _ _ bG.out Pm);have bL:=bM.fR λN e O=>aQ.rest N e 65 O Pm;have cJ:=bu.lt;refine TQ ?_ _;go_simp;go_wp2_with fail
 go_loopw [22] (λn wr=>∃ j:Nat,j<=l.length/\n=O3 j/\Mx M k z p T E I C wr (XE aL l j B)/\SL k I C I C w wr/\wr.heap[H]? = some (PZ #[O3 0,O3 0,Qn] 65)/\UZ wr (.slice ua l.length bo) l) (λn _=>l.length - (intOf n).toNat)
 case atStart=>exact⟨0,f3 _,rfl,bu,b9,ch.out,bL⟩
 case round=>
  obtain⟨j,ai,rfl,bB,bv,bD,bC⟩:=hrel;have ac:=bB;have bn:=Y bD;have bx:=bB.lt;clear bD
  by_cases bR:j<l.length
  ·obtain⟨v,bc⟩:=xE (l[j]);have aV:l[j]? = some v:=by rw[bc];exact ga bR
   obtain⟨cG,cy,cC,W,ci,bW,bY,bZ⟩:=bC.cells aV;simp only[g7] at W;obtain⟨rfl,_,rfl⟩:=W;have cf:(j:Int)<(l.length:Int):=O9;have bI:=Y aV;clear bc aV;go_wp2_with fail;obtain⟨g,ap⟩:=xE (wr.alloc (.cells #[O3 v.k,O3 v.n,Pj v.s] 65));obtain⟨cx,aC⟩:=xE wr.heap.size;have aS:g.heap[cx]? = some (ZK v):=by rw[ap,aC];exact Ph _ _
   have b7:=Y (fX aS);have D:Pn wr g:=by rw[ap];exact QJ
   have cz:k<g.heap.size:=by have:=D.size;omega
   have cI:=fI aS;obtain⟨F,ax⟩:=xH (UN (j:Int));have a7:(⟨(Lib.itoa (j:Int)).toArray⟩:Py)=F:=by rw[ax.out];rfl
   have cA:F.size<=21:=by
    have h:=Lib.itoa_length_le (j:Int) O9 O9;rw[ax.out];show (List.toArray _).size<=21;rw[jK];exact h
   have bj:=Tryz.strconv_Itoa (j:Int) O9 O9 g.drew ((show Ms M k z p g.drew _ from ⟨_,_,_,_,(ac.fH D).fH (f2 g.heap.size g).drew⟩).nE bT bS);rw[a7] at bj;obtain⟨be,aW⟩:=xH (XE aL l j B);rw[<-aW.out] at ac;have cn:Sz (a6+2+j) be:=by rw[aW.out];exact Sz.XE aL l j b3 O9
   have HP:=Y (λL (i:Mx M k z p T E I C L be)=>ZQ i cn O9 aL (XI ⟨#[97]⟩ F) v false);have cO:¬ (9223372036854775807:Nat)<1+F.size:=O9;rw[<-ap,<-aC];clear ap aC aS bW bY bZ ci a7;refine UC 8 λa=>?_;refine iy ?_;refine uh 3 (O3 aL) (a) ?_;refine uh 4 (O3 (j:Int)) (a) ?_;refine jN 7 b7.out a ?_;refine Rl 5 λK c=>?_;go_simp;refine cm bj ?_;rintro m ah ⟨rfl,cp,cu,bm⟩;have q:Pn g ah:=by
    rw[bm];exact(f2 _ g).drew.trans (Lib.below_grow g.heap.size g.drew (f2 g.heap.size g).drew.size cp cu)
   refine c.out _ _ (λ_=>q) ?_;clear c K bm;refine uh 6 (Pj (XI ⟨#[97]⟩ F)) (q) ?_ (bi:=fM ⟨by kernel_rfl,λ_ _=>by go_simp;rw[sJ]⟩)
   refine Rl 8 λK c=>?_;go_simp;refine cm (O4 HP _ ((ac.fH D).fH q)) ?_;rintro m cD ⟨rfl,bE,aJ⟩;refine ko c ?_;clear c K;have aZ:Pn wr ah:=D.trans (q.mono D.size);have cr:=(bv.trans (SL.of aZ (P6 bx))).Ya aJ;have cq:=Y (aJ.rest _ _ _ (fQ aZ bn.out) Pm);have cw:=(bC.fH aZ).fR λN e O=>aJ.rest N e 65 O Pm;refine TQ ?_ _;go_simp;go_wp2
   go_roundw
   case rel=>
    refine⟨j+1,by omega,by go_num,?_,cr,cq.out,cw⟩;rw[aW.out,ax.out,<-C2 aL l j B v bI.out] at bE;exact bE
   case measure=>simp[intOf];omega
  ·have aZ:j=l.length:=O9;subst aZ;have cf:¬ (l.length:Int)<(l.length:Int):=O9;obtain⟨f,aS⟩:=xH (UH aL);have aW:=th aL wr;rw[<-aS.out] at aW;go_wp2_with fail;refine cm aW ?_;rintro m wb ⟨rfl,t⟩;have D:=Y (fQ t bn.out);have bc:=ac.fH t;have a7:=bv.trans (SL.of t (P6 bx));obtain⟨bY,bI,bW,g,ci⟩:=fX D.out;have bZ:=g 0;have b2:=g 1;have b7:=g 2;clear g;go_wp2_with fail
   obtain⟨bE,ap⟩:=xE (((wb.setCell (O7 H 0) (O3 f.k)).setCell (O7 H 1) (O3 f.n)).setCell (O7 H 2) (Pj f.s));rw[<-ap];have aV:=lq D.out (O3 f.k) (O3 f.n) (Pj f.s);have aC:=Tn D.out ck (O3 f.k) (O3 f.n) (Pj f.s);have ax:=a7.new aC (UU b0.out _ _ _);have F:=bc.ie aC Pm;rw[<-ap] at aV ax F;obtain⟨bm,be,bj,_,_⟩:=fX aV;refine XW (v:=vA f) ?_;refine⟨?_,F,ax⟩;rw[aS.out]):=O6 h;exact FV
end
end Hp
theorem M7 {d:List Tk}{b:Um}{e:Tr}{c:Nat}(h:Wh d b=.ok e c):∃ a,Sl d b b.fuel [] 0=.ok a c/\e=VJ (.mk 1 O8 0 a):=by
 unfold Wh at h;obtain⟨a,g,f,h⟩:=Ua h;cases h;exact⟨a,f,rfl⟩
structure pn (p q g h k L c1 c2 a b:Nat)(W:Pe):Prop where
 x3:W.cell? (O7 p 3)=some (.slice (some (O7 g 0)) L c1)
 y3:W.cell? (O7 q 3)=some (.slice (some (O7 h 0)) L c2)
 xk:W.cell? (O7 g k)=some (O5 a)
 yk:W.cell? (O7 h k)=some (O5 b)
theorem aq5 (aC aD:Nat->Prop):∀ (D:Nat) (a:Tr),a.count<=D->a.count<=100000->∀ (i k:Nat) (w:Pe),Qa aC w a i->Qa aD w a k ->
  Pq 23 #[O5 i,O5 k] w λm bh=>m=PK (Pv true)/\Pn w bh:=by
 intro D
 induction D with
 | zero=>
  exact tl
 | succ D aJ=>
  intro a g aW i k w bn bB;obtain⟨bW,E,ai,ax,bK,aZ⟩:=bn.Uf;obtain⟨v,C,F,I,bo,t⟩:=bB.Uf;have au:=PE.length _ _ aZ;have M:=PE.length _ _ t;have b{G}(h:G:=by
  obtain⟨be,aX,aY,ah,_⟩:=fZ ai;obtain⟨aQ,aG,aK,ac,_⟩:=fZ F;obtain⟨ua,uc,br⟩:=TK ax;subst br;obtain⟨bY,A,B⟩:=TK I;subst B;rw[au] at ah;rw[M] at ac;have bV:a.fJ.length<=100000:=by have:=Tq a.fJ;omega
  obtain⟨a7,aF⟩:=xE a.kd;obtain⟨r,aS⟩:=xE a.tx;obtain⟨a6,ba⟩:=xE a.n;rw[<-aF] at be aQ;rw[<-aS] at aX aG;rw[<-ba] at aY aK;have bG:=t;have bE:=Y aJ;have bF:=Y z;have bM:=Y g;have bL:=Y aW;have bI:=Y au;have bj:=Y M;have HP:=Y (fI ai);have aI:=Y (fI F);have aN:=Y ah;have bf:=Y ac;clear bK bo t aJ z g aW ai F aF aS ba au M;go_enter func23,ntmps23;go_wp2_with fail
  go_region
  go_wp2_with fail
  go_loopw [64] (λn wr=>∃ j:Nat,j<=a.fJ.length/\n=O3 j/\Pn w wr) (λn _=>a.fJ.length - (intOf n).toNat)
  case atStart=>exact⟨0,f3 _,rfl,RP.drew⟩
  case round=>
   obtain⟨j,bR,rfl,O⟩:=hrel;have l:=O;clear O be aX aY ah aQ aG aK ac
   by_cases T:j<a.fJ.length
   ·obtain⟨o,bT,B,aj⟩:=TG ax (by have:=O4 bI;omega)
    have b{G}(h:G:=by
    obtain⟨h,bS,B,H⟩:=TG I (by have:=O4 bj;omega)
    have b{G}(h:G:=by
    obtain⟨aO,bD⟩:=PE.get _ _ aZ j T;obtain⟨t,bx⟩:=PE.get _ _ bG j T;have aV:o<w.heap.size:=(QD ax o rfl).1;have a8:h<w.heap.size:=(QD I h rfl).1;have bQ:Qa aC wr.drew a.fJ[j] E[j]:=Qa.fH (λx _ ap=>(l.drew).block x ap) _ _ bD;have bm:Qa aD wr.drew a.fJ[j] C[j]:=Qa.fH (λx _ ap=>(l.drew).block x ap) _ _ bx;have f:pn i k o h j a.fJ.length uc A E[j] C[j] wr.drew:=
     ⟨by rw[gs (w:=w) ((l.drew).block i HP.out)];exact aN.out,by rw[gs (w:=w) ((l.drew).block k aI.out)];exact bf.out,by rw[gs (w:=w) ((l.drew).block o aV)];exact aj j aO,by rw[gs (w:=w) ((l.drew).block h a8)];exact H j t⟩
    have bC:=TF a.fJ j T;have ad:=O4 bF;have ak:=O4 bM;have q:=O4 bL;have d:=bE.out a.fJ[j] O9 O9 E[j] C[j] wr.drew bQ bm;obtain⟨u,U⟩:=xE (E[j]);obtain⟨N,O⟩:=xE (C[j]);rw[<-U,<-O] at f d;have bU:(j:Int)<(a.fJ.length:Int):=O9;have bv:Hid (∀ s,Below wr.drew.heap.size wr.drew s->pn i k o h j a.fJ.length uc A u N s/\Pn w s):=λs ak=>by
     have q:Pn w s:=l.drew.trans (ak.mono l.drew.size);refine⟨⟨?_,?_,?_,?_⟩,q⟩
     ·rw[gs (w:=w) (q.block i HP.out)];exact O4 aN
     ·rw[gs (w:=w) (q.block k aI.out)];exact O4 bf
     ·rw[gs (w:=w) (q.block o aV)];rw[U];exact aj j aO
     ·rw[gs (w:=w) (q.block h a8)];rw[O];exact H j t
    clear aj H bC ad ak q U O;go_wp2_with fail;refine wp_region_held (S:=pn i k o h j a.fJ.length uc A u N) Qs ?_;refine mK ?_;refine wh 0 (O5 i) f ?_;refine wh 1 (O5 i) f ?_;refine wh 2 (PL i 3) f ?_;refine wg 3 (.slice (some (O7 o 0)) a.fJ.length uc) rfl (fM ⟨by kernel_rfl,λR p=>by have am:=pn.x3 p;go_simp⟩) f ?_
    refine wh 4 (O3 (j:Int)) f ?_;refine wh 5 (PL o j) f ?_;refine wg 6 (O5 u) rfl (fM ⟨by kernel_rfl,λR p=>by have am:=pn.xk p;go_simp⟩) f ?_
    refine wh 7 (O5 k) f ?_;refine wh 8 (O5 k) f ?_;refine wh 9 (PL k 3) f ?_;refine wg 10 (.slice (some (O7 h 0)) a.fJ.length A) rfl (fM ⟨by kernel_rfl,λR p=>by have am:=pn.y3 p;go_simp⟩) f ?_
    refine wh 11 (O3 (j:Int)) f ?_;refine wh 12 (PL h j) f ?_;refine wg 13 (O5 N) rfl (fM ⟨by kernel_rfl,λR p=>by have am:=pn.yk p;go_simp⟩) f ?_
    refine Ye 14 λK c=>?_;go_simp;refine lC ?_;rintro m s ⟨rfl,bq⟩;obtain⟨a1,bu⟩:=bv.out s bq;refine c.out _ _ a1 (λ_=>?_);clear c K;refine wh 15 (Pv false) a1 ?_;refine YN ?_;go_wp2
    go_roundw
    case rel=>exact⟨j+1,by omega,by go_num,bu⟩
    case measure=>simp[intOf];omega):=O6 h;exact UM):=O6 h;exact UM
   ·have d:j=a.fJ.length:=O9;subst d;go_wp2;go_ret;exact⟨rfl,l⟩):=O6 h;exact un
theorem Me (a:Tr):(VJ a).kd=a.kd:=by unfold VJ;split <;> rfl
theorem Zu {d c:List Py}{e:Py}{a:Tr}(h:TD d c e=.ok a):a.kd=1/\a.count<=1500:=by
 unfold TD at h
 split at h
 ·
  cases h
 ·split at h
  ·
   cases h
  ·split at h
   ·
    cases h
   ·rename_i b
    split at h
    ·
     cases h
    ·
     cases h;obtain⟨f,_,rfl⟩:=M7 b;exact⟨Me _,by omega⟩
   ·
    cases h
def EO (e:rE)(b:Pe)(c:Ending)(a:Pe):Prop:=
 match e with
 | .ok f=>∃ d,c=PK (.tuple #[O5 d,Pv true])/\Qa (gp b.heap.size) a f d/\Pn b a
 | _=>c=PK (.tuple #[.pointer none,Pv false])/\Pn b a
theorem al2 (d:rE)(n:Py)(w:Pe)(c:∀ e,d=.ok e->e.kd=1)(g:Pq 15 #[Pj n] w (p2 d w)):Pq 9 #[Pj n] w (EO d w):=by
 cases d with
 | ok e=>
  have k:=c e rfl;clear c;go_enter func9,ntmps9;go_wp2_with fail;refine cm g ?_;rintro j f ⟨m,rfl,i,a⟩;obtain⟨r,q,l,_,_,_⟩:=i.Uf;obtain⟨p,_,_,_,_⟩:=fZ l;rw[k] at p;have b:=a;clear l k;go_wp2_with fail
  go_region
  go_wp2_with fail;exact Vm (v:=.tuple #[O5 m,Pv true]) ⟨m,rfl,Qa.fH (I:=gp w.heap.size) (w:=f) (w':=f.drew) (λo _ _=>rfl) _ _ i,b.drew⟩
 | «at» i k=>
  clear c;go_enter func9,ntmps9;go_wp2_with fail;refine cm g ?_;rintro j f ⟨o,rfl,_,_,a⟩;have b:=a;go_wp2_with fail
  go_region
  go_wp2_with fail;exact Vm (v:=.tuple #[Ry,Pv false]) ⟨rfl,b.drew⟩
 | bare=>
  clear c;go_enter func9,ntmps9;go_wp2_with fail;refine cm g ?_;rintro j f ⟨rfl,a⟩;have b:=a;go_wp2_with fail
  go_region
  go_wp2_with fail;exact Vm (v:=.tuple #[Ry,Pv false]) ⟨rfl,b.drew⟩
theorem LC (d b:List Py)(c:Py)(a:Pe)(e:hx d b a)(i:∀ g ∈ b,1<=g.size)(f:j1 a):Pq 9 #[Pj c] a (EO (TD d b c) a):=
 al2 _ c a (λ_ h=>(Zu h).1) (jv d b c a e i f)
theorem aqo (P:Tk->Prop)(e c:List Py)(a:Py)(s:∀ g ∈ c,1<=g.size)(v:P ⟨6,⟨#[]⟩,0,a.size⟩)(hP:∀ b j l k f,b<a.size->Xf e c a b=.tok j l k f->P ⟨j,l,k,b⟩):∀ p b d o,a.size - b=p->b<=a.size->(∀ m ∈ d,P m)->Vq e c a b d=.ok o->∀ m ∈ o,P m:=by
 intro p
 induction p using Nat.strongRecOn with
 | ind p w=>
  intro b d o z A q h
  by_cases i:b<a.size
  ·
   cases n:Xf e c a b with
   | f0 r t=>rw[yd e c a b d r t i n] at h;cases h
   | tok j l k f=>
    have t{G}(h:G:=by
    refine w (a.size - P9 TU a f) O9 (P9 TU a f) _ o rfl r (λm g=>?_) h
    rcases gU.1 g with g|g
    ·exact q m g
    ·rw[gc.1 g];exact hP b j l k f i n):=O6 h;exact J8
  ·rw[Zp e c a b d i] at h;cases h;intro m g
   rcases gU.1 g with g|g
   ·exact q m g
   ·rw[gc.1 g];exact v
abbrev Sm (a:Py):Prop:=a.size<=3000
abbrev Nb (a:Int):Prop:=-1000000000<=a/\a<=1000000000
theorem auV (b:Py)(a:Nat)(d:a<=b.size):∀ e ∈ (b.extract a (P9 Rk b a)).data.toList,Rk (e.toNat:Int)=true:=by
 have c:=UL Rk b a d;have g:=V9 Rk b a;have f:=extract_size b a (P9 Rk b a) O9 c;exact IR
theorem aqp {n m:List Py}{b:Py}(r:b.size<=3000){c o:Nat}{q j:Int}{e:Py}(l:c<b.size)(a:Xf n m b c=.tok q e j o):Sm e/\Nb j:=by
 have d:∀ g i,(b.extract g i).size<=3000:=λg i=>by rw[ByteArray.size_extract];omega
 unfold Xf at a
 split at a
 ·unfold Vr at a
  split at a
  ·
   cases a;exact⟨d _ _,by decide⟩
  ·split at a
   ·
    cases a
   ·
    cases a;exact⟨d _ _,by decide⟩
 ·split at a
  ·unfold rdNum at a
   split at a
   ·
    cases a
   ·split at a
    ·
     cases a
    ·split at a
     ·
      cases a
     ·rename_i k
      cases a;exact⟨by show (0:Nat)<=3000;omega,by have:=(Z5 _ (auV b c (P6 l))).1;omega,by omega⟩
  ·split at a
   ·unfold rdStr at a
    split at a
    ·split at a
     ·
      cases a
     ·rename_i f
      cases a;exact⟨by show (List.toArray _).size<=3000;rw[jK];omega,by decide⟩
    ·
     cases a
   ·unfold WE at a
    split at a
    ·rename_i s p
     cases a;have f:=m8 p;unfold oX at f;simp at f;have k:=d c b.size;exact⟨by show e.size<=3000;omega,by decide⟩
    ·
     cases a
theorem SN.mono {m o j i:Py->Prop}{n k:Int->Prop}(d:∀ e,m e->j e)(r:∀ e,o e->i e)(s:∀ a,n a->k a){l:Nat}{p:Tr}(h:SN m o n l p):SN j i k l p:=by
 induction h with
 | name h=>exact .name (d _ h)
 | str h=>exact .str (r _ h)
 | num h=>exact .num (s _ h)
 | lit h=>exact .lit h
 | m0 h _ a=>exact .m0 (d _ h) a
 | call _ _ c a b=>exact .call a b c
 | one h _ a=>exact .one h a
 | two h _ _ a b=>exact .two h a b
 | YV h _ _ a b=>exact .YV h a b
 | obj _ c a=>exact .obj a c
 | jP h _ _ a b=>exact .jP (h.imp id (d _)) a b
 | gv h _ a=>exact .gv (d _ h) a
 | pk h=>exact .pk (d _ h)
 | mG _ c a=>exact .mG a c
 | gw _ a=>exact .gw a
 | body h _ a=>exact .body h a
 | decl q h _ c f a=>exact .decl q (d _ h) a c f
 | func h _ _ a b=>exact .func (d _ h) a b
 | YW _ a=>exact .YW a
 | l0 _ _ a b=>exact .l0 a b
 | oC _ _ _ a b g=>exact .oC a b g
 | loop h _ _ a b=>exact .loop h a b
 | hU h _ c f a=>exact .hU h a c f
 | lc _ _ _ c a b g=>exact .lc a b g c
 | cat h _ a=>exact .cat (d _ h) a
 | fin _ a=>exact .fin a
 | empty=>exact .empty
 | expr _ a=>exact .expr a
 | prog h _ a=>exact .prog h a
theorem xl {j i:List Py}{d:Py}{b:Tr}(p:∀ a ∈ i,1<=a.size)(h:TD j i d=.ok b):SN Sm Sm Nb 9 b:=by
 have m:d.size<=3000:=by
  unfold TD at h
  split at h
  ·
   cases h
  ·omega
 obtain⟨e,o,n⟩:=FH h;have k:∀ b ∈ e,Sm b.tx/\Nb b.n:=aqo (λb=>Sm b.tx/\Nb b.n) j i d p ⟨by show (0:Nat)<=3000;omega,show Nb 0 by decide⟩ (λa r s q c g l=>aqp m g l) _ _ _ _ rfl (UL TU d 0 (f3 _)) (λb l=>by cases l) o
 have f:∀ a,Sm (Qe e a).tx/\Nb (Qe e a).n:=λa=>by
  unfold Qe;rw[g8]
  cases g:e[a]? with
  | none=>exact⟨by show (0:Nat)<=3000;omega,by decide⟩
  | some b=>exact k b (gt g)
 exact n.mono (λd ⟨a,_,c⟩=>c ▸ (f a).1) (λd ⟨a,c⟩=>c ▸ (f a).1) (λq ⟨a,c⟩=>c ▸ (f a).2)
namespace Hp
structure Gv (m:Nat)(v:Va):Prop where
 n:v.k≠5->Nb v.n
 s:Sm v.s
 r:v.k=5->0<=v.n/\v.n<m
theorem Gv.up {bz b:Nat}{v:Va}(h:Gv bz v)(c:bz<=b):Gv b v:=⟨h.n,h.s,λa=>⟨(h.r a).1,by have:=(h.r a).2;omega⟩⟩
theorem p5:Sm O8:=by decide
theorem Wu (b:Nat):Gv b vU:=⟨λ_=>by decide,p5,λa=>by cases a⟩
theorem og (c:Nat)(a:Bool):Gv c (QE a):=⟨λ_=>by cases a <;> decide,p5,λb=>by cases b⟩
theorem l6 {c:Nat}{a:Py}(h:Sm a):Gv c (Vk a):=⟨λ_=>show Nb 0 by decide,h,λb=>by cases b⟩
theorem zm {c:Nat}{a:Int}(h:Nb a):Gv c (WT a):=⟨λ_=>h,p5,λb=>by cases b⟩
structure Gm (l2:Nat)(M:Mo):Prop where
 pv:∀ x ∈ M.objs,∀ p ∈ x.ps,Gv M.objs.length p.v
 cv:∀ x ∈ M.Pz,∀ c ∈ x.cs,Gv M.objs.length c.v
 co:∀ x ∈ M.objs,0<=x.code/\x.code<3+l2
def K4 (c:Mo)(e:Int)(d:Py):Prop:=∃ (b:Nat) (x:Ro) (a:Ce),e=b/\c.Pz[b]? = some x/\a ∈ x.cs/\iw d a.name=true/\a.kind≠4
inductive kF (V:Va->Prop) (b':Int) (M:Mo):Mo->Prop
 | same:kF V b' M M
 | ob (i:Nat) (x:Ob) (ps:List Pr) (ae:M.objs[i]? = some x) (ao:∀ p ∈ ps,V p.v\/p ∈ x.ps):kF V b' M (M.Uh i ⟨x.code,ps⟩)
 | ro (i:Nat) (x:Ro) (cs:List Ce) (ae:M.Pz[i]? = some x) (ao:∀ c ∈ cs,V c.v\/c ∈ x.cs) (A:∀ c ∈ x.cs,c.kind≠4->∃ dW ∈ cs,dW.name=c.name/\dW.kind=c.kind) (aw:∀ c ∈ cs,c.kind=b'\/∃ q ∈ x.cs,q.kind=c.kind):kF V b' M (M.Tj i ⟨x.outer,x.f6,cs⟩)
section
variable {L:Va->Prop} {D:Int} {g I:Mo} {ah:Nat}
section
variable (h:kF L D g I)
include h
theorem kF.ol:I.objs.length=g.objs.length:=by cases h <;> simp[Mo.Uh,Mo.Tj]
theorem kF.rl:I.Pz.length=g.Pz.length:=by cases h <;> simp[Mo.Uh,Mo.Tj]
theorem kF.k4 {n:Int}{m:Py}(i:K4 g n m):K4 I n m:=by
 obtain⟨f,x,d,rfl,b,c,e,a⟩:=i
 cases h with
 | same=>exact⟨f,x,d,rfl,b,c,e,a⟩
 | ob=>exact⟨f,x,d,rfl,b,c,e,a⟩
 | ro l y u k s i t=>
  by_cases j:l=f
  ·subst j;rw[b] at k;cases k;obtain⟨r,p,o,q⟩:=i d c a;exact⟨l,_,r,rfl,hZ (gr.1 b).1,p,by rw[o];exact e,by rw[q];exact a⟩
  ·exact⟨f,x,d,rfl,(h9 j).trans b,c,e,a⟩
theorem kF.gm (m:∀ a,L a->Gv g.objs.length a)(b:Gm ah g):Gm ah I:=by
 have n:=h.ol
 cases h with
 | same=>exact b
 | ob o x p f j=>
  have e:=gt f;refine⟨λy a k l=>?_,λy a c d=>?_,λy a=>?_⟩
  ·rw[n]
   rcases iG a with a|rfl
   ·exact b.pv y a k l
   ·rcases j k l with h|i
    ·exact m _ h
    ·exact b.pv x e k i
  ·rw[n];exact b.cv y a c d
  ·rcases iG a with a|rfl
   ·exact b.co y a
   ·exact b.co x e
 | ro o x p f j k l=>
  have e:=gt f;refine⟨b.pv,λy a c d=>?_,b.co⟩
  rcases iG a with a|rfl
  ·exact b.cv y a c d
  ·rcases j c d with h|i
   ·exact m _ h
   ·exact b.cv x e c i
end
section
variable {α:Type} {a:α->Va} {P:Va->Prop} {b:List α}
include α a P b
theorem Am {i:Nat}{d:α}(f:P (a d)):∀ c ∈ b.set i d,P (a c)\/c ∈ b:=λc e=>by
 rcases iG e with h|rfl
 ·exact .inr h
 ·exact .inl f
theorem H5 {d:α}(f:P (a d)):∀ c ∈ b++[d],P (a c)\/c ∈ b:=λc e=>by
 rcases gU.1 e with h|h
 ·exact .inr h
 ·rw[gc.1 h];exact .inl f
end
theorem CX {f:List Ce}{e:Nat}{d b:Ce}(i:f[e]? = some d)(m:b.name=d.name)(l:b.kind=d.kind):∀ a ∈ f,a.kind≠4->∃ j ∈ f.set e b,j.name=a.name/\j.kind=a.kind:=λa o _=>by
 obtain⟨p,c⟩:=List.mem_iff_getElem?.1 o;have n:=(gr.1 i).1
 by_cases k:e=p
 ·subst k;rw[i] at c;cases c;exact⟨b,gt (hZ n),m,l⟩
 ·exact⟨a,gt ((h9 k).trans c),rfl,rfl⟩
theorem G0 {D:Int}{c:List Ce}{e:Nat}{b d:Ce}(i:c[e]? = some b)(f:d.kind=b.kind):∀ a ∈ c.set e d,a.kind=D\/∃ k ∈ c,k.kind=a.kind:=λa j=>by
 rcases iG j with h|rfl
 ·exact .inr ⟨a,h,rfl⟩
 ·exact .inr ⟨b,gt i,f.symm⟩
theorem atQ {D:Int}{c:List Ce}{b:Ce}(d:b.kind=D):∀ a ∈ c++[b],a.kind=D\/∃ f ∈ c,f.kind=a.kind:=λa e=>by
 rcases gU.1 e with h|h
 ·exact .inr ⟨a,h,rfl⟩
 ·rw[gc.1 h];exact .inl d
theorem WZ (g:Mo)(f:Int)(e:Py)(a:Va)(fx:Bool):kF (· = a) 0 g (g.put f e a fx).2:=by
 unfold Mo.put
 rcases SA g f with ⟨i,_⟩|⟨d,x,rfl,c,j⟩
 ·rw[i];exact .same
 ·rw[j]
  cases b:fP e x.ps with
  | none=>simp only[b];exact .ob d x _ c (H5 (a:=Pr.v) (P:=(· = a)) rfl)
  | some k=>
   simp only[b]
   cases l:x.ps[k]? with
   | none=>exact .same
   | some m=>exact .ob d x _ c (Am (a:=Pr.v) (P:=(· = a)) rfl)
theorem Ev (g:Mo)(c:Int)(b:Py):kF (λ_=>False) 0 g (g.cut c b).2:=by
 unfold Mo.cut
 rcases SA g c with ⟨f,_⟩|⟨j,x,rfl,d,i⟩
 ·rw[f];exact .same
 ·rw[i]
  cases a:fP b x.ps with
  | none=>simp only[a];exact .same
  | some k=>
   simp only[a]
   cases l:x.ps[k]? with
   | none=>exact .same
   | some m=>
    simp only
    split
    ·exact .same
    ·exact .ob j x _ d λn e=>.inr (mM e)
theorem WC (g:Mo)(d:Int)(c:Py)(b:Int)(a:Va):kF (· = a) b g (g.f4 d c b a).2:=by
 unfold Mo.f4
 rcases QF g d with ⟨j,_⟩|⟨l,x,rfl,e,k⟩
 ·rw[j];exact .same
 ·rw[k];simp only
  split
  ·exact .same
  ·
   cases m:fC c x.cs with
   | some f=>exact .same
   | none=>exact .ro l x _ e (H5 (a:=Ce.v) (P:=(· = a)) rfl) (λi f _=>⟨i,k3 _ f,rfl,rfl⟩) (atQ rfl)
theorem PC (g:Mo)(e:Int)(d:Py)(a:Va):kF (· = a) 0 g (g.start e d a).2:=by
 unfold Mo.start
 rcases QF g e with ⟨i,_⟩|⟨k,x,rfl,f,j⟩
 ·rw[i];exact .same
 ·rw[j]
  cases b:fC d x.cs with
  | none=>simp only[b];exact .same
  | some l=>
   simp only[b]
   cases c:x.cs[l]? with
   | none=>exact .same
   | some m=>exact .ro k x _ f (Am (a:=Ce.v) (P:=(· = a)) rfl) (CX c rfl rfl) (G0 c rfl)
theorem BT {g:Mo}{i:Nat}{x:Ro}{e:Py}{a:Ce}(m:g.ro i=some x)(b:g.ic i e=some a):∃ c,fC e x.cs=some c/\x.cs[c]? = some a:=by
 unfold Mo.ic at b;rw[m] at b
 rcases WX (λa=>iw e a.name) x.cs with ⟨f,d⟩|⟨c,k,f,d,j,_⟩
 ·exact absurd (d.symm.trans b) P7
 ·have l:some k=some a:=j.symm.trans b;cases l;exact⟨c,f,d⟩
theorem CD (g:Mo)(a:Int)(e:Py)(b:Va):kF (· = b) 0 g (g.write a e b).2:=by
 unfold Mo.write
 split
 ·
  cases j:g.ic a e with
  | none=>exact WZ _ _ _ _ _
  | some m=>
   simp only
   split
   ·exact .same
   ·split
    ·exact .same
    ·split
     ·exact .same
     ·rcases QF g a with ⟨k,_⟩|⟨l,x,rfl,i,d⟩
      ·rw[k];exact .same
      ·obtain⟨n,f,c⟩:=BT d j;rw[d];simp only[f];exact .ro l x _ i (Am (a:=Ce.v) (P:=(· = b)) rfl) (CX c rfl rfl) (G0 c rfl)
 ·exact .same
theorem atT (g:Mo)(c:Int)(i:Py):kF (λ_=>False) 0 g (g.drop c i).2:=by
 unfold Mo.drop
 cases b:g.ic c i with
 | none=>exact Ev _ _ _
 | some d=>
  simp only
  split
  ·exact .same
  ·rename_i j
   rcases QF g c with ⟨r,_⟩|⟨t,x,rfl,m,e⟩
   ·rw[r];exact .same
   ·obtain⟨u,k,n⟩:=BT e b;rw[e];simp only[k];refine .ro t x _ m (λv o=>.inr (mM o)) (λo s l=>⟨o,?_,rfl,rfl⟩) λd b=>.inr ⟨d,mM b,rfl⟩;obtain⟨f,a⟩:=List.mem_iff_getElem?.1 s;have p:f≠u:=λq=>by
     subst q;rw[n] at a;cases a;exact l (by simpa using j)
    refine List.mem_eraseIdx_iff_getElem?.2 ⟨f,p,a⟩
def N4 (g:Mo)(c:Int):Prop:=∃ (a:Nat) (x:Ro),c=a/\g.Pz[a]? = some x/\x.f6 = -1/\∀ b ∈ x.cs,b.kind≠4
theorem N4.nB {L:Va->Prop}{D:Int}{g I:Mo}{k:Int}(h:N4 g k)(e:kF L D g I)(l:D≠4):N4 I k:=by
 obtain⟨d,x,rfl,a,c,b⟩:=h
 cases e with
 | same=>exact⟨d,x,rfl,a,c,b⟩
 | ob=>exact⟨d,x,rfl,a,c,b⟩
 | ro j y s i r q n=>
  by_cases f:j=d
  ·subst f;rw[a] at i;cases i;refine⟨j,_,rfl,hZ (gr.1 a).1,c,λo e=>?_⟩
   rcases n o e with h|⟨p,m,h⟩
   ·rw[h];exact l
   ·rw[<-h];exact b p m
  ·exact⟨d,x,rfl,(h9 f).trans a,c,b⟩
theorem N4.k4 {g:Mo}{j:Int}(h:N4 g j)(b:Py){d:Int}(o:d≠4)(n:Va):K4 (g.f4 j b d n).2 j b:=by
 obtain⟨c,x,rfl,e,t,p⟩:=h;have q:g.ro c=some x:=by
  rcases QF g c with ⟨_,a⟩|⟨l,y,f,i,a⟩
  ·have:=(gr.1 e).1;omega
  ·have f:c=l:=O9;subst f;rw[e] at i;cases i;exact a
 unfold Mo.f4;rw[q];simp only[t]
 cases k:fC b x.cs with
 | some m=>
  obtain⟨a,l,r⟩:∃ a,x.cs[m]? = some a/\iw b a.name=true:=by
   rcases WX (λa=>iw b a.name) x.cs with ⟨i,_⟩|⟨u,a,i,s,_,v⟩
   ·exact absurd (i.symm.trans k) P7
   ·have f:some u=some m:=i.symm.trans k;cases f;exact⟨a,s,v⟩
  exact⟨c,x,a,rfl,e,gt l,r,p a (gt l)⟩
 | none=>
  refine⟨c,_,⟨b,n,d,!(d==1||d==2)⟩,rfl,hZ (gr.1 e).1,List.mem_append_right _ (gc.2 rfl),?_,o⟩;simp[iw]
mutual
def Tr.oc:Tr->Bool
 | .mk a _ _ b=>!((a==7||a==8||a==9)&&b.any Vf)&&Tr.pp b
def Tr.pp:List Tr->Bool
 | []=>true
 | a::b=>Tr.oc a&&Tr.pp b
end
mutual
theorem sb:∀ (m:Tr) (f k i:Bool),g5 m f k i=none->Tr.oc m=true
 | .mk a d c b,f,k,i,h=>by
  rw[g5] at h;rw[Tr.oc]
  cases j:iS (.mk a d c b) (s2 (.mk a d c b) f) (i2 (.mk a d c b) k) i with
  | some e=>rw[j] at h;cases h
  | none=>
   rw[j] at h;rw[F7 b _ _ _ h,Bool.and_true]
   by_cases l:a=7\/a=8\/a=9
   ·have e:lW (.mk a d c b) (s2 (.mk a d c b) f)=none:=by
     rw[<-j];unfold iS
     rcases l with rfl|rfl|rfl <;> rfl
    unfold lW at e
    split at e
    ·
     cases e
    ·rename_i o
     have n:b.any Vf=false:=by
      cases p:b.any Vf with
      | false=>rfl
      | true=>exact absurd (show _ from by rw[show (Tr.mk a d c b).fJ=b from rfl,p,Bool.or_true]) o
     rw[n,Bool.and_false];rfl
   ·have e:(a==7||a==8||a==9)=false:=by simpa[not_or,and_assoc] using l
    rw[e];rfl
theorem F7:∀ (d:List Tr) (c b a:Bool),Uk d c b a=none->Tr.pp d=true
 | [],_,_,_,_=>by rw[Tr.pp]
 | f::d,c,b,a,h=>by
  rw[Uk] at h;rw[Tr.pp]
  cases e:g5 f c b a with
  | some i=>rw[e] at h;cases h
  | none=>
   rw[e] at h;rw[sb f c b a e,F7 d c b a h];rfl
end
theorem I3:∀ {c:List Tr},Tr.pp c=true->∀ b ∈ c,Tr.oc b=true
 | [],_,_,h=>by cases h
 | d::c,h,b,a=>by
  rw[Tr.pp,kw] at h
  rcases gP.1 a with rfl|a
  ·exact h.1
  ·exact I3 h.2 b a
theorem td {a:Tr}(h:Tr.oc a=true):(∀ c ∈ a.fJ,Tr.oc c=true)/\((a.kd=7\/a.kd=8\/a.kd=9)->∀ c ∈ a.fJ,Vf c=false):=by
 cases a with
 | mk d m l e=>
  rw[Tr.oc,kw] at h;refine⟨I3 h.2,λb c i=>?_⟩;have f:(d==7||d==8||d==9)=true:=by
   rcases b with b|b|b <;> (change d=_ at b;subst b;rfl)
  rw[f,Bool.true_and] at h;have j:e.any Vf=false:=by simpa using h.1
  exact jx.2 λk=>absurd (show e.any Vf=true from j8.2 ⟨c,i,k⟩) (by rw[j];simp)
structure Nk (c:Nat)(t:Tr):Prop where
 sh:SN Sm Sm Nb c t
 ct:t.count<=1500
 nb:Tr.oc t=true
theorem ZC {b a:Tr}(h:a ∈ b.fJ):a.count<b.count:=BX
theorem Nk.gK {f c:Nat}{d a:Tr}(h:Nk f d)(b:a ∈ d.fJ)(e:SN Sm Sm Nb c a):Nk c a:=⟨e,by have:=ZC b;have:=h.ct;omega,(td h.nb).1 a b⟩
structure Fg (t:Tr):Prop where
 ct:t.count<=1500
 nb:Tr.oc t=true
 sh:∃ kd s n p b,t=.mk kd s n [p,b]/\SN Sm Sm Nb 5 p/\SN Sm Sm Nb 4 b
structure Iv (N:Int)(σ:St):Prop where
 pz:∃ n:Nat,Sz n σ/\(n:Int)<=N+10000 * σ.steps
 gm:Gm σ.Ri.length σ.M
 fn:∀ f ∈ σ.Ri,Fg f.d.2/\0<=f.scope/\f.scope<σ.M.Pz.length
 ca:σ.fO<=40
 lr:2<=σ.M.Pz.length
 lo:1<=σ.M.objs.length
structure Ex (σ σ':St):Prop where
 ro:σ.M.Pz.length<=σ'.M.Pz.length
 ob:σ.M.objs.length<=σ'.M.objs.length
 ca:σ'.fO=σ.fO
 st:σ.steps<=σ'.steps
 k4:∀ s nm,K4 σ.M s nm->K4 σ'.M s nm
 lg:σ.hq <+: σ'.hq
def Po (a:Pl)(b:St):Prop:=0<=a.scope/\a.scope<b.M.Pz.length
structure Nx (N:Int)(σ σ':St):Prop where
 iv:Iv N σ'
 ex:Ex σ σ'
 st:σ'.steps=σ.steps
variable {a N':Int}{σ i s:St}{v:Va}
theorem Ex.refl (σ:St):Ex σ σ:=⟨Qp,Qp,rfl,Qp,λ_ _ h=>h,jg⟩
theorem Ex.trans (h:Ex σ i)(b:Ex i s):Ex σ s:=⟨f9 h.ro b.ro,f9 h.ob b.ob,b.ca.trans h.ca,f9 h.st b.st,λd c x=>b.k4 d c (h.k4 d c x),h.lg.trans b.lg⟩
theorem Iv.up (h:Iv a σ)(d:a<=N'):Iv N' σ:=by
 obtain⟨bz,b,c⟩:=h.pz;exact⟨⟨bz,b,by omega⟩,h.gm,h.fn,h.ca,h.lr,h.lo⟩
theorem Nx.refl (h:Iv a σ):Nx a σ σ:=⟨h,Ex.refl _,rfl⟩
theorem Nx.trans (h:Nx a σ i)(b:Nx N' i s):Nx N' σ s:=⟨b.iv,h.ex.trans b.ex,b.st.trans h.st⟩
theorem Nx.up (h:Nx a σ i)(b:a<=N'):Nx N' σ i:=⟨h.iv.up b,h.ex,h.st⟩
theorem Po.up {b:Pl}(h:Po b σ)(c:Ex σ i):Po b i:=⟨h.1,by have:=h.2;have:=c.ro;omega⟩
theorem Po.some {p:Pl}(h:Po p σ):(σ.M.ro p.scope).isSome=true:=by
 rcases QF σ.M p.scope with ⟨_,b⟩|⟨c,x,_,_,b⟩
 ·have:=h.1;have:=h.2;omega
 ·rw[b];rfl
theorem Iv.heap {L:Va->Prop}{D:Int}{g:Mo}(h:Iv a σ)(b:kF L D σ.M g)(j:∀ v,L v->Gv σ.M.objs.length v)(k:∀ c,σ.M.Go c->g.Go (c+1)):Nx (a+1) σ { σ with M:=g }:=by
 obtain⟨e,d,l⟩:=h.pz;refine⟨⟨⟨e+1,d.heap (ge _) (k _ d.go) b.rl,by show ((e+1:Nat):Int)<=a+1+10000 * σ.steps;omega⟩,b.gm j h.gm,λc f=>?_,h.ca,?_,?_⟩,⟨im b.rl.symm,im b.ol.symm,rfl,Qp,λ_ _ x=>b.k4 x,jg⟩,rfl⟩
 ·show _/\_/\c.scope<(g.Pz.length:Int)
  rw[b.rl];exact h.fn c f
 ·show 2<=g.Pz.length
  rw[b.rl];exact h.lr
 ·show 1<=g.objs.length
  rw[b.ol];exact h.lo
section
variable (h:Iv a σ) (b:Gv σ.M.objs.length v)
include h b
theorem Iv.hi (j:Int)(f:Py)(e:Int):Nx (a+1) σ (σ.hi j f e v):=h.heap (WC _ _ _ _ _) (λ_ c=>c ▸ b) λ_ d=>d.f4 _ _ _ _
theorem Iv.put (f:Int)(e:Py)(fx:Bool):Nx (a+1) σ (σ.Rj f e v fx):=h.heap (WZ _ _ _ _ _) (λ_ c=>c ▸ b) λ_ d=>d.put _ _ _ _
theorem Iv.write (f:Int)(e:Py):Nx (a+1) σ { σ with M:=(σ.M.write f e v).2 }:=h.heap (CD _ _ _ _) (λ_ c=>c ▸ b) λ_ d=>d.write _ _ _
theorem Iv.start (f:Int)(e:Py):Nx (a+1) σ { σ with M:=(σ.M.start f e v).2 }:=h.heap (PC _ _ _ _) (λ_ c=>c ▸ b) λ_ d=>d.start _ _ _
end
theorem Iv.drop (h:Iv a σ)(e:Int)(d:Py):Nx (a+1) σ { σ with M:=(σ.M.drop e d).2 }:=h.heap (atT _ _ _) (λ_ b=>b.elim) λ_ c=>c.drop _ _
theorem Iv.cut (h:Iv a σ)(e:Int)(d:Py):Nx (a+1) σ { σ with M:=(σ.M.cut e d).2 }:=h.heap (Ev _ _ _) (λ_ b=>b.elim) λ_ c=>c.cut _ _
theorem K4.app {g:Mo}{d:Int}{c:Py}{m:List Ob}{l:List Ro}(h:K4 g d c):K4 ⟨m,g.Pz++l⟩ d c:=by
 obtain⟨k,x,f,j,b,e⟩:=h;exact⟨k,x,f,j,(ht (gr.1 b).1).trans b,e⟩
theorem Gm.Qj {ah d:Nat}{g:Mo}{e:Int}(h:Gm ah g)(b8:ah<=d)(k:0<=e/\e<3+d):Gm d (g.Qj e):=by
 have j:(g.Qj e).objs.length=g.objs.length+1:=by simp[Mo.Qj]
 refine⟨λx b f c=>?_,λx b f c=>?_,λx b=>?_⟩
 ·rw[j]
  rcases gU.1 b with b|b
  ·exact(h.pv x b f c).up (ge _)
  ·rw[gc.1 b] at c;cases c
 ·rw[j];exact(h.cv x b f c).up (ge _)
 ·rcases gU.1 b with b|b
  ·have:=h.co x b;omega
  ·rw[gc.1 b];exact k
theorem Iv.Qj (h:Iv a σ){e:Int}(d:0<=e/\e<3+σ.Ri.length):Nx (a+1) σ { σ with M:=σ.M.Qj e }:=by
 obtain⟨c,b,f⟩:=h.pz;exact⟨⟨⟨c+1,b.heap (ge _) (b.go.Qj _) rfl,by show ((c+1:Nat):Int)<=a+1+10000 * σ.steps;omega⟩,h.gm.Qj Qp d,h.fn,h.ca,h.lr,by have:=h.lo;simp[Mo.Qj]⟩,⟨Qp,by simp[Mo.Qj],rfl,Qp,λ_ _ x=>x,jg⟩,rfl⟩
theorem Iv.f5 (h:Iv a σ){b:Nd}{c:Pl}(n:Fg b.2)(f:Po c σ):Nx (a+1) σ (f5 b c σ).2/\Gv (f5 b c σ).2.M.objs.length (f5 b c σ).1:=by
 obtain⟨e,m,p⟩:=h.pz;have o:(Hp.f5 b c σ).2.M.objs.length=σ.M.objs.length+1:=by simp[Hp.f5,Mo.Qj]
 have l:(Hp.f5 b c σ).2.Ri.length=σ.Ri.length+1:=by simp[Hp.f5]
 refine⟨⟨⟨⟨e+1,m.f5 b c,by show ((e+1:Nat):Int)<=a+1+10000 * σ.steps;omega⟩,?_,λk d=>?_,h.ca,h.lr,by omega⟩,⟨Qp,by omega,rfl,Qp,λ_ _ x=>x,jg⟩,rfl⟩,?_⟩
 ·rw[l];exact h.gm.Qj (ge _) ⟨by omega,by push_cast;omega⟩
 ·rcases gU.1 d with d|d
  ·exact h.fn k d
  ·rw[gc.1 d];exact⟨n,f⟩
 ·rw[o];exact⟨λj=>absurd rfl j,p5,λ_=>⟨by show 0<=((σ.M.objs.length:Nat):Int);omega,by show ((σ.M.objs.length:Nat):Int)<_;omega⟩⟩
theorem Iv.gq (h:Iv a σ)(e d x:Int):Nx (a+1) σ (σ.gq e d x):=by
 obtain⟨f,m,p⟩:=h.pz;have o:(σ.gq e d x).M.Pz.length=σ.M.Pz.length+1:=by simp[St.gq,Mo.scope]
 refine⟨⟨⟨f+1,m.gq e d x,by show ((f+1:Nat):Int)<=a+1+10000 * σ.steps;omega⟩,⟨h.gm.pv,λy b k c=>?_,h.gm.co⟩,λl j=>?_,h.ca,by have:=h.lr;omega,h.lo⟩,⟨by omega,Qp,rfl,Qp,λ_ _ n=>n.app,jg⟩,rfl⟩
 ·rcases gU.1 b with b|b
  ·exact h.gm.cv y b k c
  ·rw[gc.1 b] at c;cases c
 ·have:=h.fn l j;rw[o];exact⟨this.1,this.2.1,by omega⟩
theorem Nx.fold {α:Type}{f:St->α->St}{k:Nat}{P:St->Prop}(hP:∀ σ c,Ex σ c->P σ->P c):∀ (b:List α),(∀ u ∈ b,∀ a σ,Iv a σ->P σ->Nx (a+k) σ (f σ u))->∀ {a:Int} {σ:St},Iv a σ->P σ->Nx (a+(k * b.length:Nat)) σ (b.foldl f σ)
 | [],_,a,σ,h,_=>(Nx.refl h).up P7
 | u::b,b8,a,σ,h,d=>by
  have c:=b8 u gf a σ h d;have l:=Nx.fold hP b (λN j=>b8 N (gE _ j)) c.iv (hP _ _ c.ex d);refine(c.trans l).up ?_;rw[gL,Nat.mul_succ]
  push_cast
  omega
theorem Iv.settle (h:Iv a σ)(b:Gv σ.M.objs.length v)(d:Int)(c:Py):Nx (a+1) σ (settle d c v σ):=by
 unfold Hp.settle
 split
 ·exact h.hi b _ _ _
 ·exact h.write b _ _
theorem NH {b:Int}(h:N4 σ.M b)(c:Int)(d:Py)(v:Va):N4 (settle c d v σ).M b:=by
 unfold Hp.settle
 split
 ·exact h.nB (WC _ _ _ _ _) Pm
 ·exact h.nB (CD _ _ _ _) Pm
theorem Iv.lets (h:Iv a σ)(b:List Tr)(d:Int):Nx (a+b.length) σ (QS b d σ):=by
 have:=Nx.fold (P:=λ_=>True) (k:=1) (f:=fun σ (c:Tr)=>σ.hi d c.tx (if c.kd=4 then 2 else 1) vU) (λ_ _ _ h=>h) b (λc _ a σ h _=>h.hi (Wu _) _ _ _) h trivial;rw[Nat.one_mul] at this;exact this
theorem qv:∀ (c:List Tr) {b:Int} {a:Int} {σ:St},Iv a σ->N4 σ.M b->∀ e ∈ c,K4 (QS c b σ).M b e.tx
 | [],_,_,_,_,_,_,h=>by cases h
 | f::c,b,a,σ,h,j,e,d=>by
  have l:=h.hi (Wu _) b f.tx (if f.kd=4 then 2 else 1);have k:(if f.kd=4 then (2:Int) else 1)≠4:=by split <;> decide
  rcases gP.1 d with rfl|d
  ·exact(l.iv.lets c b).ex.k4 _ _ (j.k4 _ k _)
  ·exact qv c l.iv (j.nB (WC _ _ _ _ _) k) e d
theorem uL (σ:St)(c x:Int):N4 (σ.gq c (-1) x).M σ.gg:=by
 refine⟨σ.M.Pz.length,_,rfl,by simp[St.gq,Mo.scope];rfl,?_,λd b=>by cases b⟩
 simp
theorem QZ {c b:Nd}(h:b ∈ QB c):b.2 ∈ c.2.fJ:=by
 have d:b.2 ∈ (QB c).map (·.2):=hy.2 ⟨b,h,rfl⟩
 rwa [zD] at d
structure Bk (t:Tr):Prop where
 ct:t.count<=1500
 ks:∀ u ∈ t.fJ,Nk 1 u
theorem Nk.bk {d:Nat}{f:Tr}(h:Nk d f)(j:d=3\/d=4\/d=9):Bk f:=by
 refine⟨h.ct,λe c=>?_⟩;have b:=h.sh
 cases b with
 | gw b=>exact h.gK c (b e c)
 | body _ b=>exact h.gK c (b e c)
 | prog _ b=>exact h.gK c (b e c)
 | _=>omega
theorem Nk.fg {d:Tr}(h:Nk 1 d)(b:d.kd=5):Fg d:=by
 refine⟨h.ct,h.nb,?_⟩;have f:=h.sh
 cases f with
 | func _ j e=>exact⟨_,_,_,_,_,rfl,j,e⟩
 | decl c=>simp only[Tr.kd] at b;omega
 | YW c=>cases c;cases b
 | loop c=>simp only[Tr.kd] at b;omega
 | hU c=>simp only[Tr.kd] at b;omega
 | _=>cases b
theorem pL {b:Nd}(h:Bk b.2):∀ c ∈ Ul b,Fg c.2:=λc d=>by
 obtain⟨f,e⟩:=ls.1 d;exact(h.ks _ (QZ f)).fg (by simpa[SH] using e)
theorem wI {b:Nd}(h:Bk b.2):(Ul b).length<=1500:=by
 have j:=hp (λc:Nd=>SH c.2) (QB b);have d:=RU b;have f:=Si b.2;have e:=h.ct;unfold Ul;omega
section
variable {b:Tr} (h:Bk b)
include b h
theorem Ur:(Qd b).length<=1500:=by
 have e:=hp Qk b.fJ;have d:=Si b;have c:=h.ct;unfold Qd;omega
theorem RC:(Uj b).length<=1500:=by
 have e:=hp SH b.fJ;have d:=Si b;have c:=h.ct;unfold Uj;omega
theorem wC:(Qv b).length<=1500:=by
 have e:=Y0 b;have c:Tr.f1 b.fJ<b.count:=by cases b;rw[Tr.count];exact Nat.lt_add_of_pos_left O9
 have d:=h.ct;omega
end
theorem yY {c:Pl}:∀ σ b,Ex σ b->Po c σ->Po c b:=λ_ _ d h=>h.up d
theorem Iv.funcs (h:Iv a σ){d:Nd}{b:Pl}(k:Bk d.2)(f:Po b σ):Nx (a+3000) σ (Ut d b σ):=by
 have c:=Nx.fold (P:=Po b) (k:=2) (f:=fun σ l=>let m:=Hp.f5 l b σ;Hp.settle b.scope l.2.tx m.1 m.2) yY (Ul d) (λu l a σ h f=>by
  obtain⟨c,j⟩:=h.f5 (pL k u l) f;exact(c.trans (c.iv.settle j _ _)).up (by push_cast;omega)) h f
 have j:=wI k;exact c.up (by push_cast;omega)
theorem S6 {b:List Py}(h:(XY b).length=0):b=[]:=by
 cases b with
 | nil=>rfl
 | cons d b=>
  exfalso;have f:∀ (b c:List Py),c.length<=(b.foldl l8 c).length:=by
   intro b
   induction b with
   | nil=>intro c;exact Qp
   | cons k b e=>
    intro c;refine f9 ?_ (e _);unfold l8
    split
    ·exact Qp
    ·simp
  have l:=f b (l8 [] d);unfold XY at h;rw[k1] at h;have j:(l8 [] d).length=1:=by unfold l8;rw[fK (by simp[hasB])];rfl
  omega
theorem ZG {c b:Tr}(d:b ∈ c.fJ)(e:Qk b=true):b ∈ Qd c:=ls.2 ⟨d,e⟩
section
variable (h:Iv a σ)
include h
theorem Iv.block {b:Nd}{c:Pl}(p:Bk b.2)(q:Po c σ):Nx (a+5000) σ (Qu b c σ).2/\Po (Qu b c σ).1 (Qu b c σ).2/\∀ l ∈ QB b,Qk l.2=true->K4 (Qu b c σ).2.M (Qu b c σ).1.scope l.2.tx:=by
 unfold Qu
 split
 ·rename_i o
  refine⟨(Nx.refl h).up O9,q,λl m k=>?_⟩;unfold gI at o;have j:=S6 o;have f:(Qd b.2).map Tr.tx=[]:=(List.append_eq_nil_iff.1 j).2;have d:=ZG (QZ m) k;rw[List.map_eq_nil_iff.1 f] at d;cases d
 ·have j:=h.gq c.scope (-1) (own b);have f:=j.iv.lets (Qd b.2) σ.gg;have o:Po { c with scope:=σ.gg } (QS (Qd b.2) σ.gg (σ.gq c.scope (-1) (own b))):=by
   refine Po.up ?_ f.ex;exact HX
  have d:=f.iv.funcs p o;have k:=Ur p;refine⟨((j.trans f).trans d).up O9,o.up d.ex,λl m k=>?_⟩;exact d.ex.k4 _ _ (qv _ j.iv (uL _ _ _) _ (ZG (QZ m) k))
theorem Iv.jP {b:Nd}{p:Pl}(k:Fg b.2)(l:Po p σ):Nx (a+5) σ (VI b p σ).2/\Gv (VI b p σ).2.M.objs.length (VI b p σ).1:=by
 unfold VI
 split
 ·obtain⟨d,c⟩:=h.f5 k l;exact⟨d.up O9,c⟩
 ·have d:=h.gq p.scope (-1) (own b);have m:Po { p with scope:=σ.gg } (σ.gq p.scope (-1) (own b)):=
   ⟨by show (0:Int)<=(σ.M.Pz.length:Int);omega,by show (σ.M.Pz.length:Int)<_;simp[St.gq,Mo.scope];omega⟩
  obtain⟨c,j⟩:=d.iv.f5 k m;have f:=c.iv.hi j σ.gg b.2.tx 3;exact⟨((d.trans c).trans f).up O9,j.up f.ex.ob⟩
theorem Iv.look (c:Nd)(p:Pl):Nx (a+1) σ (look c p σ).2:=by
 unfold Hp.look;simp only
 split
 ·split
  ·obtain⟨bz,b,d⟩:=h.pz;exact⟨⟨⟨bz+1,⟨b.go.up (ge _),gF b.ow,gF b.fn,gF b.lg,by have:=b.se;simp;omega,b.oe⟩,by show ((bz+1:Nat):Int)<=a+1+10000 * σ.steps;omega⟩,h.gm,h.fn,h.ca,h.lr,h.lo⟩,⟨Qp,Qp,rfl,Qp,λ_ _ x=>x,jg⟩,rfl⟩
  ·exact(Nx.refl h).up O9
 ·exact(Nx.refl h).up O9
theorem Iv.hq (c:Py):Nx (a+1) σ { σ with hq:=σ.hq++[c] }:=by
 obtain⟨bz,b,d⟩:=h.pz;exact⟨⟨⟨bz+1,⟨b.go.up (ge _),gF b.ow,gF b.fn,by have:=b.lg;simp;omega,gF b.se,b.oe⟩,by show ((bz+1:Nat):Int)<=a+1+10000 * σ.steps;omega⟩,h.gm,h.fn,h.ca,h.lr,h.lo⟩,⟨Qp,Qp,rfl,Qp,λ_ _ x=>x,List.prefix_append _ _⟩,rfl⟩
end
theorem vy {c:Nat}{b:Int}(h:0<=b/\b<c):Gv c (UH b):=⟨λd=>absurd rfl d,p5,λ_=>h⟩
theorem sX {c:List Va}:∀ σ b,Ex σ b->(∀ v ∈ c,Gv σ.M.objs.length v)->∀ v ∈ c,Gv b.M.objs.length v:=λ_ _ f h v d=>(h v d).up f.ob
theorem MG {α:Type}{b:List α}{x:α × Nat}(h:x ∈ b.zipIdx):x.1 ∈ b:=by
 obtain⟨c,d⟩:=x;exact List.fst_mem_of_mem_zipIdx h
theorem Iv.args (h:Iv a σ){b:List Va}(r:b.length<=1500)(p:∀ v ∈ b,Gv σ.M.objs.length v):Nx (a+2+b.length) σ (SE b σ).2/\Gv (SE b σ).2.M.objs.length (SE b σ).1:=by
 obtain⟨aL,k⟩:=xE (σ.M.objs.length:Int);have f:=h.Qj (e:=0) O9;have j:=f.iv.put (v:=WT b.length) (zm (by unfold Nb;omega)) aL Zz false
 have c:=f.trans j;have d:Nx _ _ (b.zipIdx.foldl (fun σ (v,n)=>σ.Rj aL (XI ⟨#[97]⟩ (UN n)) v false) _):=Nx.fold (P:=fun σ=>∀ v ∈ b,Gv σ.M.objs.length v) (k:=1) sX b.zipIdx (λx m a σ h o=>by
  have l:=MG m;obtain⟨v,n⟩:=x;exact h.put (o _ l) _ _ _) c.iv (sX _ _ c.ex p)
 unfold SE;rw[<-k];refine⟨(c.trans d).up (by rw[jj];push_cast;omega),vy ⟨by omega,?_⟩⟩
 refine m2 ?_ (Int.ofNat_le.2 d.ex.ob);have q:(({ σ with M:=σ.M.Qj 0 }:St).Rj aL Zz (WT b.length) false).M.objs.length=σ.M.objs.length+1:=by
  show (Mo.put _ _ _ _ _).2.objs.length=_
  rw[(WZ _ _ _ _ _).ol];simp[Mo.Qj]
 rw[q];omega
theorem C6:∀ (no:Option Nat) (c:List Tr) (b:Nat),((Vj no c).getD b na).2=c.getD b na.2
 | _,[],b=>by simp[Vj]
 | no,d::c,0=>rfl
 | no,d::c,b+1=>by
  rw[Vj];exact C6 _ c b
theorem Yb (b:Nd)(c:Nat):(Pg b c).2=b.2.fJ.getD c na.2:=C6 _ _ _
theorem qx {α:Type}{f:St->α->St}{b:Int}(e:∀ σ c,N4 σ.M b->N4 (f σ c).M b):∀ (d:List α) {σ:St},N4 σ.M b->N4 (d.foldl f σ).M b
 | [],_,h=>h
 | c::d,σ,h=>qx e d (e σ c h)
theorem axR {b:Int}(h:N4 σ.M b)(d:List Va):N4 (SE d σ).2.M b:=by
 unfold SE;refine qx (fun σ c h=>?_) _ ?_
 ·obtain⟨v,e⟩:=c;exact h.nB (WZ _ _ _ _ _) Pm
 ·exact N4.nB (g:=σ.M.Qj 0) h (WZ _ _ _ _ _) Pm
section
variable (h:Iv a σ)
include h
theorem Iv.body {d:Nd}{p:Pl}(B:Fg d.2)(z:Po p σ)(R:N4 σ.M p.scope){b:List Va}(m:b.length<=1500)(F:∀ v ∈ b,Gv σ.M.objs.length v) :
  Nx (a+8000) σ (S9 d p b σ)/\Bk (Pg d 1).2/\∀ c ∈ QB (Pg d 1),Qk c.2=true->K4 (S9 d p b σ).M p.scope c.2.tx:=by
 obtain⟨am,ap,bz,M,N,C,ad,O⟩:=B.sh;have U:(Pg d 0).2=M:=by rw[Yb,C];rfl
 have T:(Pg d 1).2=N:=by rw[Yb,C];rfl
 have r:Bk (Pg d 1).2:=by
  rw[T];have E:N ∈ d.2.fJ:=by rw[C];exact gE _ (gc.2 rfl)
  exact Nk.bk (d:=4) ⟨O,by have:=ZC E;have:=B.ct;omega,(td B.nb).1 N E⟩ O9
 have ai:(Pg d 0).2.fJ.length<=8:=by
  rw[U]
  cases ad with
  | mG _ m=>exact m
 refine⟨?_,r,?_⟩
 all_goals
  have j:Nx _ _ (((Pg d 0).2.fJ.zipIdx).foldl (fun σ (c,n)=>Hp.settle p.scope c.tx (b.getD n vU) σ) σ):=Nx.fold (P:=fun σ=>∀ v ∈ b,Gv σ.M.objs.length v) (k:=1) sX (Pg d 0).2.fJ.zipIdx (λx E a σ h z=>by
   obtain⟨c,n⟩:=x;refine h.settle ?_ _ _;rw[g8]
   cases bN:b[n]? with
   | none=>exact Wu _
   | some v=>exact z v (gt bN)) h F
  have A:N4 (((Pg d 0).2.fJ.zipIdx).foldl (fun σ (c,n)=>Hp.settle p.scope c.tx (b.getD n vU) σ) σ).M p.scope:=qx (fun σ u h=>by
   obtain⟨c,n⟩:=u;exact NH h _ _ _) _ R
  unfold S9;simp only
  generalize ((Pg d 0).2.fJ.zipIdx).foldl (fun σ (c,n)=>Hp.settle p.scope c.tx (b.getD n vU) σ) σ=i at j A ⊢
  rw[jj] at j;have ac:=sX _ _ j.ex F;obtain⟨s,t⟩:=xE (if hasArgs (Pg d 0).2.fJ (Pg d 1).2=true then (SE b i).2.hi p.scope g2 0 (SE b i).1 else i);have k:Nx (a+1600) σ s/\N4 s.M p.scope:=by
   rw[t]
   split
   ·obtain⟨f,q⟩:=j.iv.args m ac;have E:=f.iv.hi q p.scope g2 0;exact⟨((j.trans f).trans E).up (by push_cast;omega),(axR A b).nB (WC _ _ _ _ _) Pm⟩
   ·exact⟨j.up (by push_cast;omega),A⟩
  rw[<-t];obtain⟨k,W⟩:=k;clear t;have l:Nx _ _ ((Qv (Pg d 1).2).foldl (fun σ o=>σ.hi p.scope o 0 vU) s):=Nx.fold (P:=λ_=>True) (k:=1) (λ_ _ _ h=>h) (Qv (Pg d 1).2) (λx _ a σ h _=>h.hi (Wu _) _ _ _) k.iv trivial;have H:N4 ((Qv (Pg d 1).2).foldl (fun σ o=>σ.hi p.scope o 0 vU) s).M p.scope:=qx (fun σ u h=>h.nB (WC _ _ _ _ _) Pm) _ W
  generalize (Qv (Pg d 1).2).foldl (fun σ o=>σ.hi p.scope o 0 vU) s=au at l H ⊢
  have ak:=wC r;have aj:=Ur r;have f:=l.iv.lets (Qd (Pg d 1).2) p.scope;have q:=f.iv.funcs (d:=Pg d 1) r ((z.up (k.trans l).ex).up f.ex)
 ·exact(((k.trans l).trans f).trans q).up (by push_cast;omega)
 ·exact λc E m=>q.ex.k4 _ _ (qv _ l.iv H _ (ZG (QZ E) m))
theorem Iv.gA (c:Int)(b:Py):Nx (a+1) σ (gA c b σ):=by
 unfold Hp.gA
 split
 ·exact(Nx.refl h).up O9
 ·split
  ·exact h.put (Wu _) _ _ _
  ·exact h.hi (Wu _) _ _ _
theorem Iv.HL {b:Nd}{d:Pl}(m:Bk b.2)(r:Po d σ):Nx (a+8000) σ (PI b d σ).2/\Po (PI b d σ).1 (PI b d σ).2/\∀ c ∈ QB b,Qk c.2=true->K4 (PI b d σ).2.M (PI b d σ).1.scope c.2.tx:=by
 have j:Nx _ _ ((Tv b.2).foldl (fun σ z=>Hp.gA d.gh z σ) σ):=Nx.fold (P:=λ_=>True) (k:=1) (λ_ _ _ h=>h) (Tv b.2) (λx _ a σ h _=>h.gA _ _) h trivial;unfold PI;simp only
 generalize (Tv b.2).foldl (fun σ z=>Hp.gA d.gh z σ) σ=i at j ⊢
 have H:(Tv b.2).length<=3000:=by
  have:=wC m;have:=RC m;unfold Tv;rw[gj,gu];omega
 obtain⟨f,p⟩:=xE (if 0<(Qd b.2).length then ({ d with scope:=i.gg },QS (Qd b.2) i.gg (i.gq d.scope (-1) (-3))) else (d,i):Pl × St);rw[<-p];have k:Nx (a+4600) σ f.2/\Po f.1 f.2/\∀ c ∈ QB b,Qk c.2=true->K4 f.2.M f.1.scope c.2.tx:=by
  rw[p]
  split
  ·have t:=j.iv.gq d.scope (-1) (-3);have B:=t.iv.lets (Qd b.2) i.gg;have F:=Ur m;refine⟨((j.trans t).trans B).up (by push_cast;omega),Po.up ?_ B.ex,λc l o=>qv _ t.iv (uL _ _ _) _ (ZG (QZ l) o)⟩
   exact⟨by show (0:Int)<=(i.M.Pz.length:Int);omega,by show (i.M.Pz.length:Int)<_;simp[St.gq,Mo.scope];omega⟩
  ·rename_i t
   refine⟨j.up (by push_cast;omega),r.up j.ex,λc l o=>?_⟩
   have:=ZG (QZ l) o;rw[lm (by omega:(Qd b.2).length=0)] at this;cases this
 clear p;obtain⟨k,A,C⟩:=k;have q:Nx _ _ ((Ul b).foldl (fun σ c=>let t:=Hp.f5 c f.1 σ;{ t.2 with M:=(t.2.M.write f.1.gh c.2.tx t.1).2 }) f.2):=Nx.fold (P:=Po f.1) (k:=2) yY (Ul b) (λu t a σ h r=>by
  obtain⟨j,k⟩:=h.f5 (pL m u t) r;exact(j.trans (j.iv.write k _ _)).up (by push_cast;omega)) k.iv A
 have E:=wI m;exact⟨(k.trans q).up (by push_cast;omega),A.up q.ex,λc l o=>q.ex.k4 _ _ (C c l o)⟩
theorem Iv.prog {d:Nd}(k:Bk d.2)(q:N4 σ.M 1):Nx (a+8000) σ (QI d σ).2/\Po (QI d σ).1 (QI d σ).2/\∀ f ∈ QB d,Qk f.2=true->K4 (QI d σ).2.M (QI d σ).1.scope f.2.tx:=by
 have c:Nx _ _ ((Qv d.2).foldl (fun σ b=>if σ.M.has 0 b then σ else σ.Rj 0 b vU true) σ):=Nx.fold (P:=λ_=>True) (k:=1) (λ_ _ _ h=>h) (Qv d.2) (λx _ a σ h _=>by
  split
  ·exact(Nx.refl h).up O9
  ·exact h.put (Wu _) _ _ _) h trivial
 have o:N4 ((Qv d.2).foldl (fun σ b=>if σ.M.has 0 b then σ else σ.Rj 0 b vU true) σ).M 1:=qx (fun σ u h=>by
  split
  ·exact h
  ·exact h.nB (WZ _ _ _ _ _) Pm) _ q
 unfold QI;simp only
 generalize (Qv d.2).foldl (fun σ b=>if σ.M.has 0 b then σ else σ.Rj 0 b vU true) σ=i at c o ⊢
 have A:=wC k;have z:=Ur k;have j:=c.iv.lets (Qd d.2) 1;have m:Po ⟨1,0,PO d.2⟩ (QS (Qd d.2) 1 i):=⟨by show (0:Int)<=1;omega,by show (1:Int)<_;have:=j.iv.lr;omega⟩
 have l:Nx _ _ ((Ul d).foldl (fun σ f=>let p:=Hp.f5 f ⟨1,0,PO d.2⟩ σ;p.2.Rj 0 f.2.tx p.1 true) (QS (Qd d.2) 1 i)):=Nx.fold (P:=Po ⟨1,0,PO d.2⟩) (k:=2) yY (Ul d) (λu r a σ h p=>by
  obtain⟨c,j⟩:=h.f5 (pL k u r) p;exact(c.trans (c.iv.put j _ _ _)).up (by push_cast;omega)) j.iv m
 have t:=wI k;exact⟨((c.trans j).trans l).up (by push_cast;omega),m.up l.ex,λf p r=>l.ex.k4 _ _ (qv _ c.iv o _ (ZG (QZ p) r))⟩
end
end
section
variable {M:Pe} {k aG:Nat} {ac:List Nat} {eI aQ aN D I:Px} {w a1:Pe} {g:St} {C:Nat} {U:Fx} {e2:Option Nat} {bO:Px} {vs:List Va}
def VN (d:Int)(c:List Tr)(vs:List Va)(a:Nat)(g:St):St:=(c.zipIdx.take a).foldl (λg (a,b)=>settle d a.tx (vs.getD b vU) g) g
theorem Fa (c:Int)(b:List Tr)(vs:List Va)(a:Nat)(g:St)(e:a<b.length):VN c b vs (a+1) g=settle c (b[a]).tx (vs.getD a vU) (VN c b vs a g):=by
 have d:a<b.zipIdx.length:=by rw[jj];exact e
 unfold VN;rw[g3 d,iM,List.getElem_zipIdx];simp
theorem Sz.VN (c:Int)(b:List Tr)(vs:List Va):∀ (a:Nat) {g:St},Sz C g->a<=b.length->Sz (C+a) (VN c b vs a g)
 | 0,_,h,_=>h
 | a+1,g,h,d=>by
  rw[Fa c b vs a g O9];exact(Sz.VN c b vs a h O9).settle _ _ _
def kL (d:Int)(b:List Py)(a:Nat)(g:St):St:=(b.take a).foldl (λg c=>g.hi d c 0 vU) g
theorem GI (d:Int)(b:List Py)(a:Nat)(g:St)(c:a<b.length):kL d b (a+1) g=(kL d b a g).hi d b[a] 0 vU:=by
 unfold kL;exact rm
theorem Sz.kL (c:Int)(b:List Py):∀ (a:Nat) {g:St},Sz C g->a<=b.length->Sz (C+a) (kL c b a g)
 | 0,_,h,_=>h
 | a+1,g,h,d=>by
  rw[GI c b a g O9];exact(Sz.kL c b a h O9).hi _ _ _ _
theorem Sz.args {vs:List Va}(h:Sz C g):Sz (C+2+vs.length) (SE vs g).2:=by
 have a:(SE vs g).2=Hp.XE g.M.objs.length vs vs.length (({ g with M:=g.M.Qj 0 }:St).Rj g.M.objs.length Zz (WT vs.length) false):=by
  unfold SE Hp.XE;rw[iB (im jj)]
 rw[a];exact Sz.XE _ _ _ ((h.heap (ge _) (h.go.Qj 0) rfl:Sz (C+1) _).Rj _ _ _ _) Qp
theorem PX.Ow {u:Ad}{a:Nd}{bO:Px}(h:PX ac w u a)(f:w.cell? (O7 u.p 3)=some bO)(b:Kp w a1):U6 0 a1 bO a.2.fJ/\TV a1 a.2 u.p:=by
 have d:TV a1 a.2 u.p:=by rw[<-h.tr];exact(Tf.kp b _ h.at_).nat.nt
 obtain⟨_,_,_,v,l,e⟩:=d.cells;have i:∃ j,w.heap[u.p]? = some (PZ j 40):=by
  have ad:=h.at_;exact ws
 have c:=b.YJ f i;rw[l] at c;cases c;exact⟨e,d⟩
theorem aBp (dN:Bs M k aG ac eI)(dM:Wj M)(H:Mx M k aG ac aQ aN D I w g)(cQ:Sz C g)(eT:C+9000<1000000000){u:Ad}{z:Nd}(dY:PX ac w u z)(ai:z.2.fJ.length=2)(bj:z.2.count<=1500)(bT:(Pg z 0).2.fJ.length<=8)(ak:∀ j ∈ Ul (Pg z 1),j.2.fJ.length=2)(A:Pl)(o:Option Addr)(X:UZ w bO vs)(dZ:vs.length<=1500) :
  Pq 324 #[O5 k,O5 u.p,Qy A o,bO] w λm a1=>m=PK (.tuple #[])/\∃ cP,Mx M k aG ac aQ aN D cP a1 (S9 z A vs g)/\SL k D I D cP w a1:=by
 have dO:=H.lt;have b{G}(h:G:=by
 have bU:=dY.kp (Kp.of ap);obtain⟨cK,eP,eM,bo,bV,b0,_⟩:=bU.Zf (a:=0) O9;obtain⟨ci,eK,eN,bx,c8,bC,_⟩:=bU.Zf (a:=1) O9;rw[ai] at bo bx;rw[bo] at bx;simp only[hc,g7,iL,js,kC] at bx;obtain⟨rfl,rfl⟩:=bx;have d3:TV w2 (Pg z 0).2 cK.p:=by rw[<-b0.tr];exact b0.at_.nat.nt
 have dF:TV w2 (Pg z 1).2 ci.p:=by rw[<-bC.tr];exact bC.at_.nat.nt
 obtain⟨dn,_,_,b2,bK,cZ⟩:=d3.cells;obtain⟨eJ,eO,d2⟩:=cZ.form;subst d2;have dJ:(Pg z 1).2.count<=1500:=by
  have ad:(Pg z 1).2 ∈ z.2.fJ:=by
   rw[Yb,g8,ga (by omega:1<z.2.fJ.length)];exact gT _
  have:=ZC ad;omega
 have dH:=Si (Pg z 1).2;have dK:=Y0 (Pg z 1).2;have dq:(Qv (Pg z 1).2).length<=1500:=by
  have ak:Tr.f1 (Pg z 1).2.fJ<(Pg z 1).2.count:=by cases (Pg z 1).2;rw[Tr.count];exact Nat.lt_add_of_pos_left O9
  omega
 obtain⟨eV,cR⟩:=xE u.p;obtain⟨eQ,dj⟩:=xH cK.p;obtain⟨bS,aY⟩:=xH ci.p;have cT:=bU.cells.1;have dS:=fV bV;have cM:=Y bK;obtain⟨p,bF⟩:=xH ((Pg z 0).2.fJ);obtain⟨s,b3⟩:=xE (Pg z 1);rw[<-bF.out] at cZ bT bK;rw[<-bF.out] at cM;rw[<-b3] at dF bC ak dJ dH dK dq;rw[<-cR] at bo cT ⊢;rw[<-dj.out] at bV bK dn;rw[<-aY.out] at c8;obtain⟨cf,bY⟩:=xE (S9 z ⟨l,q,r⟩ vs g);rw[<-bY]
 have bq:Hid (cf=Ut s ⟨l,q,r⟩ (QS (Qd s.2) l (kL l (Qv s.2) (Qv s.2).length (if hasArgs p s.2 then (SE vs (VN l p vs p.length g)).2.hi l g2 0 (SE vs (VN l p vs p.length g)).1 else VN l p vs p.length g)))):=by
  show _=_
  rw[bY,bF.out,b3];unfold S9 kL VN;rw[gO,iB (im jj)]
 have cU:=H.fH ap;have dU:=SL.of (o:=D) (f:=I) ap (P6 dO);have dR:=Y F;have dP:=X.fH ap;have em:=Y ak;obtain⟨ua,bW,bn⟩:=X.form;subst bn;have eW:p.length<=8:=bT;clear H F bY b3 cR ak bT;go_enter func324,ntmps324;go_wp2_with fail;rw[<-aV.out,<-aD];clear aD
 go_region
 have aJ:Pn w2 w2.drew:=RP.drew;obtain⟨E,dg⟩:=xE w2.drew;rw[<-dg] at aJ ⊢;have cV:=cU.fH aJ;have dQ:=dU.trans (SL.of aJ (P6 cU.lt));have dX:=Y (fQ aJ dR.out);have dT:=dP.fH aJ;have b6:=Y (λL (i:Kp E L)=>b0.Ow cM.out (λN e m O d=>i N e m (Kp.of aJ N e m O d) d));have aK:=bC.kp (Kp.of aJ);have eS:=cV.lt;rw[<-bF.out,<-dj.out] at b6;clear dg bo bV c8 bK dS cT dn;go_wp2_with fail
 go_loopw [32] (λn wr=>∃ j:Nat,j<=p.length/\n=O3 j/\Mx M k aG ac aQ aN D I wr (VN l p vs j g)/\SL k D I D I w wr/\wr.heap[W]? = some (PZ #[O3 l,O3 q,Pv r,.pointer o] 73)/\UZ wr (.slice ua vs.length bW) vs/\Kp E wr) (λn _=>p.length - (intOf n).toNat)
 case atStart=>exact⟨0,f3 _,rfl,cV,dQ,dX.out,dT,λ_ _ _ h _=>h⟩
 case round=>
  obtain⟨j,eL,rfl,ba,cq,bc,cx,cz⟩:=hrel;have ax:=ba;have bm:=cq;have ah:=Y bc;have aZ:=cx;have aF:=cz;have bM:=ba.lt;clear bc
  by_cases bh:j<p.length
  ·obtain⟨ek,ec,aS,B,dD,bj,bI⟩:=(O4 b6 wr aF).1.cell j bh;have b{G}(h:G:=by
   obtain⟨cy,_,bv,_⟩:=bI.cells;have aW:(j:Int)<(p.length:Int):=O9;obtain⟨x,H⟩:=xE ((p[j]).tx);rw[<-H] at bv;have cI:=Y H;obtain⟨v,B⟩:=xE (vs.getD j vU);have be:=Y B;obtain⟨a7,au⟩:=xE (VN l p vs j g);rw[<-au] at ax;have cr:Sz (C+j) a7:=by rw[au];exact Sz.VN l p vs j cQ O9
   have cG:=Y (λL (i:Mx M k aG ac aQ aN D I L a7)=>D5 i cr O9 l x v);have cJ:=Y au;have bZ:=Y bv;clear H au bv
   by_cases bG:j<vs.length
   ·have bD:vs[j]? = some v:=by rw[B,g8,ga bG];rfl
    obtain⟨cA,bE,cn,bn,cl,cp,cu,cw⟩:=aZ.cells bD;simp only[g7] at bn;obtain⟨rfl,_,rfl⟩:=bn;have bL:(j:Int)<(vs.length:Int):=O9;clear B bD;go_wp2_with fail;obtain⟨T,am⟩:=xE (wr.alloc (.cells #[O3 v.k,O3 v.n,Pj v.s] 65));obtain⟨bB,aC⟩:=xE wr.heap.size;have bf:T.heap[bB]? = some (ZK v):=by rw[am,aC];exact Ph _ _
    exact CF
   ·have bL:¬ (j:Int)<(vs.length:Int):=O9;have bD:v=vU:=by rw[B,g8,List.getElem?_eq_none O9];rfl
    have bE:=Y bD;clear B bD;go_wp2_with fail;obtain⟨T,am⟩:=xE (wr.alloc (.cells #[O3 0,O3 0,Qn] 65));obtain⟨bB,aC⟩:=xE wr.heap.size;have bf:T.heap[bB]? = some (ZK v):=by rw[am,aC,bE.out];exact Ph _ _
    exact CF):=O6 h;exact UM
  ·have bZ:j=p.length:=O9;subst bZ;have aW:¬ (p.length:Int)<(p.length:Int):=O9;obtain⟨dI,eR⟩:=O4 b6 wr aF;have cH:TV wr s.2 bS:=by
    rw[aY.out,<-aK.tr];exact(Tf.kp aF _ aK.at_).nat.nt
   have di:=ajr dI O9 cH O9;obtain⟨dG,cS⟩:=xE (hasArgs p s.2);rw[<-cS] at di bq;obtain⟨bG,bQ⟩:=xE (VN l p vs p.length g);rw[<-bQ] at ax bq;have b4:Sz (C+8) bG:=by rw[bQ];exact(Sz.VN l p vs p.length cQ Qp).up O9
   clear cS bQ;go_wp2_with fail;refine cm di ?_;rintro m aI ⟨rfl,a6⟩;have bu:=ax.fH a6;have c9:=bm.trans (SL.of a6 (P6 bM));have de:=Y (fQ a6 ah.out);have d4:=aZ.fH a6;have dd:Kp E aI:=λN e m O d=>Kp.of a6 N e m (aF N e m O d) d;have dc:=bu.lt
   cases dG with
   | true=>
    obtain⟨dL,bI⟩:=xE (SE vs bG);obtain⟨cO,bR⟩:=dL;obtain⟨am,aj⟩:=xE (bR.hi l g2 0 cO);have dk:Sz (C+1590) bR:=by
     have h:=b4.args (vs:=vs);rw[<-bI] at h;exact h.up O9
    have cg:Sz (C+1600) am:=by show Sz _ _;rw[aj];exact(dk.hi _ _ _ _).up O9
    have bf:Hid (cf=Ut s ⟨l,q,r⟩ (QS (Qd s.2) l (kL l (Qv s.2) (Qv s.2).length am))):=by
     show _=_
     have h:=O4 bq;rw[<-bI,fL rfl] at h;rw[h,aj]
    have cL:=Y (λL (i:Mx M k aG ac aQ aN D I L bG) (dV:UZ L (.slice ua vs.length bW) vs)=>WK dN dM i b4 O9 dV dZ);rw[<-bI] at cL;have dl:=Y (λL (i:Mx M k aG ac aQ aN D I L bR)=>X7 i dk O9 l g2 0 cO);rw[<-aj] at dl;clear bI aj;go_wp2_with fail;have t:aI.drew.heap[W]? = some (PZ #[O3 l,O3 q,Pv r,.pointer o] 73):=fQ (f2 aI.heap.size aI).drew de.out;have a:Pn aI aI.drew:=RP.drew
    refine Qq 8 (λL=>L.heap[W]? = some (PZ #[O3 l,O3 q,Pv r,.pointer o] 73)) Qs ?_;refine up 0 k 0 t ?_;refine up 1 k 0 t ?_;refine up 2 k 0 t ?_;refine up 3 W 0 t ?_;refine uc 4 (O3 l) rfl (fM ⟨by kernel_rfl,λL i=>by have aO:=(fN i).1;go_simp⟩) (t) ?_
    refine up 5 k 0 t ?_;refine uh 6 (.slice ua vs.length bW) (t) ?_;refine Rl 7 λK c=>?_;go_simp;refine cm (O4 cL _ (bu.fH a) (d4.fH a)) ?_;rintro m T ⟨rfl,dh,b1⟩;have da:=bu.fH a;have b7:=(b1.jn (o:=none) da).fR t Pm;refine c.out _ _ (λ_=>b7) ?_;clear c K;have eU:=dh.lt;have dE:=(c9.trans (SL.of a (P6 dc))).trans b1;have d0:Kp E T:=λN e m O d=>b1.kp da N e m (Kp.of a N e m (dd N e m O d) d) d;have d1:=Y b7;clear b7;refine Rl 8 λK c=>?_;go_simp
    refine cm (O4 dl _ dh) ?_;rintro m cu ⟨rfl,dm,b9⟩;refine ko c ?_;clear c K;have bD:=Y dm;have bB:=Y (dE.Ya b9);have bv:=Y (b9.rest _ _ _ d1.out Pm);have aS:Hid (Kp E cu):=λN e m O d=>Ql.kp b9 N e m (d0 N e m O d) d;have bE:=dm.lt;clear t;refine TQ ?_ _;go_simp;have be:=Y (λL (i:Kp E L)=>XR s.2 bS L (by
     rw[aY.out,<-aK.tr];exact(Tf.kp i _ aK.at_).nat.nt) O9)
    go_wp2_with fail;refine cm (O4 be _ aS.out) ?_;have b{G}(h:G:=by
    have cB:=bD.out.fH aC;have dy:=bB.out.trans (SL.of aC (P6 bE));have dB:=Y (fQ aC bv.out);have dz:Kp E dp:=λN e m O d=>Kp.of aC N e m (O4 aS N e m O d) d;exact Le):=O6 h;exact EX
   | false=>
    obtain⟨am,aj⟩:=xE bG;obtain⟨cu,t⟩:=xE aI;have bf:Hid (cf=Ut s ⟨l,q,r⟩ (QS (Qd s.2) l (kL l (Qv s.2) (Qv s.2).length am))):=by
     show _=_
     rw[bq.out,aj];rfl
    have cg:Sz (C+1600) am:=by show Sz _ _;rw[aj];exact b4.up O9
    have bD:=bu;have bB:=c9;have bv:=de;have aS:=dd;have bE:=dc;rw[<-aj,<-t] at bD;rw[<-t] at bB bv aS bE ⊢;clear aj t;have be:=Y (λL (i:Kp E L)=>XR s.2 bS L (by
     rw[aY.out,<-aK.tr];exact(Tf.kp i _ aK.at_).nat.nt) O9)
    go_wp2_with fail;refine cm (O4 be _ aS) ?_;have b{G}(h:G:=by
    have cB:=bD.fH aC;have dy:=bB.trans (SL.of aC (P6 bE));have dB:=Y (fQ aC bv.out);have dz:Kp E dp:=λN e m O d=>Kp.of aC N e m (aS N e m O d) d;exact Le):=O6 h;exact EX):=O6 h;exact m9
def Eo (g:St):Er->Prop
 | .no=>g.steps<=20000
 | .stop=>g.steps=20001
 | .Yq a=>g.steps<=20000/\Gv g.M.objs.length a
 | .ir=>False
structure VO (N:Int)(σ:St)(r:(Va × Er) × St):Prop where
 iv:Iv N r.2
 ex:Ex σ r.2
 er:Eo r.2 r.1.2
 va:Gv r.2.M.objs.length r.1.1
structure Q (f:Nat)(N:Int)(p:Pl)(σ:St):Prop where
 fu:20001<σ.steps+f
 st:σ.steps<=20000
 iv:Iv N σ
 po:Po p σ
def Lg (g:St)(b:Option Va):Prop:=∀ a,b=some a->Gv g.M.objs.length a
structure SO (N:Int)(σ:St)(r:(Oc × Er × Option Va) × St):Prop where
 iv:Iv N r.2
 ex:Ex σ r.2
 er:Eo r.2 r.1.2.1
 va:Gv r.2.M.objs.length r.1.1.v
 la:Lg r.2 r.1.2.2
structure FI (F:Fx)(f:Nat):Prop where
 v:∀ {N d p σ},Q f N p σ->Nk 0 d.2->VO N σ (F.v d p σ)/\σ.steps<(F.v d p σ).2.steps
 s:∀ {N d p l σ},Q f N p σ->Nk 1 d.2->(Qk d.2=true->K4 σ.M p.scope d.2.tx)->Lg σ l->SO N σ (F.s d p l σ)/\σ.steps<(F.s d p l σ).2.steps
end
section
variable {a N':Int} {σ f R:St} {v:Va} {g:Er} {k:Nat} {b:Pl} {i:Fx} {d:Nd} {o C:Option Va} {aL:Oc}
section
variable (h:Q k a b σ)
include h
theorem Q.nx (c:Nx N' σ f):Q k N' b f:=⟨by rw[c.st];exact h.fu,by rw[c.st];exact h.st,c.iv,h.po.up c.ex⟩
theorem Q.next (c:VO N' σ ((v,.no),f)):Q k N' b f:=⟨by have:=h.fu;have:=c.ex.st;dsimp only at this;omega,c.er,c.iv,h.po.up c.ex⟩
theorem Q.iZ (c:SO N' σ ((aL,.no,o),f)):Q k N' b f:=⟨by have:=h.fu;have:=c.ex.st;dsimp only at this;omega,c.er,c.iv,h.po.up c.ex⟩
end
theorem VO.up {c:(Va × Er) × St}(h:VO a σ c)(j:a<=N'):VO N' σ c:=⟨h.iv.up j,h.ex,h.er,h.va⟩
theorem SO.up {c:(Oc × Er × Option Va) × St}(h:SO a σ c)(j:a<=N'):SO N' σ c:=⟨h.iv.up j,h.ex,h.er,h.va,h.la⟩
theorem VO.after {c:(Va × Er) × St}(e:Ex σ f)(h:VO a f c):VO a σ c:=⟨h.iv,e.trans h.ex,h.er,h.va⟩
theorem SO.after {c:(Oc × Er × Option Va) × St}(e:Ex σ f)(h:SO a f c):SO a σ c:=⟨h.iv,e.trans h.ex,h.er,h.va,h.la⟩
theorem VO.err (h:VO a σ ((v,g),f)):VO a σ ((vU,g),f):=⟨h.iv,h.ex,h.er,Wu _⟩
theorem VO.rH (h:VO a σ ((v,g),f))(j:Lg σ o):SO a σ ((RS,g,o),f):=⟨h.iv,h.ex,h.er,Wu _,λx c=>(j x c).up h.ex.ob⟩
theorem VO.ret (h:Nx a σ f)(c:σ.steps<=20000)(e:Gv f.M.objs.length v):VO a σ ((v,.no),f):=⟨h.iv,h.ex,by show f.steps<=20000;rw[h.st];exact c,e⟩
theorem VO.f0 {c:Py}(h:Nx a σ f)(e:σ.steps<=20000)(j:Sm c):VO a σ ((vU,f0 c),f):=⟨h.iv,h.ex,⟨by rw[h.st];exact e,l6 j⟩,Wu _⟩
theorem Lg.up (h:Lg σ o)(j:Ex σ f):Lg f o:=λx c=>(h x c).up j.ob
theorem SO.ret (h:Nx a σ f)(c:σ.steps<=20000)(e:Gv f.M.objs.length aL.v)(j:Lg f o):SO a σ ((aL,.no,o),f):=⟨h.iv,h.ex,by show f.steps<=20000;rw[h.st];exact c,e,j⟩
theorem Ee {s:Nat}{c:Mo}{aL:Int}{t:Py}{j:Pr}(h:Gm s c)(l:c.gv aL t=some j):Gv c.objs.length j.v:=by
 unfold Mo.gv at l;obtain⟨x,e,m⟩:=Option.bind_eq_some_iff.1 l;have n:x ∈ c.objs:=by
  rcases SA c aL with ⟨q,_⟩|⟨u,y,_,r,p⟩
  ·rw[q] at e;cases e
  ·rw[p] at e;cases e;exact gt r
 exact h.pv x n j (h7 m)
theorem axS {u:Nat}{c:Mo}(h:Gm u c)(j:Int)(l:Py):Gv c.objs.length (c.read j l).1:=by
 unfold Mo.read
 cases m:c.ic j l with
 | some r=>
  simp only
  split
  ·unfold Mo.ic at m;obtain⟨x,e,n⟩:=Option.bind_eq_some_iff.1 m;have p:x ∈ c.Pz:=by
    rcases QF c j with ⟨s,_⟩|⟨w,y,_,t,q⟩
    ·rw[s] at e;cases e
    ·rw[q] at e;cases e;exact gt t
   exact h.cv x p r (h7 n)
  ·exact Wu _
 | none=>
  simp only
  cases e:c.gv (c.SI j) l with
  | none=>exact Wu _
  | some n=>exact Ee h e
theorem xd:Sm RZ:=by decide
theorem oE:Sm gB:=by decide
theorem w4:Sm Vd:=by decide
theorem sq:Sm U1:=by decide
theorem Fd {c:Mo}{aL:Int}(h:0<=aL/\aL<c.objs.length)(j:Py)(v:Va)(fx:Bool):(c.put aL j v fx).1=0:=by
 unfold Mo.put
 rcases SA c aL with ⟨_,e⟩|⟨m,x,rfl,l,e⟩
 ·omega
 ·rw[e];simp only
  split
  ·rfl
  ·split <;> rfl
theorem atZ {e:Mo}{r:Int}{c:Py}(h:K4 e r c)(v:Va):(e.start r c v).1=0:=by
 obtain⟨q,x,l,rfl,n,t,u,_⟩:=h;unfold Mo.start
 rcases QF e q with ⟨_,m⟩|⟨w,y,g,p,m⟩
 ·have:=(gr.1 n).1;omega
 ·have g:q=w:=O9;subst g;rw[n] at p;cases p;rw[m];simp only
  rcases WX (λl=>iw c l.name) x.cs with ⟨j,_⟩|⟨z,A,j,s,_,_⟩
  ·exact absurd (jF.1 j l t) (by rw[u];simp)
  ·rw[show fC c x.cs=some z from j];simp only[s]
section
variable (h:Iv a σ) (ay:σ.steps<=20000) (q:Gv σ.M.objs.length v) (c:Int) (j:Py) (l:Bool)
include h ay q c j l
theorem Z3:Iv (a+1) (XJ c j v l σ).2/\Ex σ (XJ c j v l σ).2/\Eo (XJ c j v l σ).2 (XJ c j v l σ).1:=by
 unfold XJ
 split
 ·exact⟨h.up O9,Ex.refl _,ay,l6 xd⟩
 ·simp only;obtain⟨p,s⟩:=xE (if σ.M.SI c = -1 then 0 else σ.M.SI c);rw[<-s];have z:0<=p/\p<σ.M.objs.length:=by
   have D:=h.lo;rw[s]
   split
   ·omega
   ·rename_i e
    obtain⟨bz,t,_⟩:=h.pz;unfold Mo.SI at e ⊢
    rcases QF σ.M c with ⟨m,_⟩|⟨n,x,rfl,u,m⟩
    ·rw[m] at e;exact absurd rfl e
    ·rw[m] at e ⊢;change x.f6≠-1 at e
     show 0<=x.f6/\x.f6<_
     rcases t.go.ok.obj n x u with r|⟨B,r,A⟩
     ·exact absurd r e
     ·omega
  have m:=h.put q p j false;refine⟨m.iv,m.ex,?_⟩;rw[Fd z]
  show (σ.Rj p j v false).steps<=20000
  exact ay
theorem AQ:Iv (a+2) (YV c j v l σ).2/\Ex σ (YV c j v l σ).2/\Eo (YV c j v l σ).2 (YV c j v l σ).1:=by
 have m:=h.write q c j;unfold YV;simp only;have bN:=m.iv.up (show a+1<=a+2 by omega)
 split
 ·obtain⟨p,s,r⟩:=Z3 m.iv ay (q.up m.ex.ob) c j l;exact⟨p.up O9,m.ex.trans s,r⟩
 ·split
  ·exact⟨bN,m.ex,ay,l6 xd⟩
  ·split
   ·exact⟨bN,m.ex,ay,l6 oE⟩
   ·split
    ·refine⟨bN,m.ex,?_⟩
     dsimp only
     split
     ·exact⟨ay,l6 oE⟩
     ·exact ay
    ·exact⟨bN,m.ex,ay⟩
end
theorem D7 (e:Nat)(c:Int):Gv e (Vl c).1/\((Vl c).2=.no\/(Vl c).2=f0 Vd):=by
 unfold Vl
 split
 ·exact⟨Wu _,.inr rfl⟩
 ·exact⟨zm ⟨by omega,by omega⟩,.inl rfl⟩
theorem axT (n:Nat)(c:Mo)(p:Int)(j l:Va):Gv n (Wl c p j l).1/\((Wl c p j l).2=.no\/∃ m,(Wl c p j l).2=f0 m/\Sm m):=by
 have q:∀ e,Gv n (Vl e).1/\((Vl e).2=.no\/∃ m,(Vl e).2=f0 m/\Sm m):=λe=>⟨(D7 n e).1,(D7 n e).2.imp id λg=>⟨_,g,w4⟩⟩;unfold Wl
 split
 ·exact⟨og _ _,.inl rfl⟩
 ·split
  ·split
   ·exact⟨og _ _,.inl rfl⟩
   ·split
    ·exact q _
    ·split <;> exact q _
  ·split
   ·split
    ·exact⟨Wu _,.inr ⟨_,rfl,w4⟩⟩
    ·rename_i r
     refine⟨l6 ?_,.inl rfl⟩;have:(XI (c.hu j) (c.hu l)).size=(c.hu j).size+(c.hu l).size:=by
      show (List.toArray _).size=_
      rw[jK,gj];rfl
     unfold Sm;omega
   ·split
    ·exact⟨og _ _,.inl rfl⟩
    ·exact⟨Wu _,.inr ⟨_,rfl,oE⟩⟩
theorem MI (c:Mo)(v:Va):Sm (UO c v):=by
 unfold UO
 repeat' split
 all_goals decide
structure LO (N:Int)(σ:St)(r:(List Va × Er) × St)(n:Nat):Prop where
 iv:Iv N r.2
 ex:Ex σ r.2
 er:Eo r.2 r.1.2
 va:∀ v ∈ r.1.1,Gv r.2.M.objs.length v
 ln:r.1.1.length<=n
theorem rU (r:FI i k):∀ (p:List Nd) (l:List Va) {σ:St},Q k a b σ->(∀ d ∈ p,Nk 0 d.2)->(∀ v ∈ l,Gv σ.M.objs.length v)->LO a σ (UD i b p l σ) (l.length+p.length)
 | [],l,σ,h,_,q=>⟨h.iv,Ex.refl _,h.st,q,Qp⟩
 | d::p,l,σ,h,s,q=>by
  have j:=(r.v h (s d gf)).1;rw[UD]
  rcases X:i.v d b σ with ⟨⟨v,g⟩,f⟩
  rw[X] at j
  cases g with
  | no=>
   have m:=rU r p (l++[v]) (h.next j) (λx c=>s x (gE _ c)) (λx c=>by
    rcases gU.1 c with c|c
    ·exact(q x c).up j.ex.ob
    ·rw[gc.1 c];exact j.va)
   exact⟨m.iv,j.ex.trans m.ex,m.er,m.va,by have:=m.ln;simp at this ⊢;omega⟩
  | _=>exact⟨j.iv,j.ex,j.er,(λx c=>by cases c),f3 _⟩
theorem qm (n:FI i k):∀ (e:List Nd) {o:Option Va} {σ:St},Q k a b σ->(∀ d ∈ e,Nk 1 d.2)->(∀ d ∈ e,Qk d.2=true->K4 σ.M b.scope d.2.tx)->Lg σ o->SO a σ (SG i b e o σ)
 | [],o,σ,h,_,_,l=>⟨h.iv,Ex.refl _,h.st,Wu _,l⟩
 | d::e,o,σ,h,p,m,l=>by
  have c:=(n.s h (p d gf) (m d gf) l).1;rw[SG]
  rcases q:i.s d b o σ with ⟨⟨aL,g,C⟩,f⟩
  rw[q] at c
  cases g with
  | no=>
   dsimp only
   split
   ·exact c
   ·exact(qm n e (h.iZ c) (λx j=>p x (gE _ j)) (λx j r=>c.ex.k4 _ _ (m x (gE _ j) r)) c.la).after c.ex
  | _=>exact c
theorem Ff {j:St->(Va × Er) × St}(h:Q k a b σ)(q:σ.fO≠40->VO N' { σ with fO:=σ.fO+1 } (j { σ with fO:=σ.fO+1 }))(p:a<=N'):VO N' σ (within σ j):=by
 unfold Hp.within
 split
 ·exact .f0 ((Nx.refl h.iv).up p) h.st w4
 ·rename_i n
  have c:=q n;have l:=c.ex.ca
  dsimp only at l
  refine⟨?_,⟨c.ex.ro,c.ex.ob,by show (j _).2.fO - 1=σ.fO;rw[l];rfl,c.ex.st,c.ex.k4,c.ex.lg⟩,?_,c.va⟩
  ·obtain⟨bz,e,m⟩:=c.iv.pz;exact⟨⟨bz,⟨e.go,e.ow,e.fn,e.lg,e.se,e.oe⟩,m⟩,c.iv.gm,c.iv.fn,by have:=c.iv.ca;show (j _).2.fO - 1<=40;omega,c.iv.lr,c.iv.lo⟩
  ·have e:=c.er
   dsimp only
   revert e
   cases (j { σ with fO:=σ.fO+1 }).1.2 with
   | _=>exact id
theorem Q.call (h:Q k a b σ)(l:σ.fO≠40):Q k a b { σ with fO:=σ.fO+1 }:=by
 obtain⟨j,c,e⟩:=h.iv.pz;exact⟨h.fu,h.st,⟨⟨j,⟨c.go,c.ow,c.fn,c.lg,c.se,c.oe⟩,e⟩,h.iv.gm,h.iv.fn,by have:=h.iv.ca;show σ.fO+1<=40;omega,h.iv.lr,h.iv.lo⟩,h.po⟩
theorem at7 (E:FI i k)(h:Q k a b σ){c:Fu}(H:Fg c.d.2){l:List Va}(M:l.length<=1500)(F:∀ v ∈ l,Gv σ.M.objs.length v):VO (a+9000) σ (WG i c l σ):=by
 unfold WG;refine Ff h (λB=>?_) O9;have I:=h.call B
 dsimp only
 have r:=I.iv.gq c.scope (-1) (own c.d);have z:∀ v ∈ l,Gv (St.gq { σ with fO:=σ.fO+1 } c.scope (-1) (own c.d)).M.objs.length v:=F;have s:=uL { σ with fO:=σ.fO+1 } c.scope (own c.d);have q:Po ⟨St.gg { σ with fO:=σ.fO+1 },St.gg { σ with fO:=σ.fO+1 },c.fT⟩ (St.gq { σ with fO:=σ.fO+1 } c.scope (-1) (own c.d)):=
  ⟨by show (0:Int)<=(σ.M.Pz.length:Int);omega,by show (σ.M.Pz.length:Int)<_;simp[St.gq,Mo.scope];omega⟩
 generalize St.gq { σ with fO:=σ.fO+1 } c.scope (-1) (own c.d)=f at r z s q ⊢
 generalize O:St.gg { σ with fO:=σ.fO+1 }=j at s q ⊢
 obtain⟨t,L,A⟩:=r.iv.body (d:=c.d) (p:=⟨j,j,c.fT⟩) H q s M z;have p:=r.trans t;have D:Q k (a+9000) ⟨j,j,c.fT⟩ (S9 c.d ⟨j,j,c.fT⟩ l f):=⟨by rw[p.st];exact h.fu,by rw[p.st];exact h.st,p.iv.up O9,q.up t.ex⟩
 have m:=qm E (QB (Pg c.d 1)) (o:=none) D (λd e=>L.ks _ (QZ e)) A (λ_ g=>by cases g);exact⟨m.iv,p.ex.trans m.ex,m.er,m.va⟩
theorem Gs (D:FI i k)(h:Q k a b σ){c:Tr}(A:Bk c):VO (a+9000) σ (Xk i (none,c) b σ):=by
 unfold Xk;simp only
 split
 ·exact .f0 ((Nx.refl h.iv).up O9) h.st sq
 ·obtain⟨m,l⟩:=xE (if (b.fT||PO c)=true then (⟨σ.gg,σ.gg,true⟩,σ.gq b.scope (-1) (-3)) else ({ b with fT:=b.fT||PO c },σ):Pl × St);rw[<-l];have q:Nx (a+1) σ m.2/\Po m.1 m.2:=by
   rw[l]
   split
   ·exact⟨h.iv.gq _ _ _,by show (0:Int)<=(σ.M.Pz.length:Int);omega,by show (σ.M.Pz.length:Int)<_;simp[St.gq,Mo.scope];omega⟩
   ·exact⟨(Nx.refl h.iv).up O9,h.po⟩
  clear l;obtain⟨q,F⟩:=q;obtain⟨z,s,t⟩:=q.iv.HL (b:=(none,c)) A F
  generalize PI (none,c) m.1 m.2=p at z s t ⊢
  have r:=q.trans z;have l:Q k (a+9000) p.1 p.2:=⟨by rw[r.st];exact h.fu,by rw[r.st];exact h.st,r.iv.up O9,s⟩
  have j:=qm D (QB (none,c)) (o:=some vU) l (λd E=>A.ks _ (QZ E)) t (λ_ g=>by cases g;exact Wu _)
  rcases X:SG i p.1 (QB (none,c)) (some vU) p.2 with ⟨⟨aL,g,C⟩,f⟩
  rw[X] at j;have B:=r.ex.trans j.ex
  cases g with
  | no=>
   refine⟨j.iv,B,j.er,?_⟩
   show Gv _ (C.getD vU)
   cases C with
   | none=>exact Wu _
   | some v=>exact j.la v rfl
  | _=>exact⟨j.iv,B,j.er,Wu _⟩
theorem Xb:∀ c ∈ Ru,1<=c.size:=by decide
theorem w6 {j:Py}{c:Tr}{l:Bool}(h:TD RH Ru j=.ok c)(e:g5 c l false false=none):Nk 9 c:=⟨xl Xb h,(Zu h).2,sb c _ _ _ e⟩
theorem axV (t:FI i k)(h:Q k a b σ)(e:Tr){m:List Va}(A:∀ v ∈ m,Gv σ.M.objs.length v):VO (a+9000) σ (XA i e b m σ):=by
 unfold XA
 cases m with
 | nil=>exact .ret ((Nx.refl h.iv).up O9) h.st (Wu _)
 | cons u more=>
  dsimp only
  split
  ·exact .ret ((Nx.refl h.iv).up O9) h.st (A u gf)
  ·obtain⟨p,l⟩:=xE (if e.kd≠23\/e.tx≠Vs then ⟨1,0,false⟩ else b:Pl);rw[<-l];have z:Po p σ:=by
    rw[l]
    split
    ·exact⟨by show (0:Int)<=1;omega,by show (1:Int)<_;have:=h.iv.lr;omega⟩
    ·exact h.po
   clear l;refine Ff h (λs=>?_) O9;have c:Q k a p { σ with fO:=σ.fO+1 }:=⟨h.fu,h.st,(h.call s).iv,z⟩;have j:∀ {q:Py},Sm q->VO (a+9000) { σ with fO:=σ.fO+1 } ((vU,Hp.f0 q),{ σ with fO:=σ.fO+1 }):=λay=>.f0 ((Nx.refl c.iv).up O9) c.st ay
   generalize ({ σ with fO:=σ.fO+1 }:St)=τ at c j ⊢
   cases X:TD RH Ru u.s with
   | ok B=>
    simp only
    cases r:g5 B p.fT false false with
    | none=>exact Gs t c ((w6 X r).bk O9)
    | some g=>exact j sq
   | _=>exact j sq
theorem Nk.Kv {j:Tr}(h:Nk 0 j)(c:j.kd=35):(∀ m ∈ j.fJ,Nk 0 m)/\j.fJ.length<=9:=by
 have l:=h.sh
 cases l with
 | call p l q=>exact⟨λm e=>h.gK e (by rcases gP.1 e with rfl|e;exact p;exact l m e),by show (_::_).length<=9;simp;omega⟩
 | lit n=>simp only[Tr.kd] at c;omega
 | one n=>simp only[Tr.kd] at c;omega
 | two n=>simp only[Tr.kd] at c;omega
 | _=>cases c
section
variable (l:FI i k) (h:Q k a b σ) (p:Nk 0 d.2)
include l h p
theorem axW (t:d.2.kd=35):VO (a+9000) σ (YH i d b σ):=by
 obtain⟨B,I⟩:=p.Kv t;have c:=rU l (QB d) [] h (λx j=>B _ (QZ j)) (λ_ h=>by cases h);unfold YH
 rcases X:UD i b (QB d) [] σ with ⟨⟨s,g⟩,f⟩
 rw[X] at c;have F:s.length<=9:=by have:=c.ln;have:=RU d;simp at *;omega
 cases s with
 | nil=>exact⟨c.iv.up O9,c.ex,c.er,Wu _⟩
 | cons z q=>
  cases g with
  | no=>
   have j:Q k a b f:=⟨by have:=h.fu;have:=c.ex.st;dsimp only at this;omega,c.er,c.iv,h.po.up c.ex⟩
   have L:=c.va z gf;have r:∀ v ∈ q,Gv f.M.objs.length v:=λv A=>c.va v (gE _ A);have H:q.length<=1500:=by simp at F;omega
   have m:=(Nx.refl j.iv).up (show a<=a+9000 by omega);simp only;refine VO.after c.ex ?_
   split
   ·exact .f0 m j.st oE
   ·split
    ·exact .f0 m j.st oE
    ·split
     ·exact .ret ((j.iv.hq _).up O9) j.st (Wu _)
     ·split
      ·exact axV l j _ r
      ·split
       ·rename_i D E
        exact at7 l j (j.iv.fn D (gt E)).1 H r
       ·exact .ret m j.st (Wu _)
  | _=>exact⟨c.iv.up O9,c.ex,c.er,Wu _⟩
theorem qc:Iv a (UJ i d b σ).2/\Ex σ (UJ i d b σ).2/\Eo (UJ i d b σ).2 (UJ i d b σ).1.2/\((UJ i d b σ).1.2=.no->0<=(UJ i d b σ).1.1/\(UJ i d b σ).1.1<(UJ i d b σ).2.M.objs.length):=by
 have c:=(l.v h p).1;unfold UJ
 rcases e:i.v d b σ with ⟨⟨v,g⟩,f⟩
 rw[e] at c
 cases g with
 | no=>
  simp only
  split
  ·exact⟨c.iv,c.ex,⟨c.er,l6 oE⟩,λg=>by cases g⟩
  ·rename_i j
   exact⟨c.iv,c.ex,c.er,λ_=>c.va.r (by simpa using j)⟩
 | _=>exact⟨c.iv,c.ex,c.er,λg=>by cases g⟩
end
theorem HH (r:FI i k)(aL:Int):∀ (l:List Nd) {a:Int} {σ:St},Q k a b σ->(0<=aL/\aL<σ.M.objs.length)->(∀ j ∈ l,Nk 0 (Pg j 0).2)->VO (a+l.length) σ (Y7 i b aL l σ)
 | [],a,σ,h,m,_=>.ret ((Nx.refl h.iv).up P7) h.st (vy m)
 | j::l,a,σ,h,m,q=>by
  have c:=(r.v h (q j gf)).1;rw[Y7]
  rcases X:i.v (Pg j 0) b σ with ⟨⟨v,g⟩,f⟩
  rw[X] at c
  cases g with
  | no=>
   have p:=c.iv.put c.va aL j.2.tx false;have z:=(c.ex.trans p.ex).ob;have t:=HH r aL l ((h.next c).nx p) ⟨m.1,m2 m.2 (Int.ofNat_le.2 z)⟩ (λx s=>q x (gE _ s));refine(VO.after (c.ex.trans p.ex) t).up ?_;rw[gL];push_cast;omega
  | _=>exact⟨c.iv.up O9,c.ex,c.er,Wu _⟩
