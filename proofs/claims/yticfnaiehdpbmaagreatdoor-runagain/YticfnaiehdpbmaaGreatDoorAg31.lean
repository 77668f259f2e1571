import Derived.Test.YticfnaiehdpbmaaGreatDoorAg30
import Derived.Lib.AppendIntMem
import Derived.Lib.ItoaLen
set_option maxRecDepth 100000
set_option maxHeartbeats 8000000
set_option linter.unusedVariables false
namespace Go.Proofs.YticfnaiehdpbmaaGreatDoor
open Go.RowKit Go.Proofs.Tryz
namespace Hp
def Xf (v:Va):List NP:=[Nr v.k,Nr v.n,ND v.s]
def Ze (B:Nat)(w:Ny)(u:NP)(vs:List Va):Prop:=w.ownsRow B 65 3 u vs.length (vs.flatMap Xf)
theorem ay8 (v:Va):(Xf v).length=3:=rfl
section
variable {w0:Ny} {mb af:Nat} {aa:List Nat} {es aS aB az aL:NP} {w w':Ny} {σ:St} {N:Nat} {F:Fx}
theorem Ze.nil (B:Nat)(w:Ny):Ze B w PG []:=⟨rfl,Or.inl ⟨rfl,rfl⟩⟩
section
variable {B:Nat} {u:NP} {vs:List Va} (h:Ze B w u vs)
include B u vs h
theorem Ze.keep (aG:Om none mb w w'):Ze B w' u vs:=row_of h fun _ _ _ hg=>aG.keep hg NH
theorem Ze.later (D:NJ w w'):Ze B w' u vs:=N9 h D
end
def arU (w0:Ny)(mb af:Nat)(aa:List Nat)(es:NP)(w:Ny)(r:(List Va × Er) × St)(e:Ending)(w':Ny):Prop:=
 (∃ u ev,e=NU (.tuple #[u,ev])/\Ze w.heap.size w' u r.1.1/\U4 es w' ev r.1.2)/\Ms w0 mb af aa w' r.2/\Om none mb w w'
theorem auh:(prog.info? 65).map (fun i=>(i.zero,i.size,i.bytes))=some (some (.agg #[Nr 0,Nr 0,OG]),3,32):=by kernel_rfl
theorem akk (w:Ny)(H:Nat)(fk:w.heap.size=H)(v:Va)(j:Nat)(u:NP)(h:(Xf v)[j]? = some u) :
  (w.alloc (.cells #[Nr v.k,Nr v.n,ND v.s] 65)).cell? (((Nv H 0):Addr).add j)=some u:=by
 subst fk;unfold Xf at h
 rcases j with _|_|_|j <;> simp at h
 all_goals subst h;simp[Addr.add]
theorem val_one (v:Va):∀ u ∈ Xf v,u.oneCell'=true:=by
 intro u aO;unfold Xf at aO;simp at aO
 rcases aO with rfl|rfl|rfl <;> rfl
section
variable {p:Pl} {d:Nd} {a1:List Nd} {be:List Va} {v:Va}
include p d a1 be v
theorem aiM {σ1:St}(h:F.v d p σ=((v,.no),σ1)):TU F p (d::a1) be σ=TU F p a1 (be++[v]) σ1:=by rw[TU,h]
theorem aiN {e:Er}{σ1:St}(h:F.v d p σ=((v,e),σ1))(au:e≠.no):TU F p (d::a1) be σ=(([],e),σ1):=by
 rw[TU,h];exact aui
end
theorem afm (ae:Yh es)(aK:Ms w0 mb af aa w σ){u:NP}{cW:List Ad}{a1:List Nd}(U:QT 0 w u cW)(fm:RV aa w cW a1)(hlen:a1.length<=1000000)(p:Pl)(aC:Option Addr)
  (P:St->Prop) (hP:P σ) (bq:∀ d ∈ a1,∀ σ,P σ->RF w0 mb af aa es σ d p (F.v d p σ)/\∀ v σ1,F.v d p σ=((v,.no),σ1)->P σ1) :
  NK 293 #[Nu mb,u,OQ p aC] w (arU w0 mb af aa es w (TU F p a1 [] σ)):=by
 obtain⟨i0,d2,dH,b6,cq⟩:=info_parts auh;have bI:=aK.lt;have z:=kk (∀{G}(h:G:=by
 have ds:w.heap.size<=bc:=Nw;have e3:=RV.len _ _ fm;obtain⟨rs,fE⟩:=xH (TU F ⟨aq,aF,st⟩ a1 [] σ);rw[<-fE.out];have bP:=kk (∀{G}(h:G:=by
 have dF:=hide bK;have dk:=(U.later aE);have nu:=(RV.kp (Kp.of aE) _ _ fm);have od:=hide hP;have ah:=hide bq;have hsz2:=aE.size;obtain⟨cT,dO,aO⟩:=U.form;subst aO;have dc:=dj.lt;have n5:=hide e3;have DP:cW.length<=1000000:=Nw;clear bK hP bq ds e3;go_enter func293,ntmps293;go_wp2_with fail;rw[<-bu.out,<-bU];clear bU
 go_loopw [8,15] (fun o i wr=>∃ (k:Nat) (be:List Va) (dy:St),k<=cW.length/\i=Nr k/\be.length=k/\Ze w2.heap.size wr o be/\Ms w0 mb af aa wr dy/\P dy/\Om none mb w2 wr/\rs=TU F ⟨aq,aF,st⟩ (a1.drop k) be dy) (fun _ i _=>cW.length - (intOf i).toNat)
 case atStart=>exact⟨0,[],σ,Nat.zero_le _,rfl,rfl,Ze.nil _ _,dj,od.out,Om.of P8 (Oi dc),fE.out⟩
 case round=>
  obtain⟨k,be,dy,E,rfl,hacc,hrow,aK,ld,ak,iJ⟩:=hrel;have qV:=hrow;have l2:=hide ld;have iN:=hide iJ;have Fb:=hide hacc;have h6:=aK.lt;obtain⟨ye,iK,aM⟩:=N8 hrow;subst aM;have oW:=ak.below.size;clear ld iJ hacc
  by_cases aQ:k<cW.length
  ·have bn:k<a1.length:=by rw[<-n5.out];exact aQ
   obtain⟨g,cap,ap,hg,ai,aA⟩:=(dk.kp ak.SX).cell k aQ;have z:=kk (∀{G}(h:G:=by
   obtain⟨ch,ij⟩:=Ns ah a1[k] (List.getElem_mem _) dy l2.out;have bA:=(ch wr cW[k] aC aK ((RV.get _ _ nu k aQ bn).kp ak.SX));obtain⟨q,ag⟩:=xE ((cW[k]).p);rw[<-ag] at ai bA
   rcases dh:F.v a1[k] ⟨aq,aF,st⟩ dy with ⟨⟨v1,av⟩,σ1⟩
   rw[dh] at bA;have lA:=hide ij;have cZ:=hide dh;have lM:a1.drop k=a1[k]::a1.drop (k+1):=List.drop_eq_getElem_cons bn;have lX:=hide lM;obtain⟨aW,p1,cr,cL,_,dY⟩:=cells4 (ak.keep dF.out NH);have BO:Hid (be.length=k):=Fb;clear ij ag dh lM;go_wp2_with fail;refine cm bA ?_;rintro e aD ⟨⟨ev,rfl,aI⟩,gY,gu⟩;have fc:=(ak.trans gu);have p7:=(qV.keep gu);have ht:=gY.lt;have iS:wr.heap.size<=aD.heap.size:=gu.below.size;clear aW p1 cr cL dY ai
   by_cases au:av=.no
   ·subst au;have br:ev=Pe:=aI;subst br;obtain⟨m,hmeq⟩:=xH be.length;have sG:m=k:=by rw[hmeq.out];exact Ns BO
    have hrw2:aD.ownsRow w2.heap.size 65 3 (.slice ye m iK) m (be.flatMap Xf):=by rw[hmeq.out];exact p7
    rw[<-hmeq.out];have yZ:=hide sG;have AO:m<=1000000:=Nw;clear sG
    go_wp2_with (at_builtin;refine wpList_append_lies _ rfl _ _ 311 rfl w2.heap.size 65 i0 _ 3 32 underlying311 d2 dH b6 cq rfl NH _ _ _ rfl ((hrw2.alloc _).alloc _) (Nv (aD.heap.size+1) 0) 1 1 (Xf v1) rfl rfl (akk (aD.alloc (.cells #[Nr v1.k,Nr v1.n,ND v1.s] 65)) _ Oq v1) (val_one v1) NH (by unfold maxLen;omega) Nw Qa (aD.heap.size+2) Oq ?_)
    intro gX cap' ao hown' hgrow iD _;have bm:NJ aD ((aD.alloc (.cells #[Nr v1.k,Nr v1.n,ND v1.s] 65)).alloc (.cells #[Nr v1.k,Nr v1.n,ND v1.s] 65)):=OM.alloc Oq _;have vI:OB [65] mb ((aD.alloc (.cells #[Nr v1.k,Nr v1.n,ND v1.s] 65)).alloc (.cells #[Nr v1.k,Nr v1.n,ND v1.s] 65)) ao:=OB.grown hgrow (by have:=bm.size;omega) fun b D=>by
     obtain⟨c,ai⟩:=OZ ((hrw2.alloc _).alloc _) D;exact⟨by have:=(O9 hrw2 b D).2;omega,c,65,ai,by simp⟩
    have jC:=((gY.later bm).Xd vI NH);have cV:Om none mb w2 ao:=by
     refine⟨fc.below.trans ((bm.mono (Oi ht)).trans vI.below),fun b c e D au hl=>?_⟩;have h1:=stays bm (fc.rest b c e D au hl);refine(hgrow.block b (lt_of_heap h1) (fun e=>?_)).trans h1;have O:=(O9 hrw2 b e.symm).2;have ax:=lt_of_heap D;omega
    clear iD;go_wp2_with fail
    go_roundw
    case rel=>
     refine⟨k+1,be++[v1],σ1,by omega,by go_num,by rw[List.length_append,BO.out];rfl,?_,jC,Ns lA v1 σ1 cZ.out,cV,?_⟩
     ·show World.ownsRow _ _ _ _ _ _ _
      rw[List.length_append,List.flatMap_append,<-hmeq.out];simpa using hown'
     ·rw[iN.out,lX.out];exact aiM cZ.out
    case measure=>simp[intOf];omega
   ·obtain⟨et,ex,br⟩:=aI.Vs au ae;subst br;have aH:rs=(([],av),σ1):=by rw[iN.out,lX.out];exact aiN cZ.out au
    have cz:=hide aH;clear aH au;go_wp2_with fail;have ed:=(Below.refl aD.heap.size aD).alloc OH (.cells #[Nr v1.k,Nr v1.n,ND v1.s] 65);refine bodyPost_ret (v:=.tuple #[PG,.iface et ex]) (by simp[results,results293,go_sem]) rfl ?_;rw[cz.out];exact⟨⟨_,_,rfl,Ze.nil _ _,aI.later ed⟩,gY.later ed,da.trans (fc.trans (Om.of (L:=none) ed (Oi ht)))⟩),G);exact auj
  ·have cM:k=cW.length:=Nw;have aH:rs=((be,.no),dy):=by rw[iN.out,cM,n5.out,List.drop_length];rfl
   have cz:=hide aH;have hL:¬ (k:Int)<(cW.length:Int):=Nw;clear aH cM;go_wp2_with fail;refine bodyPost_ret (v:=.tuple #[.slice ye be.length iK,Pe]) (by simp[results,results293,go_sem]) rfl ?_;rw[cz.out];exact⟨⟨_,_,rfl,XZ qV hsz2,rfl⟩,aK,da.trans ak⟩),G);exact zti),G);exact zsr
abbrev X5 (w : Ny) : Prop := Lib.TabIs prog w "internal/strconv.uint64pow10" .u64 Lib.pow10Tab
theorem Ms.tab (h:Ms w0 mb af aa w σ)(aZ:Bs w0 mb af aa es)(a':X5 w0):X5 w:=Lib.tabBelow_of_tabIs a' w (by rw[aZ.sz];exact h.below)
theorem afn (b:Bool)(w:Ny):NK 131 #[NI b] w fun e w'=>e=NU (ND (if b then aaB else XY))/\w'=w:=by
 have h:NK 207 #[NI b] w fun e w'=>e=NU (ND (if b then aaB else XY))/\w'=w:=by
  cases b
  all_goals
   go_enter func207,ntmps207;go_wp2_with fail;go_ret;exact⟨rfl,rfl⟩
 obtain⟨t,a'⟩:=xE ((if b then aaB else XY));rw[<-a'] at h ⊢;clear a';go_enter func131,ntmps131;go_wp2_with fail;refine cm h ?_;exact auk
theorem ady (aK:Ms w0 mb af aa w σ)(o:Int):NK 134 #[Nu mb,Nr o] w fun e w'=>e=NU (ND (if σ.M.codeOf o≠0 then Ol else XB))/\w'=w:=by
 obtain⟨_,_,_,_,ac⟩:=aK;obtain⟨c,ai⟩:=xE (σ.M.codeOf o);have ah:=(ag8 ac.hh o);rw[<-ai] at ah ⊢;clear ai
 by_cases c0:c=0
 ·subst c0;rw[if_neg Oq];go_enter func134,ntmps134;go_wp2_with fail;refine cm ah ?_;exact auk
 ·rw[if_pos c0];go_enter func134,ntmps134;go_wp2_with fail;refine cm ah ?_;exact auk
theorem adz (aZ:Bs w0 mb af aa es)(a':X5 w0)(aK:Ms w0 mb af aa w σ)(v:Va)(aA:-9223372036854775808<=v.n/\v.n<=9223372036854775807):NK 61 #[Nu mb,vA v] w fun e w'=>e=NU (ND (σ.M.shw v))/\NJ w w':=by
 have aE:=(Below.refl w.heap.size w).alloc OH (.cells #[Nr v.k,Nr v.n,ND v.s] 65);have Dy:=aK.later aE;have I9:=Dy.tab aZ a';have dE:=hide aA;clear aA;obtain⟨k,n,t⟩:=v
 by_cases ce:k=0
 ·subst ce;have av:σ.M.shw ⟨0,n,t⟩=Qx:=rfl;exact ap3
 by_cases bV:k=1
 ·subst bV;have av:σ.M.shw ⟨1,n,t⟩=aix:=rfl;exact ap3
 by_cases dB:k=2
 ·subst dB;obtain⟨tb,ll⟩:=xE (Va.tru ⟨2,n,t⟩);obtain⟨aB,jM⟩:=xE ((if tb then aaB else XY));have av:σ.M.shw ⟨2,n,t⟩=aB:=by rw[jM,ll];rfl
  rw[av];have eO:=(VI ⟨2,n,t⟩ (w.alloc (.cells #[Nr 2,Nr n,ND t] 65)));rw[<-ll] at eO;have jW:=hide (fun X=>afn tb X);rw[<-jM] at jW;clear av ll jM;go_enter func61,ntmps61;go_wp2_with fail;refine cm eO ?_;rintro e w1 ⟨rfl,b4⟩;have f0:=(aE.trans (b4.mono aE.size));go_wp2_with fail;refine cm (Ns jW w1) ?_;rintro e ao ⟨rfl,rfl⟩;go_wp2_with fail;go_ret;exact⟨rfl,f0⟩
 by_cases ir:k=3
 ·subst ir;have av:σ.M.shw ⟨3,n,t⟩=ZB n:=rfl;rw[av];have f1:=(Tryz.strconv_Itoa n dE.out.1 dE.out.2 _ I9);obtain⟨aB,jM⟩:=xE (ZB n);have Ek:(⟨(Lib.itoa n).toArray⟩:NR)=aB:=by rw[jM];rfl
  rw[Ek] at f1;rw[<-jM];clear av jM Ek;go_enter func61,ntmps61;go_wp2_with fail;refine cm f1 ?_;rintro e w1 ⟨rfl,kkq,os,wu⟩;have f0:NJ w w1:=by
   show Below _ _ _
   rw[wu];exact aE.trans (Lib.below_grow _ _ aE.size kkq os)
  clear wu;go_wp2_with fail;go_ret;exact⟨rfl,f0⟩
 by_cases k4:k=4
 ·subst k4;have av:σ.M.shw ⟨4,n,t⟩=t:=rfl;exact ap3
 by_cases mx:k=5
 ·subst mx;have dr:=(ady Dy n);obtain⟨aB,jM⟩:=xE ((if σ.M.codeOf n≠0 then Ol else XB));have av:σ.M.shw ⟨5,n,t⟩=aB:=by rw[jM];rfl
  rw[av];rw[<-jM] at dr;clear av jM;go_enter func61,ntmps61;go_wp2_with fail;refine cm dr ?_;rintro e w1 ⟨rfl,wu⟩;rw[wu];clear wu;go_wp2_with fail;go_ret;exact⟨rfl,aE⟩
 have av:σ.M.shw ⟨k,n,t⟩=NC:=by unfold Mo.shw;simp[ce,bV,dB,ir,k4,mx]
 exact ap3
structure Sv (w:Ny)(u:NP)(vs:List Va):Prop where
 form:∃ aC cap,u=.slice aC vs.length cap
 at_:∀ (i:Nat) v,vs[i]? = some v->∃ g o cap c,u=.slice (some (Nv g o)) vs.length cap/\w.heap[g]? = some (Og c 65)/\c[o+i * 3]? = some (Nr v.k)/\c[o+i * 3+1]? = some (Nr v.n)/\c[o+i * 3+2]? = some (ND v.s)
variable {L:Option Nat}{u:NP}{vs:List Va}
section
variable (h:Sv w u vs)
include h
theorem Sv.keep (E:∀ (b:Nat) c,w.heap[b]? = some (Obj.cells c 65 (0,0))->w'.heap[b]? = some (Obj.cells c 65 (0,0))):Sv w' u vs:=
 ⟨h.form,fun i v ap=>by obtain⟨g,o,cap,c,h1,O,ax⟩:=h.at_ i v ap;exact⟨g,o,cap,c,h1,E g c O,ax⟩⟩
theorem Sv.later (D:NJ w w'):Sv w' u vs:=h.keep fun _ _ ai=>stays D ai
theorem Sv.ZO (aG:Om none mb w w'):Sv w' u vs:=h.keep fun _ _ ai=>aG.keep ai NH
theorem Sv.cells {i:Nat}{v:Va}(ap:vs[i]? = some v):∃ g o cap,u=.slice (some (Nv g o)) vs.length cap/\g<w.heap.size/\w.cell? (Nv g (o+i * 3))=some (Nr v.k)/\w.cell? (Nv g (o+i * 3+1))=some (Nr v.n)/\w.cell? (Nv g (o+i * 3+2))=some (ND v.s):=by
 obtain⟨g,o,cap,c,h1,O,ax,aU,bN⟩:=h.at_ i v ap;refine⟨g,o,cap,h1,lt_of_heap O,?_,?_,?_⟩
 ·simp[World.cell?,O,ax]
 ·simp[World.cell?,O,aU]
 ·simp[World.cell?,O,bN]
end
theorem afz (x y:List UInt8)(r:List (List UInt8)):Lib.join (x::y::r) [32]=x++([32]++Lib.join (y::r) [32]):=by simp[Lib.join,List.intercalate,List.intersperse]
theorem afA:∀ (l:List ByteArray),(⟨(Lib.join (l.map (·.data.toList)) [32]).toArray⟩:ByteArray)=Wv l
 | []=>rfl
 | [a]=>by
  rw[Wv,List.map_cons,List.map_nil,Lib.join_one]
 | a::b::l=>by
  have h:=afA (b::l);rw[Wv,List.map_cons,List.map_cons,afz,<-h];unfold Xa;simp;intro h;cases h
theorem join_le:∀ (l:List ByteArray),(∀ x ∈ l,x.size<=3000)->(Lib.join (l.map (·.data.toList)) [32]).length<=3001 * l.length
 | [],_=>by simp[Lib.join,List.intercalate]
 | [a],h=>by
  have:=h a List.mem_cons_self;rw[List.map_cons,List.map_nil,Lib.join_one];simp;omega
 | a::b::l,h=>by
  have h1:=join_le (b::l) (fun x ac=>h x (List.mem_cons_of_mem _ ac));have O:=h a List.mem_cons_self;have ax:a.data.toList.length=a.size:=by simp
  rw[List.map_cons,List.map_cons,afz,List.length_append,List.length_append,ax];rw[List.map_cons] at h1;simp only[List.length_cons,List.length_nil] at h1 ⊢;omega
theorem am2 {B:Nat}{l:List ByteArray}(h:Qu B w u l)(hl:l.length<=1000)(ae:∀ x ∈ l,x.size<=3000):NK 318 #[u,ND ⟨#[32]⟩] w fun e w'=>e=NU (ND (Wv l))/\NJ w w':=by
 rcases Nat.eq_zero_or_pos l.length with h0|h0
 ·obtain⟨a,c,rfl⟩:=N8 h;rw[h0];obtain rfl:=List.eq_nil_of_length_eq_zero h0;exact(Tryz.strings_Join_none a c ⟨#[32]⟩ w).mono fun e w' ⟨h1,O⟩=>⟨h1,by rw[O];exact P8⟩
 ·obtain⟨g,cap,rfl,hg,_⟩:=World.ownsRow.form h h0;have gg:l.length<=cap:=by
   rcases h.2 with ⟨h1,_⟩|⟨gX,cap',cl,h1,_,_,O,_⟩
   ·
    cases h1
   ·simp only[Value.slice.injEq] at h1;omega
  rw[<-afA];exact Tryz.strings_Join g 0 cap l ⟨#[32]⟩ w (fun j x aT=>by
   rw[Nat.zero_add];have AD:=(List.getElem?_eq_some_iff.1 aT).1;rw[World.ownsRow.cellAt h j Nw];simp[aT]) (World.ownsRow.lt h g rfl).2 Nw gg (by have:=join_le l ae;show (Lib.join _ [32]).length<=_;omega)
theorem aqo (aZ:Bs w0 mb af aa es)(a':X5 w0)(aK:Ms w0 mb af aa w σ)(U:Sv w u vs)(hl:vs.length<=1000)(aA:∀ v ∈ vs,(-9223372036854775808<=v.n/\v.n<=9223372036854775807)/\(σ.M.shw v).size<=3000)(xN:σ.log.length<=1000000000) :
  NK 299 #[Nu mb,u] w fun e w'=>e=NU (.tuple #[])/\Ms w0 mb af aa w' { σ with log:=σ.log++[Wv (vs.map σ.M.shw)] }/\Om none mb w w':=by
 obtain⟨i0,d2,dH,b6,cq⟩:=info_parts info9;have bI:=aK.lt;have hU:=aK;have dk:=U;have ba:=hide (fun(v:Va) (ap:v ∈ vs) (X:Ny) (aj:NJ w X)=>adz aZ a' (aK.later aj) v (aA v ap).1);have dE:=hide aA;obtain⟨cT,dO,aO⟩:=U.form;subst aO;clear aA;go_enter func299,ntmps299;go_wp2_with fail
 go_loopw [4,9] (fun o i wr=>∃ k:Nat,k<=vs.length/\i=Nr k/\Qu w.heap.size wr o ((vs.take k).map σ.M.shw)/\NJ w wr) (fun _ i _=>vs.length - (intOf i).toNat)
 case atStart=>exact⟨0,Nat.zero_le _,rfl,WW _ _,P8⟩
 case round=>
  obtain⟨k,E,rfl,hown,hbel⟩:=hrel;have HOWN:=hown;have lV:=hbel;obtain⟨aC,iK,rfl⟩:=N8 hown;have c9:=hbel.size
  by_cases aQ:k<vs.length
  ·obtain⟨v,ap⟩:=xE (vs[k]);have mv:vs[k]? = some v:=by rw[ap];exact List.getElem?_eq_getElem aQ
   obtain⟨g,o,cap,aO,hg,c0,c1,c2⟩:=(dk.later lV).cells mv;simp only[Value.slice.injEq] at aO;obtain⟨rfl,_,rfl⟩:=aO;have hL:(k:Int)<(vs.length:Int):=Nw;obtain⟨x,ac⟩:=xE (σ.M.shw v);have bA:=hide (Ns ba v (List.mem_of_getElem? mv));rw[<-ac] at bA;have dS:=hide ac;obtain⟨q3,dz⟩:=xE ((vs.take k).map σ.M.shw);have pu:q3.length=k:=by rw[dz];simp;omega
   have dV:=hide dz;rw[<-dz] at HOWN ⊢;have nz:World.ownsRow wr w.heap.size 9 1 (.slice aC k iK) k (q3.map Value.string):=by
    have h:World.ownsRow wr w.heap.size 9 1 (.slice aC q3.length iK) q3.length (q3.map Value.string):=HOWN;rw[pu] at h;exact h
   rw[pu];have oa:=hide pu;have zo:=hide mv;clear ac dz pu ap mv;go_wp2_with fail;obtain⟨w2,de⟩:=xE (wr.alloc (.cells #[Nr v.k,Nr v.n,ND v.s] 65));obtain⟨vb,aN⟩:=xE wr.heap.size;have kZ:w2.heap[vb]? = some (XI v):=by rw[de,aN];exact NG _ _
   have gc:=hide (cells3 kZ);have cf:NJ w w2:=by show Below _ _ _;rw[de];exact lV.alloc c9 _
   have rW:=(N9 nz (show NJ wr w2 by rw[de];exact OM))
   have L2:mb<w2.heap.size:=by have:=cf.size;omega
   have h7:=lt_of_heap kZ;rw[<-de,<-aN];clear de aN kZ c0 c1 c2 hg;refine Rj 5 fun ab=>?_;refine uh 0 (.slice aC k iK) (ab) ?_;refine up 1 mb 0 ab ?_;refine up 2 mb 0 ab ?_;refine up 3 mb 0 ab ?_;refine uk3 4 gc.out ab ?_;refine O0 5 fun K A=>?_;go_simp;refine cm (Ns bA _ (cf.drew)) ?_;rintro e aD ⟨rfl,i'⟩;refine ko A ?_;clear A K;have BQ:=(cf.drew.trans (i'.mono cf.drew.size));have y5:=(N9 rW ((Below.refl _ w2).drew.trans i'));have I6:=BQ.size;refine O0 6 fun K A=>?_;go_simp;refine ko A ?_;clear A K
   refine O0 7 fun K A=>?_;refine step_append_lies _ rfl _ _ 26 rfl w.heap.size 9 i0 (ND ByteArray.empty) 1 16 underlying26 d2 dH b6 cq rfl NH _ _ _ rfl (y5.alloc _) (Nv aD.heap.size 0) 1 1 [ND x] rfl rfl (WX aD x _ rfl) (aaF x) NH (by unfold maxLen;omega) Nw Qa (aD.heap.size+1) Oq ?_
   intro gX cap' ao hown' hgrow iD _;refine ko A ?_;clear A K;have ef:=((BQ.alloc I6 (.cells #[ND x] 9)).grown hgrow Qa (fun b D=>(O9 y5 b D).2));clear iD;refine uz 8 (.slice (some (Nv gX 0)) (k+1) cap') ?_;refine QX ?_ _;go_simp;go_wp2_with fail
   go_roundw
   case rel=>
    refine⟨k+1,by omega,by go_num,?_,ef⟩;have kc:vs.take (k+1)=vs.take k++[v]:=by
     rw[List.take_succ_eq_append_getElem aQ];have cA:=Ns zo;rw[List.getElem?_eq_getElem aQ] at cA;cases cA;rfl
    rw[kc,List.map_append,<-dV.out]
    show World.ownsRow _ _ _ _ _ _ _
    rw[List.length_append,List.map_append,oa.out]
    show World.ownsRow _ _ _ _ _ _ (_++[Value.string (σ.M.shw v)])
    rw[<-dS.out];exact hown'
   case measure=>simp[intOf];omega
  ·have cM:k=vs.length:=Nw;subst cM;have aT:=am2 (N9 HOWN (Below.refl wr.heap.size wr).drew) (by rw[List.length_map,List.take_length];exact hl) (fun x ac=>by
    obtain⟨v,ap,rfl⟩:=List.mem_map.1 ac;rw[List.take_length] at ap;exact(Ns dE v ap).2)
   obtain⟨hc,xG⟩:=xE (Wv ((vs.take vs.length).map σ.M.shw));obtain⟨vl,h7⟩:=xE (((vs.take vs.length).map σ.M.shw).length);rw[<-xG,<-h7] at aT;rw[<-h7];rw[List.take_length] at xG;have FT:=hide xG;obtain⟨aS,aB,az,aL,ua⟩:=hU;have ju:=ua.later lV;have h6:=ju.lt;obtain⟨la,hu,qu⟩:=N8 ju.lg;subst qu;have eP:=ju;obtain⟨c2,_⟩:=ju.hh.at_ 0 _ rfl;obtain⟨ln,kj⟩:=xE σ.log.length;rw[<-kj] at c2;have hn:=hide c2;have jX:=hide kj;have LW:ln<=1000000000:=Nw;clear xG h7 c2 kj;go_wp2_with fail
   refine Rj 9 fun ab=>?_;have z:=kk (∀{G}(h:G:=by
   refine up 3 mb 2 ab ?_;refine up 4 mb 2 ab ?_;refine uk 5 hn.out ab ?_;refine uh 6 (.slice aC vl iK) (ab) ?_;refine O0 7 fun K A=>?_;go_simp;refine cm aT ?_;rintro e aD ⟨rfl,i'⟩;have ra:NJ wr aD:=(Below.refl _ wr).drew.trans i';refine A.out _ _ (fun _=>ra) ?_;clear A K;refine O0 8 fun K A=>?_;go_simp;refine A.out _ _ (fun _=>ra.alloc ra.size _) ?_;clear A K;refine O0 9 fun K A=>?_;have lI:=(eP.later (ra.alloc ra.size (.cells #[ND hc] 9)));have xO:=lI.lg;rw[<-jX.out] at xO;have Mg:=ra.size
   refine step_append_lies _ rfl _ _ 26 rfl mb 9 i0 (ND ByteArray.empty) 1 16 underlying26 d2 dH b6 cq rfl NH _ _ _ rfl xO (Nv aD.heap.size 0) 1 1 [ND hc] rfl rfl (WX aD hc _ rfl) (aaF hc) NH (by unfold maxLen;omega) Nw Qa (aD.heap.size+1) Oq ?_
   intro hG hD bB hown4 kQ m4 _;refine ko A ?_;clear A K;have hgr5:World.grownBy (aD.alloc (.cells #[ND hc] 9)) bB (Value.slice la σ.log.length hu).ownBlock:=by rw[<-jX.out];exact kQ
   obtain⟨hM,g9⟩:=lI.ayx hc (lv':=.slice (some (Nv hG 0)) (ln+1) hD) hgr5 (by rw[<-jX.out];exact hown4)
   obtain⟨KE,KX⟩:=(lI.hh.keep (T:=[9]) (B:=mb) (w':=bB) (OB.grown kQ Qa fun k E=>by
    obtain⟨c,ai⟩:=OZ xO E;exact⟨(xO.lt k E).1,c,9,ai,by simp⟩) NH NH NH NH NH).at_ 0 _ rfl
   have gq:=((Om.of (L:=none) lV (Oi bI)).trans ((Om.of (L:=none) (ra.alloc ra.size (.cells #[ND hc] 9)) (Oi h6)).trans g9));have gx:mb<bB.heap.size:=by have:=kQ.size;simp at this;omega
   clear m4;refine uz 10 (NM mb 0) ?_;refine uz 11 (NM mb 2) ?_;refine uz 12 (NM mb 2) ?_;refine O0 13 fun K A=>?_;go_simp;refine ko A ?_;clear A K;refine QX ?_ _;go_simp;go_wp2_with fail
   go_end0
   have hq:=hM;rw[FT.out] at hq;exact⟨rfl,⟨_,_,_,_,hq⟩,gq⟩),G);exact RU
theorem amP (a b:NR):a++b=Xa a b:=by
 apply ByteArray.ext;simp[Xa]
def ahg (kd a b:Int):Va × Er:=if kd=28 then (Pg (decide (a<b)),.no) else if kd=29 then TJ (a+b) else if kd=30 then TJ (a - b) else TJ (a * b)
def aaX (a b:NR):Va × Er:=if 500<a.size+b.size then (vU,bad SS) else (U1 (Xa a b),.no)
def amQ (es:NP)(w:Ny)(r:Va × Er)(e:Ending)(w':Ny):Prop:=(∃ ev,e=NU (.tuple #[vA r.1,ev])/\U4 es w' ev r.2)/\NJ w w'
theorem aaY (n:Int)(w:Ny):NK 314 #[Nr n] w (amQ es w (TJ n)):=by
 by_cases h:n < -1000000000\/1000000000<n
 ·exact ahe es n h w
 ·exact aki es n h w
theorem afo (kd a b:Int)(aw:-1000000000<=a/\a<=1000000000)(D:-1000000000<=b/\b<=1000000000)(w:Ny):NK 294 #[Nr kd,Nr a,Nr b] w (amQ es w (ahg kd a b)):=by
 obtain⟨jZ,a2⟩:=aw;obtain⟨dl,b2⟩:=D;have z:=kk (∀{G}(h:G:=by
 obtain⟨rs,eD⟩:=xE (ahg kd a b);rw[<-eD]
 by_cases x4:kd=28
 ·subst x4
  by_cases aQ:a<b
  ·have fE:Hid (rs=(Pg true,.no)):=by show _=_;rw[eD];unfold ahg;rw[if_pos rfl,decide_eq_true aQ]
   clear eD;go_enter func294,ntmps294;go_wp2_with fail;rw[<-bu.out];refine cm (UA true w2) ?_;rintro e fq ⟨rfl,cp⟩;obtain⟨bL,dh⟩:=xE (Pg true);exact azb
  ·have fE:Hid (rs=(Pg false,.no)):=by show _=_;rw[eD];unfold ahg;rw[if_pos rfl,decide_eq_false aQ]
   clear eD;go_enter func294,ntmps294;go_wp2_with fail;rw[<-bu.out];refine cm (UA false w2) ?_;rintro e fq ⟨rfl,cp⟩;obtain⟨bL,dh⟩:=xE (Pg false);exact azb
 by_cases Bt:kd=29
 ·subst Bt;have fE:Hid (rs=TJ (a+b)):=by show _=_;rw[eD];rfl
  clear eD x4;go_enter func294,ntmps294;go_wp2_with fail;rw[<-bu.out];refine cm (aaY (es:=es) (a+b) w2) ?_;rintro e fq ⟨⟨ev,rfl,aI⟩,cp⟩;obtain⟨bL,dh⟩:=xE ((TJ (a+b)).1);exact aul
 by_cases EL:kd=30
 ·subst EL;have fE:Hid (rs=TJ (a - b)):=by show _=_;rw[eD];rfl
  clear eD x4 Bt;go_enter func294,ntmps294;go_wp2_with fail;rw[<-bu.out];refine cm (aaY (es:=es) (a - b) w2) ?_;rintro e fq ⟨⟨ev,rfl,aI⟩,cp⟩;obtain⟨bL,dh⟩:=xE ((TJ (a - b)).1);exact aul
 have fE:Hid (rs=TJ (a * b)):=by show _=_;rw[eD];unfold ahg;rw[if_neg x4,if_neg Bt,if_neg EL]
 have hmul:-1000000000000000000<=a * b/\a * b<=1000000000000000000:=by
  have h1:(a * b).natAbs<=1000000000000000000:=by
   rw[Int.natAbs_mul];exact Nat.mul_le_mul (show a.natAbs<=1000000000 by omega) (show b.natAbs<=1000000000 by omega)
  omega
 have Jk:IntKind.i64.wrap (a * b)=a * b:=IntWalk.i64_in _ Nw;clear eD;go_enter func294,ntmps294;go_wp2_with fail;rw[<-bu.out]
 try rw[Jk]
 refine cm (aaY (es:=es) (a * b) w2) ?_;rintro e fq ⟨⟨ev,rfl,aI⟩,cp⟩;obtain⟨bL,dh⟩:=xE ((TJ (a * b)).1);exact aul),G);exact azc
theorem aum (a b:NR)(aw:a.size<=1000000)(D:b.size<=1000000)(w:Ny):NK 295 #[ND a,ND b] w (amQ es w (aaX a b)):=by
 have z:=kk (∀{G}(h:G:=by
 obtain⟨rs,eD⟩:=xE (aaX a b);rw[<-eD]
 by_cases bN:500<a.size+b.size
 ·have fE:Hid (rs=(vU,bad SS)):=by show _=_;rw[eD];unfold aaX;rw[if_pos bN]
  have cA:(a.size:Int)+(b.size:Int) > 500:=Nw;clear eD bN;go_enter func295,ntmps295;go_wp2_with fail;rw[<-bu.out];refine cm (VH SS w2) ?_;rintro e fq ⟨⟨tb,rfl,ll,aI⟩,cp⟩;have dw:U4 es fq (.iface 122 (NM tb 0)) (bad SS):=⟨tb,rfl,aI⟩;have z:=kk (∀{G}(h:G:=by
  clear aI ll;go_wp2_with fail;obtain⟨b3,bz⟩:=xE (((fq.setCell (Nv w.heap.size 0) (Nr 0)).setCell (Nv w.heap.size 1) (Nr 0)).setCell (Nv w.heap.size 2) (OG));rw[<-bz];have d7:=YC d8.out (Nr 0) (Nr 0) (OG);have ed:=below3 ie OH (Nr 0) (Nr 0) (OG);have bb:=Qy (mb:=w.heap.size) d8.out OH (Nr 0) (Nr 0) (OG);rw[<-bz] at d7 ed bb;obtain⟨bi,aY,aX,_,_⟩:=cells3 d7;refine bodyPost_ret (v:=.tuple #[vA vU,.iface 122 (NM tb 0)]) (by simp[results,results295,go_sem,bi,aY,aX,vU]) rfl ?_;rw[fE.out]
  exact⟨⟨_,rfl,dw.O6 bb NH⟩,ed⟩),G);exact ap4
 ·have fE:Hid (rs=(U1 (Xa a b),.no)):=by show _=_;rw[eD];unfold aaX;rw[if_neg bN]
  have cA:¬ (a.size:Int)+(b.size:Int) > 500:=Nw;clear eD bN;go_enter func295,ntmps295;go_wp2_with fail;rw[<-bu.out,amP];refine cm (YA (Xa a b) w2) ?_;rintro e fq ⟨rfl,cp⟩;obtain⟨bL,cZ⟩:=xH (U1 (Xa a b));rw[<-cZ.out];have z:=kk (∀{G}(h:G:=by
  have z:=kk (∀{G}(h:G:=by
  refine bodyPost_ret (v:=.tuple #[vA bL,Pe]) (by simp[results,results295,go_sem,bi,aY,aX]) rfl ?_;rw[fE.out,<-cZ.out];exact⟨⟨_,rfl,rfl⟩,ed⟩),G);exact aun),G);exact ap4),G);exact azc
theorem ahs (t:Tr)(p:Nat)(w:Ny)(h:SC w t p):NK 355 #[Nu p] w fun e w'=>e=NU (NI (decide (t.tx=tArgs)))/\NJ w w':=by
 obtain⟨eY,_,c1,_⟩:=h.cells;obtain⟨tx,cD⟩:=xE t.tx;rw[<-cD] at c1 ⊢;clear cD h
 by_cases au:tx=tArgs
 ·have av:=UW (b:=tArgs) rfl au;rw[decide_eq_true au];clear au;go_enter func355,ntmps355;go_wp2_with fail;go_ret;exact⟨rfl,P8⟩
 ·have av:=Uw (b:=tArgs) rfl au;rw[decide_eq_false au];clear au;go_enter func355,ntmps355;go_wp2_with fail;go_ret;exact⟨rfl,P8⟩
theorem azC:UE 355:=fun _ _=>by kernel_rfl
theorem afB {B:Nat}{ps:List Tr}{bl:Tr}{q:Nat}(al:Rn B w u ps)(hl:ps.length<=90000)(D:SC w bl q)(ai:bl.count<=20000):NK 341 #[u,Nu q] w fun e w'=>e=NU (NI (hasArgs ps bl))/\NJ w w':=by
 have fk:=aas 355 (fun k=>decide (k.tx=tArgs)) azC ps u w al hl fun t _ p W _ h=>ahs t p W h;obtain⟨dl,b4⟩:=xE (ps.any fun k=>decide (k.tx=tArgs));rw[<-b4] at fk;have dE:=hide (fun X (aj:NJ w X)=>Y1 bl q false X (D.later aj) ai);have fm:(namesT bl false).length<=100000:=by
  have h1:(namesT bl false).length<=((if false=true then O1 bl else [])++(RS bl).map Tr.tx++(OC bl).map Tr.tx).length:=Yn _;have O:=aae bl;have ax:=Go.Proofs.YticfnaiehdpbmaaGreatDoor.Ru bl;have aU:=Qg bl;simp at h1;omega
 obtain⟨cT,dO,aO⟩:=al.form;subst aO;have aH:hasArgs ps bl=(!dl && !hasB (namesT bl false) tArgs):=by rw[b4];rfl
 rw[aH];clear b4 aH
 cases dl with
 | true=>
  go_enter func341,ntmps341;go_wp2_with fail;refine cm fk ?_;rintro e w1 ⟨rfl,b4⟩;have f0:=b4;clear b4;go_wp2_with fail;go_ret;exact⟨rfl,f0⟩
 | false=>
  obtain⟨b2,aE⟩:=xE (hasB (namesT bl false) tArgs);rw[<-aE];go_enter func341,ntmps341;go_wp2_with fail;refine cm fk ?_;rintro e w1 ⟨rfl,b4⟩;have f0:=b4;clear b4;go_wp2_with fail;refine cm (Ns dE w1 f0) ?_;rintro e w2 ⟨⟨gR,rfl,hr2⟩,cp⟩;have cf:=(f0.trans (cp.mono f0.size));obtain⟨a2,aX,wn⟩:=N8 hr2;subst wn;have ah:=(UG (namesT bl false) tArgs _ w2 hr2 fm);rw[<-aE] at ah;go_wp2_with fail;refine cm ah ?_;rintro e ao ⟨rfl,rfl⟩;go_wp2_with fail;go_ret;exact⟨by rw[aE];simp,cf⟩
def Vl (o:Int)(vs:List Va)(k:Nat)(σ:St):St:=(vs.zipIdx.take k).foldl (fun σ (v,i)=>σ.Qo o (Xa ⟨#[97]⟩ (ZB i)) v false) σ
theorem aa8 (o:Int)(vs:List Va)(k:Nat)(σ:St)(v:Va)(E:vs[k]? = some v):Vl o vs (k+1) σ=(Vl o vs k σ).Qo o (Xa ⟨#[97]⟩ (ZB k)) v false:=by
 have hl:=(List.getElem?_eq_some_iff.1 E).1;have O:k<vs.zipIdx.length:=by rw[List.length_zipIdx];exact hl
 unfold Vl;rw[List.take_succ_eq_append_getElem O,List.foldl_append,List.getElem_zipIdx];rw[List.getElem?_eq_getElem hl] at E;cases E;simp
theorem Sz.Vl (o:Int)(vs:List Va):∀ (k:Nat) {σ:St},Sz N σ->k<=vs.length->Sz (N+k) (Vl o vs k σ)
 | 0,_,h,_=>h
 | k+1,σ,h,E=>by
  rw[aa8 o vs k σ _ (List.getElem?_eq_getElem Nw)];exact(Sz.Vl o vs k h Nw).Qo _ _ _ _
theorem P9.VL {o f gP gV:NP}{w2:Ny}(h:P9 mb o f gP gV w w')(k:OB Th mb w' w2):P9 mb o f gP gV w w2:=h.trans (P9.ofT k)
theorem afC (aZ:Bs w0 mb af aa es)(a':X5 w0)(ac:Mx w0 mb af aa aS aB az aL w σ)(aJ:Sz N σ)(hN:N+2000<1000000000)(U:Sv w u vs)(hl:vs.length<=1500) :
  NK 342 #[Nu mb,u] w fun e w'=>e=NU (vA (QY vs σ).1)/\Mx w0 mb af aa aS aB az aL w' (QY vs σ).2/\P9 mb az aL az aL w w':=by
 have bI:=ac.lt;have z:=kk (∀{G}(h:G:=by
 obtain⟨o,aM⟩:=xE (σ.M.objs.length:Int);obtain⟨σ1,h9⟩:=xE ({ σ with M:=σ.M.Oy 0 }:St);obtain⟨ck,f'⟩:=xE (σ1.Qo o XC (VF vs.length) false:St);have b6:Sz (N+1) σ1:=by rw[h9];exact aJ.heap (Nat.le_succ _) (aJ.go.Oy 0) rfl
 have cq:Sz (N+2) ck:=by rw[f'];exact b6.Qo _ _ _ _
 have aH:QY vs σ=(Rz o,Vl o vs vs.length ck):=by
  unfold QY Vl;rw[f',h9,<-aM,List.take_of_length_le (Nat.le_of_eq List.length_zipIdx)]
 rw[aH];have dr:=(Zc (ac.later aE) aJ Nw 0);rw[<-aM,<-h9] at dr;have HP:=hide (fun X (aj:Mx w0 mb af aa aS aB az aL X σ1)=>XP aj b6 Nw o XC (VF vs.length) false);rw[<-f'] at HP;have bj:=hide hr2;have dk:=(U.later aE);have da:=(P9.of (o:=az) (f:=aL) aE (Oi bI));have cI:=hide cH;obtain⟨cT,dO,aO⟩:=U.form;subst aO;have gF:mb<=aR:=Nw;clear hr2 cH h9 f' aH aM;go_enter func342,ntmps342;go_wp2_with fail;rw[<-bu.out,<-b1];clear b1;refine cm dr ?_;rintro e ao ⟨rfl,e8,cQ⟩;have cV:=(da.VL cQ)
 have c8:=hide (cQ.rest _ _ _ bj.out NH);have Gy:=(dk.keep fun b c D=>cQ.rest b c 65 D NH);have gh:=e8.lt;go_wp2_with fail;refine Rj 7 fun ab=>?_;have z:=kk (∀{G}(h:G:=by
 refine uh 3 (Nr o) (ab) ?_;refine uh 4 (.slice cT vs.length dO) (ab) ?_;refine uh 5 (Nr (vs.length:Int)) (ab) ?_;refine O0 6 fun K A=>?_;go_simp;refine cm (adq (vs.length:Int) ao.drew) ?_;rintro e e9 ⟨rfl,H9⟩;have px:NJ ao e9:=(Below.refl _ ao).drew.trans H9;refine A.out _ _ (fun _=>px) ?_;clear A K;obtain⟨nv,nQ⟩:=xE (VF vs.length);rw[<-nQ];rw[<-nQ] at HP;have GW:=(e8.later px);have hS:=(cV.trans (P9.of px (Oi gh)));have zc:=hide (stays px c8.out);have GA:=(Gy.later px);clear nQ;refine O0 7 fun K A=>?_
 go_simp;refine cm (Ns HP _ GW) ?_;rintro e bB ⟨rfl,gN,h2⟩;refine ko A ?_;clear A K;have fI:=(hS.VL h2);have gA:=hide (h2.rest _ _ _ zc.out NH);have Gz:=(GA.keep fun b c D=>h2.rest b c 65 D NH);have gx:=gN.lt;refine QX ?_ _;go_simp;go_wp2_with fail
 go_loopw [22] (fun i wr=>∃ k:Nat,k<=vs.length/\i=Nr k/\Mx w0 mb af aa aS aB az aL wr (Vl o vs k ck)/\P9 mb az aL az aL w wr/\wr.heap[aR]? = some (Og #[Nr 0,Nr 0,OG] 65)/\Sv wr (.slice cT vs.length dO) vs) (fun i _=>vs.length - (intOf i).toNat)
 case atStart=>exact⟨0,Nat.zero_le _,rfl,gN,fI,gA.out,Gz⟩
 case round=>
  obtain⟨k,E,rfl,ju,f8,kU,kq⟩:=hrel;have eP:=ju;have bY:=hide kU;have h6:=ju.lt;clear kU
  by_cases aQ:k<vs.length
  ·obtain⟨v,ap⟩:=xE (vs[k]);have mv:vs[k]? = some v:=by rw[ap];exact List.getElem?_eq_getElem aQ
   obtain⟨g,iV,cap,aO,hg,c0,c1,c2⟩:=kq.cells mv;simp only[Value.slice.injEq] at aO;obtain⟨rfl,_,rfl⟩:=aO;have hL:(k:Int)<(vs.length:Int):=Nw;have zo:=hide mv;clear ap mv;go_wp2_with fail;obtain⟨b',ha⟩:=xE (wr.alloc (.cells #[Nr v.k,Nr v.n,ND v.s] 65));obtain⟨vb,aN⟩:=xE wr.heap.size;have kZ:b'.heap[vb]? = some (XI v):=by rw[ha,aN];exact NG _ _
   have gc:=hide (cells3 kZ);have fv:NJ wr b':=by rw[ha];exact OM
   have IL:mb<b'.heap.size:=by have:=fv.size;omega
   have h7:=lt_of_heap kZ;obtain⟨o8,zj⟩:=xH (ZB (k:Int));have Em:(⟨(Lib.itoa (k:Int)).toArray⟩:NR)=o8:=by rw[zj.out];rfl
   have A8:o8.size<=21:=by
    have h:=Lib.itoa_length_le (k:Int) Nw Nw;rw[zj.out];show (List.toArray _).size<=21;rw[List.size_toArray];exact h
   have f1:=(Tryz.strconv_Itoa (k:Int) Nw Nw b'.drew ((show Ms w0 mb af aa b'.drew _ from ⟨_,_,_,_,(eP.later fv).later (Below.refl b'.heap.size b').drew⟩).tab aZ a'));rw[Em] at f1;obtain⟨dy,nC⟩:=xH (Vl o vs k ck);rw[<-nC.out] at eP;have jP:Sz (N+2+k) dy:=by rw[nC.out];exact Sz.Vl o vs k cq Nw
   have HP:=hide (fun X (aj:Mx w0 mb af aa aS aB az aL X dy)=>XP aj jP Nw o (Xa ⟨#[97]⟩ o8) v false);have qk:¬ (9223372036854775807:Nat)<1+o8.size:=Nw;rw[<-ha,<-aN];clear ha aN kZ c0 c1 c2 hg Em;refine Rj 8 fun ab=>?_;have z:=kk (∀{G}(h:G:=by
   refine uh 3 (Nr o) (ab) ?_;refine uh 4 (Nr (k:Int)) (ab) ?_;refine uk3 7 gc.out ab ?_;refine O0 5 fun K A=>?_;go_simp;refine cm f1 ?_;rintro e e9 ⟨rfl,kkq,os,iq⟩;have px:NJ b' e9:=by
    rw[iq];exact(Below.refl _ b').drew.trans (Lib.below_grow b'.heap.size b'.drew (Below.refl b'.heap.size b').drew.size kkq os)
   refine A.out _ _ (fun _=>px) ?_;clear A K iq;refine uh 6 (ND (Xa ⟨#[97]⟩ o8)) (px) ?_ (hy:=Or.inl ⟨by kernel_rfl,fun _ _=>by go_simp;rw[amP]⟩)
   refine O0 8 fun K A=>?_;go_simp;refine cm (Ns HP _ ((eP.later fv).later px)) ?_;rintro e b9 ⟨rfl,oY,jc⟩;refine ko A ?_;clear A K;have q9:NJ wr e9:=fv.trans (px.mono fv.size);have j9:=((f8.trans (P9.of q9 (Oi h6))).VL jc);have hA:=hide (jc.rest _ _ _ (stays q9 bY.out) NH);have q1:=((kq.later q9).keep fun b c D=>jc.rest b c 65 D NH);refine QX ?_ _;go_simp;go_wp2_with fail
   go_roundw
   case rel=>
    refine⟨k+1,by omega,by go_num,?_,j9,hA.out,q1⟩;rw[nC.out,zj.out,<-aa8 o vs k ck v zo.out] at oY;exact oY
   case measure=>simp[intOf];omega),G);exact RU
  ·have cM:k=vs.length:=Nw;subst cM;have hL:¬ (vs.length:Int)<(vs.length:Int):=Nw;obtain⟨bL,cZ⟩:=xH (Rz o);have h3:=Yz o wr;rw[<-cZ.out] at h3;go_wp2_with fail;refine cm h3 ?_;rintro e fq ⟨rfl,cp⟩;have d8:=hide (stays cp bY.out);have uZ:=(eP.later cp);have jW:=(f8.trans (P9.of cp (Oi h6)));obtain⟨dm,bT,cY,fp,nl⟩:=cells3 d8.out;have my:=fp 0;have mz:=fp 1;have mA:=fp 2;clear fp;go_wp2_with fail
   obtain⟨b3,bz⟩:=xE (((fq.setCell (Nv aR 0) (Nr bL.k)).setCell (Nv aR 1) (Nr bL.n)).setCell (Nv aR 2) (ND bL.s));rw[<-bz];have d7:=YC d8.out (Nr bL.k) (Nr bL.n) (ND bL.s);have bb:=Qy d8.out gF (Nr bL.k) (Nr bL.n) (ND bL.s);have bx:=jW.new bb (RD cI.out _ _ _);have bv:=uZ.Xd bb NH;rw[<-bz] at d7 bx bv;obtain⟨bi,aY,aX,_,_⟩:=cells3 d7;refine bodyPost_ret (v:=vA bL) (by simp[results,results342,go_sem,bi,aY,aX]) rfl ?_;refine⟨?_,bv,bx⟩;rw[cZ.out]),G);exact RU),G);exact azD
def TQ (aq:Int)(ps:List Tr)(vs:List Va)(k:Nat)(σ:St):St:=(ps.zipIdx.take k).foldl (fun σ (k,i)=>settle aq k.tx (vs.getD i vU) σ) σ
theorem acH (aq:Int)(ps:List Tr)(vs:List Va)(k:Nat)(σ:St)(hl:k<ps.length):TQ aq ps vs (k+1) σ=settle aq (ps[k]).tx (vs.getD k vU) (TQ aq ps vs k σ):=by
 have O:k<ps.zipIdx.length:=by rw[List.length_zipIdx];exact hl
 unfold TQ;rw[List.take_succ_eq_append_getElem O,List.foldl_append,List.getElem_zipIdx];simp
theorem Sz.TQ (aq:Int)(ps:List Tr)(vs:List Va):∀ (k:Nat) {σ:St},Sz N σ->k<=ps.length->Sz (N+k) (TQ aq ps vs k σ)
 | 0,_,h,_=>h
 | k+1,σ,h,E=>by
  rw[acH aq ps vs k σ Nw];exact(Sz.TQ aq ps vs k h Nw).settle _ _ _
def Xg (aq:Int)(l:List NR)(k:Nat)(σ:St):St:=(l.take k).foldl (fun σ nm=>σ.dec aq nm 0 vU) σ
theorem acI (aq:Int)(l:List NR)(k:Nat)(σ:St)(hl:k<l.length):Xg aq l (k+1) σ=(Xg aq l k σ).dec aq l[k] 0 vU:=by
 unfold Xg;exact am3
theorem Sz.Xg (aq:Int)(l:List NR):∀ (k:Nat) {σ:St},Sz N σ->k<=l.length->Sz (N+k) (Xg aq l k σ)
 | 0,_,h,_=>h
 | k+1,σ,h,E=>by
  rw[acI aq l k σ Nw];exact(Sz.Xg aq l k h Nw).dec _ _ _ _
theorem Sz.args {vs:List Va}(h:Sz N σ):Sz (N+2+vs.length) (QY vs σ).2:=by
 have aH:(QY vs σ).2=Hp.Vl σ.M.objs.length vs vs.length (({ σ with M:=σ.M.Oy 0 }:St).Qo σ.M.objs.length XC (VF vs.length) false):=by
  unfold QY Hp.Vl;rw[List.take_of_length_le (Nat.le_of_eq List.length_zipIdx)]
 rw[aH];exact Sz.Vl _ _ _ ((h.heap (Nat.le_succ _) (h.go.Oy 0) rfl:Sz (N+1) _).Qo _ _ _ _) OH
theorem Oa.atx {a:Ad}{d:Nd}{u:NP}(h:Oa aa w a d)(ai:w.cell? (Nv a.p 3)=some u)(E:Kp w w'):Rn 0 w' u d.2.kids/\SC w' d.2 a.p:=by
 have aA:SC w' d.2 a.p:=by rw[<-h.tr];exact(QD.kp E _ h.at_).nat.nt
 obtain⟨_,_,_,v,c3,U⟩:=aA.cells;have ag:∃ c,w.heap[a.p]? = some (Og c 40):=by
  have h1:=h.at_;exact auN
 have O:=E.Wx ai ag;rw[c3] at O;cases O;exact⟨U,aA⟩
theorem azE {aq:Int}{l:List NR}{σ:St}:Xg aq l l.length σ=l.foldl (fun σ nm=>σ.dec aq nm 0 vU) σ:=by unfold Xg;rw[List.take_length]
theorem auO (aZ:Bs w0 mb af aa es)(a':X5 w0)(ac:Mx w0 mb af aa aS aB az aL w σ)(aJ:Sz N σ)(hN:N+9000<1000000000){a:Ad}{d:Nd}(hd:Oa aa w a d)(E:d.2.kids.length=2)(ai:d.2.count<=1500)(eY:(Nz d 0).2.kids.length<=8)(O:∀ k ∈ Sl (Nz d 1),k.2.kids.length=2)(p:Pl)(aC:Option Addr)(U:Sv w u vs)(hl:vs.length<=1500) :
  NK 324 #[Nu mb,Nu a.p,OQ p aC,u] w fun e w'=>e=NU (.tuple #[])/\∃ Vd,Mx w0 mb af aa aS aB az Vd w' (QZ d p vs σ)/\P9 mb az aL az Vd w w':=by
 have bI:=ac.lt;have z:=kk (∀{G}(h:G:=by
 have cS:=hd.kp (Kp.of aE);obtain⟨ce,cC,cap0,c3,dJ,fQ,_⟩:=cS.Xe (i:=0) Nw;obtain⟨bV,b0,cap1,jF,fT,jb,_⟩:=cS.Xe (i:=1) Nw;rw[E] at c3 jF;rw[c3] at jF;simp only[Option.some.injEq,Value.slice.injEq,Addr.mk.injEq,and_true,true_and] at jF;obtain⟨rfl,rfl⟩:=jF;have rn:SC w2 (Nz d 0).2 ce.p:=by rw[<-fQ.tr];exact fQ.at_.nat.nt
 have gG:SC w2 (Nz d 1).2 bV.p:=by rw[<-jb.tr];exact jb.at_.nat.nt
 obtain⟨Ee,_,_,v0,xi,d6⟩:=rn.cells;obtain⟨MY,cw,pK⟩:=d6.form;subst pK;have Ic:(Nz d 1).2.count<=1500:=by
  have h1:(Nz d 1).2 ∈ d.2.kids:=by
   rw[VN,List.getD_eq_getElem?_getD,List.getElem?_eq_getElem (by omega:1<d.2.kids.length)];exact List.getElem_mem _
  have:=XF h1;omega
 have Iz:=Qg (Nz d 1).2;have Jh:=WO (Nz d 1).2;have xV:(O1 (Nz d 1).2).length<=1500:=by
  have O:Tr.counts (Nz d 1).2.kids<(Nz d 1).2.count:=by cases (Nz d 1).2;rw[Tr.count];exact Nat.lt_add_of_pos_left Nw
  omega
 obtain⟨q,ag⟩:=xE a.p;obtain⟨bi,r2⟩:=xH ce.p;obtain⟨aY,te⟩:=xH bV.p;have dL:=cS.cells.1;have dx:=cell_lt dJ;have BR:=hide xi;obtain⟨ps,p6⟩:=xH ((Nz d 0).2.kids);obtain⟨bl,ja⟩:=xE (Nz d 1);rw[<-p6.out] at d6 eY xi;rw[<-p6.out] at BR;rw[<-ja] at gG jb O Ic Iz Jh xV;rw[<-ag] at c3 dL ⊢;rw[<-r2.out] at dJ xi Ee;rw[<-te.out] at fT;obtain⟨rs,eD⟩:=xE (QZ d ⟨aq,aF,st⟩ vs σ);rw[<-eD]
 have fE:Hid (rs=Tz bl ⟨aq,aF,st⟩ (PK (OC bl.2) aq (Xg aq (O1 bl.2) (O1 bl.2).length (if hasArgs ps bl.2 then (QY vs (TQ aq ps vs ps.length σ)).2.dec aq tArgs 0 (QY vs (TQ aq ps vs ps.length σ)).1 else TQ aq ps vs ps.length σ)))):=by
  show _=_
  rw[eD,p6.out,ja];unfold QZ Xg TQ;rw[List.take_length,List.take_of_length_le (Nat.le_of_eq List.length_zipIdx)]
 have ej:=(ac.later aE);have da:=(P9.of (o:=az) (f:=aL) aE (Oi bI));have dF:=hide bK;have bj:=(U.later aE);have gT:=hide O;obtain⟨cT,dO,aO⟩:=U.form;subst aO;have pF:ps.length<=8:=eY;clear ac bK eD ja ag O eY;go_enter func324,ntmps324;go_wp2_with fail;rw[<-bu.out,<-bU];clear bU
 go_region
 have dX:NJ w2 w2.drew:=P8.drew;obtain⟨ao,j4⟩:=xE w2.drew;rw[<-j4] at dX ⊢;have eF:=(ej.later dX);have cV:=(da.trans (P9.of dX (Oi ej.lt)));have fi:=hide (stays dX dF.out);have c8:=(bj.later dX);have qV:=hide (fun X (aj:Kp ao X)=>fQ.atx BR.out (fun b c e D au=>aj b c e (Kp.of dX b c e D au) au));have rO:=(jb.kp (Kp.of dX));have gh:=eF.lt;rw[<-p6.out,<-r2.out] at qV;clear j4 c3 dJ fT xi dx dL Ee;go_wp2_with fail
 go_loopw [32] (fun i wr=>∃ k:Nat,k<=ps.length/\i=Nr k/\Mx w0 mb af aa aS aB az aL wr (TQ aq ps vs k σ)/\P9 mb az aL az aL w wr/\wr.heap[bc]? = some (Og #[Nr aq,Nr aF,NI st,.pointer aC] 73)/\Sv wr (.slice cT vs.length dO) vs/\Kp ao wr) (fun i _=>ps.length - (intOf i).toNat)
 case atStart=>exact⟨0,Nat.zero_le _,rfl,eF,cV,fi.out,c8,fun _ _ _ h _=>h⟩
 case round=>
  obtain⟨k,dd,rfl,ju,f8,pG,kq,oL⟩:=hrel;have eP:=ju;have kD:=f8;have fD:=hide pG;have l4:=kq;have jk:=oL;have h6:=ju.lt;clear pG
  by_cases aQ:k<ps.length
  ·obtain⟨g,cap,he,ap,hg,ai,aA⟩:=(Ns qV wr jk).1.cell k aQ;simp only[Value.slice.injEq] at ap;obtain⟨rfl,_,rfl⟩:=ap;obtain⟨m',_,c1,_⟩:=aA.cells;have hL:(k:Int)<(ps.length:Int):=Nw;obtain⟨x,ac⟩:=xE ((ps[k]).tx);rw[<-ac] at c1;have dS:=hide ac;obtain⟨v,ap⟩:=xE (vs.getD k vU);have bA:=hide ap;obtain⟨dy,gO⟩:=xE (TQ aq ps vs k σ);rw[<-gO] at eP;have jP:Sz (N+k) dy:=by rw[gO];exact Sz.TQ aq ps vs k aJ Nw
   have ba:=hide (fun X (aj:Mx w0 mb af aa aS aB az aL X dy)=>afD aj jP Nw aq x v);have nC:=hide gO;have e1:=hide c1;clear ac gO c1
   by_cases aw:k<vs.length
   ·have mv:vs[k]? = some v:=by rw[ap,List.getD_eq_getElem?_getD,List.getElem?_eq_getElem aw];rfl
    obtain⟨sl,iV,KI,aO,Ay,gC,eq,hp⟩:=l4.cells mv;simp only[Value.slice.injEq] at aO;obtain⟨rfl,_,rfl⟩:=aO;have qs:(k:Int)<(vs.length:Int):=Nw;clear ap mv;go_wp2_with fail;obtain⟨b',ha⟩:=xE (wr.alloc (.cells #[Nr v.k,Nr v.n,ND v.s] 65));obtain⟨vb,aN⟩:=xE wr.heap.size;have kZ:b'.heap[vb]? = some (XI v):=by rw[ha,aN];exact NG _ _
    exact azF
   ·have qs:¬ (k:Int)<(vs.length:Int):=Nw;have Ev:v=vU:=by rw[ap,List.getD_eq_getElem?_getD,List.getElem?_eq_none Nw];rfl
    have GS:=hide Ev;clear ap Ev;go_wp2_with fail;obtain⟨b',ha⟩:=xE (wr.alloc (.cells #[Nr 0,Nr 0,OG] 65));obtain⟨vb,aN⟩:=xE wr.heap.size;have kZ:b'.heap[vb]? = some (XI v):=by rw[ha,aN,GS.out];exact NG _ _
    exact azF
  ·have cM:k=ps.length:=Nw;subst cM;have hL:¬ (ps.length:Int)<(ps.length:Int):=Nw;obtain⟨IN,fd⟩:=Ns qV wr jk;have fl:SC wr bl.2 aY:=by
    rw[te.out,<-rO.tr];exact(QD.kp jk _ rO.at_).nat.nt
   have pT:=(afB IN Nw fl Nw);obtain⟨Hh,cn⟩:=xE (hasArgs ps bl.2);rw[<-cn] at pT fE;obtain⟨yh,Bp⟩:=xE (TQ aq ps vs ps.length σ);rw[<-Bp] at eP fE;have oZ:Sz (N+8) yh:=by rw[Bp];exact(Sz.TQ aq ps vs ps.length aJ OH).up Nw
   clear cn Bp;go_wp2_with fail;refine cm pT ?_;rintro e bB ⟨rfl,du⟩;have f3:=(eP.later du);have fI:=(kD.trans (P9.of du (Oi h6)));have kH:=hide (stays du fD.out);have q0:=(l4.later du);have kE:Kp ao bB:=fun b c e D au=>Kp.of du b c e (jk b c e D au) au;have gx:=f3.lt
   cases Hh with
   | true=>
    obtain⟨J4,xS⟩:=xE (QY vs yh);obtain⟨C6,BN⟩:=J4;obtain⟨fH,hb⟩:=xE (BN.dec aq tArgs 0 C6);have sN:Sz (N+1590) BN:=by
     have h:=oZ.args (vs:=vs);rw[<-xS] at h;exact h.up Nw
    have nD:Sz (N+1600) fH:=by show Sz _ _;rw[hb];exact(sN.dec _ _ _ _).up Nw
    have gb:Hid (rs=Tz bl ⟨aq,aF,st⟩ (PK (OC bl.2) aq (Xg aq (O1 bl.2) (O1 bl.2).length fH))):=by
     show _=_
     have h:=Ns fE;rw[<-xS,if_pos rfl] at h;rw[h,hb]
    have BP:=hide (fun X (aj:Mx w0 mb af aa aS aB az aL X yh) (fV:Sv X (.slice cT vs.length dO) vs)=>afC aZ a' aj oZ Nw fV hl);rw[<-xS] at BP;have s7:=hide (fun X (aj:Mx w0 mb af aa aS aB az aL X BN)=>VJ aj sN Nw aq tArgs 0 C6);rw[<-hb] at s7;clear xS hb;go_wp2_with fail;have cX:bB.drew.heap[bc]? = some (Og #[Nr aq,Nr aF,NI st,.pointer aC] 73):=stays (Below.refl bB.heap.size bB).drew kH.out;have ab:NJ bB bB.drew:=P8.drew
    refine PO 8 (fun X=>X.heap[bc]? = some (Og #[Nr aq,Nr aF,NI st,.pointer aC] 73)) OJ ?_;refine up 0 mb 0 cX ?_;refine up 1 mb 0 cX ?_;refine up 2 mb 0 cX ?_;refine up 3 bc 0 cX ?_;refine uc 4 (Nr aq) rfl (Or.inl ⟨by kernel_rfl,fun X aj=>by have h0:=(cells4 aj).1;go_simp⟩) (cX) ?_
    refine up 5 mb 0 cX ?_;refine uh 6 (.slice cT vs.length dO) (cX) ?_;refine O0 7 fun K A=>?_;go_simp;refine cm (Ns BP _ (f3.later ab) (q0.later ab)) ?_;rintro e b' ⟨rfl,lS,g9⟩;have g3:=f3.later ab;have qw:=(g9.ZO (L:=none) g3).keep cX NH;refine A.out _ _ (fun _=>qw) ?_;clear A K;have hM:=lS.lt;have gq:=((fI.trans (P9.of ab (Oi gx))).trans g9);have lZ:Kp ao b':=fun b c e D au=>g9.kp g3 b c e (Kp.of ab b c e (kE b c e D au) au) au;have i6:=hide qw;clear qw;refine O0 8 fun K A=>?_;go_simp
    refine cm (Ns s7 _ lS) ?_;rintro e jf ⟨rfl,t6,rc⟩;refine ko A ?_;clear A K;have k':=hide t6;have ig:=hide (gq.VL rc);have iM:=hide (rc.rest _ _ _ i6.out NH);have k5:Hid (Kp ao jf):=fun b c e D au=>OB.kp rc b c e (lZ b c e D au) au;have mn:=t6.lt;clear cX;refine QX ?_ _;go_simp;have bA:=hide (fun X (aj:Kp ao X)=>Vx bl.2 aY X (by
     rw[te.out,<-rO.tr];exact(QD.kp aj _ rO.at_).nat.nt) Nw)
    go_wp2_with fail;refine cm (Ns bA _ k5.out) ?_;have z:=kk (∀{G}(h:G:=by
    have qa:=(k'.out.later fW);have nj:=(ig.out.trans (P9.of fW (Oi mn)));exact azG),G);exact azH
   | false=>
    obtain⟨fH,hb⟩:=xE yh;obtain⟨jf,lp⟩:=xE bB;have gb:Hid (rs=Tz bl ⟨aq,aF,st⟩ (PK (OC bl.2) aq (Xg aq (O1 bl.2) (O1 bl.2).length fH))):=by
     show _=_
     rw[fE.out,hb];rfl
    have nD:Sz (N+1600) fH:=by show Sz _ _;rw[hb];exact oZ.up Nw
    have k':=f3;have ig:=fI;have iM:=kH;have k5:=kE;have mn:=gx;rw[<-hb,<-lp] at k';rw[<-lp] at ig iM k5 mn ⊢;clear hb lp;have bA:=hide (fun X (aj:Kp ao X)=>Vx bl.2 aY X (by
     rw[te.out,<-rO.tr];exact(QD.kp aj _ rO.at_).nat.nt) Nw)
    go_wp2_with fail;refine cm (Ns bA _ (Ns k5)) ?_;have z:=kk (∀{G}(h:G:=by
    have qa:=((Ns k').later fW);have nj:=((Ns ig).trans (P9.of fW (Oi mn)));exact azG),G);exact azH),G);exact zsr
end
end Hp
end Go.Proofs.YticfnaiehdpbmaaGreatDoor
