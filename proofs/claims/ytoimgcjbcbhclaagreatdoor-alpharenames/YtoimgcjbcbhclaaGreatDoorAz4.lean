import Derived.Test.YtoimgcjbcbhclaaGreatDoorAz3
import Derived.RegionTactic
import Derived.Deep.RegionHeld
import Derived.Laws.BytesArg
set_option maxRecDepth 100000
set_option maxHeartbeats 0
set_option linter.all false
namespace Go.Proofs.YtoimgcjbcbhclaaGreatDoor
open Go.RowKit Go.Proofs.Tryz
section
variable {P:Program} {bU:Region.Mode} {ops:Array Oper} {Q:Exit->Act->LK->Prop} {S:LK->Prop} {fuel:Nat} {listed:Array Bool} {a:Act} {w:LK}
def wt {dy:Oper}(i:Nat)(v:LY)
    (h:wpAny P bU ops Q fuel (listed.setIfInBounds i true) (a.put dy.dst v) w) (ak:ops[i]? = some dy:=by rfl)
    (W:Region.noSelect ops=true:=by kernel_rfl) (an:Region.free bU ops listed i=true:=by kernel_rfl) (T:(Region.ready bU ops listed).contains i=true:=by kernel_rfl)
    (c':∀ c a w,Q (.panic c) (a.put dy.dst v) w->Q (.panic c) a w:=by exact λ_ _ _ h=>h) (hy:Yields P ops dy v a:=by exact zalad ⟨by kernel_rfl,λw=>by go_simp⟩):wpAny P bU ops Q (fuel+1) listed a w:=
  wpAny_take ak W an T c' hy h
def wg {dy:Oper}(i:Nat)(v:LY)(ak:ops[i]? = some dy)(hy:YieldsIf P ops S dy v a)(eb:S w)
    (h:wpAnyH P bU ops Q S fuel (listed.setIfInBounds i true) (a.put dy.dst v) w)
    (W:Region.noSelect ops=true:=by kernel_rfl) (an:Region.free bU ops listed i=true:=by kernel_rfl) (T:(Region.ready bU ops listed).contains i=true:=by kernel_rfl)
    (c':∀ c a w,Q (.panic c) (a.put dy.dst v) w->Q (.panic c) a w:=by exact λ_ _ _ h=>h):wpAnyH P bU ops Q S (fuel+1) listed a w:=
  wpAnyH_take ak W an T c' hy eb h
def wh {dy:Oper}(i:Nat)(v:LY)(eb:S w)
    (h:wpAnyH P bU ops Q S fuel (listed.setIfInBounds i true) (a.put dy.dst v) w) (ak:ops[i]? = some dy:=by rfl)
    (W:Region.noSelect ops=true:=by kernel_rfl) (an:Region.free bU ops listed i=true:=by kernel_rfl) (T:(Region.ready bU ops listed).contains i=true:=by kernel_rfl)
    (c':∀ c a w,Q (.panic c) (a.put dy.dst v) w->Q (.panic c) a w:=by exact λ_ _ _ h=>h) (hy:YieldsIf P ops S dy v a:=by exact zalad ⟨by kernel_rfl,λ_ _=>by go_simp⟩):wpAnyH P bU ops Q S (fuel+1) listed a w:=
  wpAnyH_take ak W an T c' hy eb h
def O7 {o:Oper}(i:Nat)
    (h:∀ fI:Act->LK->Prop,(∀ a w,wpAny P bU ops Q fuel (listed.setIfInBounds i true) a w->fI a w)->if Region.wanted o (yielded ops a.tmps)=true then Oper.wp P o a w fI Q else fI (a.put o.dst undef) w)
    (ay:ops[i]? = some o:=by rfl) (T:Region.ready bU ops listed=[i]:=by kernel_rfl):wpAny P bU ops Q (fuel+1) listed a w:=
  zalff T MP (zaldq ay h zalfa)
def wr2 {o lU:Oper}(i j:Nat)
    (h:∀ fI:Act->LK->Prop,(∀ a w,wpAny P bU ops Q fuel (listed.setIfInBounds i true) a w->fI a w)->if Region.wanted o (yielded ops a.tmps)=true then Oper.wp P o a w fI Q else fI (a.put o.dst undef) w)
    (cH:∀ fI:Act->LK->Prop,(∀ a w,wpAny P bU ops Q fuel (listed.setIfInBounds j true) a w->fI a w)->if Region.wanted lU (yielded ops a.tmps)=true then Oper.wp P lU a w fI Q else fI (a.put lU.dst undef) w)
    (ay:ops[i]? = some o:=by rfl) (yQ:ops[j]? = some lU:=by rfl) (T:Region.ready bU ops listed=[i,j]:=by kernel_rfl):wpAny P bU ops Q (fuel+1) listed a w:=
  zalff T MP (zaldq ay h (zaldq yQ cH zalfa))
def UK {o:Oper}(i:Nat)
    (h:∀ fI:Act->LK->Prop,Shut (∀ a w,S w->(S w->wpAnyH P bU ops Q S fuel (listed.setIfInBounds i true) a w)->fI a w)->if Region.wanted o (yielded ops a.tmps)=true then Oper.wp P o a w fI Q else fI (a.put o.dst undef) w)
    (ay:ops[i]? = some o:=by rfl) (T:Region.ready bU ops listed=[i]:=by kernel_rfl):wpAnyH P bU ops Q S (fuel+1) listed a w:=
  wpAnyH_ready T MP (AllReadyH.cons ay h AllReadyH.nil)
def WG {H G:LK->Nat->Prop}{goal:Prop}(E:(∀ ax bu,H ax bu->G ax bu)->goal)(O:∀ ax bu,H ax bu->G ax bu):goal:=E O
def Pz {listed':Array Bool}{ik:Act}(E:listed=listed')(O:a=ik)(h:wpAny P bU ops Q fuel listed' ik w):wpAny P bU ops Q fuel listed a w:=by
  subst E O;exact h
def tf (n m:Nat):Array Bool:=Array.replicate n true++Array.replicate m false
def wz {ik:Act}(n m:Nat)(h:wpAny P bU ops Q fuel (tf n m) ik w)(E:listed=tf n m:=by kernel_rfl)(O:a=ik:=by kernel_rfl):wpAny P bU ops Q fuel listed a w:=Pz E O h
def cm {f:FuncId}{args:Array LY}{R A5:Ending->LK->Prop}(h:Calls P f args w R)(T:∀ e w',R e w'->A5 e w'):Calls P f args w A5:=h.mono T
end
def af4 (x:LW)(w:LK)(E:1<=x.size)(O:x.size<=10)(aD:∀ i,(ak:i<x.size)->Nl (x[i].toNat:Int)=true) :
  MC 182 #[LQ x] w λe w'=>e=MN (.tuple #[LJ (TS x.data.toList),nIZ])/\LX w w':=by
 have f2:=hide aD;clear aD;go_enter func182,ntmps182;go_wp2_with fail;refine(akM x w E O f2.out).mono ?_;rintro e w1 ⟨rfl,D⟩;have aV:=hide D;go_wp2
 go_ret2
 exact⟨rfl,aV.out⟩
def YI (x:LW):x.data.toList.length=x.size:=by simp
def YA (p:Int->Bool)(s:LW):∀ n k,n+k=s.size->∀ i,k<=i->i<MH p s k->(ak:i<s.size)->p (s[i].toNat:Int)=true
 | 0,k,e,i,E,O,ak=>by omega
 | n+1,k,e,i,E,O,ak=>by
  cases N:p ((s[k]'LM).toNat:Int)
  ·rw[Qa p s k LM N] at O;omega
  ·by_cases Hj:i=k
   ·subst Hj;exact N
   ·rw[<-Qz p s k LM N] at O;exact YA p s n (k+1) LM i LM O ak
def UZ (s:LW)(a b i:Nat)(E:b<=s.size)(ak:i<(s.extract a b).size):(s.extract a b)[i]=s[a+i]'(by simp at ak;omega):=by
 simp[ByteArray.getElem_extract]
def rdNum (s:LW)(k:Nat):Rd:=
 if 10<MH Nl s k - k then .bad 3 k
 else if 1<MH Nl s k - k/\(((s.data.toList.getD k 0).toNat:Nat):Int)=48 then .bad 3 k
 else if 1000000000<TS (s.extract k (MH Nl s k)).data.toList then .bad 2 k
 else .tok 3 ⟨#[]⟩ (TS (s.extract k (MH Nl s k)).data.toList) (MH Nl s k)
section
variable (s:LW) (k e:Nat) (w:LK) (W:s.size<=3000) (N:k<s.size) (he:MH Nl s k=e) (k2:k<e) (c8:e<=s.size)
include s k e w W N he k2 c8
def aey (eL:10<e - k) :
  MC 159 #[LQ s,LJ (k:Int)] w (Sv k (.bad 3 k) w):=aC5
def aez (hpos:0<(s.extract k e).size)(eL:¬ 10<e - k)(E:1<e - k)(hz:(((s.extract k e)[0].toNat:Int)==48)=true) :
  MC 159 #[LQ s,LJ (k:Int)] w (Sv k (.bad 3 k) w):=aC5
def ag5 (hpos:0<(s.extract k e).size)(n:Int)(av:TS (s.extract k e).data.toList=n)(eL:¬ 10<e - k)(E:1<e - k)(hz:(((s.extract k e)[0].toNat:Int)==48)=false)(D:1000000000<n) :
  MC 159 #[LQ s,LJ (k:Int)] w (Sv k (.bad 2 k) w):=by
 have A{G}(h:G:=by
 clear hds bK;exact ava):=LG h;exact aAb
def aeA (hpos:0<(s.extract k e).size)(n:Int)(av:TS (s.extract k e).data.toList=n)(eL:¬ 10<e - k)(E:1<e - k)(hz:(((s.extract k e)[0].toNat:Int)==48)=false)(D:¬ 1000000000<n) :
  MC 159 #[LQ s,LJ (k:Int)] w (Sv k (.tok 3 ⟨#[]⟩ n e) w):=aDS
def ag6 (n:Int)(av:TS (s.extract k e).data.toList=n)(E:¬ 1<e - k)(D:¬ 1000000000<n) :
  MC 159 #[LQ s,LJ (k:Int)] w (Sv k (.tok 3 ⟨#[]⟩ n e) w):=aDS
end
def ZQ (s:LW)(k:Nat)(w:LK)(W:s.size<=3000)(N:k<s.size)(aD:Nl (s[k].toNat:Int)=true) :
  MC 159 #[LQ s,LJ (k:Int)] w (Sv k (rdNum s k) w):=by
 have k2:k<MH Nl s k:=by rw[<-Qz Nl s k N aD];have:=QF Nl s (k+1);omega
 have c8:=QV Nl s k LM;have bK:=extract_size s k (MH Nl s k) LM c8;have hpos:0<(s.extract k (MH Nl s k)).size:=LM;have aJ:(s.extract k (MH Nl s k))[0]=s[k]:=by rw[UZ s k _ 0 c8 hpos];rfl
 have fU:=at_eq s k N
 by_cases eL:10<MH Nl s k - k
 ·have T:rdNum s k=.bad 3 k:=by unfold rdNum;rw[zalak eL]
  rw[T];exact aey s k _ w W N rfl k2 c8 eL
 ·by_cases E:1<MH Nl s k - k
  ·by_cases hz:((s[k].toNat:Nat):Int)=48
   ·have T:rdNum s k=.bad 3 k:=by unfold rdNum;rw[zalah eL,zalak ⟨E,by rw[fU];exact hz⟩]
    rw[T];exact aez s k _ w W N rfl k2 c8 hpos eL E (by rw[aJ];exact zalbz.2 hz)
   ·have h48':(((s.extract k (MH Nl s k))[0].toNat:Int)==48)=false:=by rw[aJ];exact zalaj.2 hz
    have am:¬ (1<MH Nl s k - k/\(((s.data.toList.getD k 0).toNat:Nat):Int)=48):=λh=>hz (by have:=h.2;rw[fU] at this;exact this)
    by_cases D:1000000000<TS (s.extract k (MH Nl s k)).data.toList
    ·have T:rdNum s k=.bad 2 k:=by unfold rdNum;rw[zalah eL,zalah am,zalak D]
     rw[T];exact ag5 s k _ w W N rfl k2 c8 hpos _ rfl eL E h48' D
    ·have A{G}(h:G:=by
     rw[T];exact aeA s k _ w W N rfl k2 c8 hpos _ rfl eL E h48' D):=LG h;exact aCe
  ·have am:¬ (1<MH Nl s k - k/\(((s.data.toList.getD k 0).toNat:Nat):Int)=48):=λh=>E h.1;have hds:∀ b ∈ (s.extract k (MH Nl s k)).data.toList,Nl (b.toNat:Int)=true:=by
    have:=XL (s.extract k (MH Nl s k)) (λi ak=>by
     rw[UZ s k _ i c8 ak];exact YA Nl s (s.size - k) k LM (k+i) LM LM LM) (MH Nl s k - k)
    rw[zalcv (by rw[YI];omega)] at this
    exact this
   have bz:=(XK _ hds).2;have ab:(s.extract k (MH Nl s k)).data.toList.length=1:=by rw[YI];omega
   rw[ab] at bz;have D:¬ 1000000000<TS (s.extract k (MH Nl s k)).data.toList:=LM;have A{G}(h:G:=by
   rw[T];exact ag6 s k _ w W N rfl k2 c8 _ rfl E D):=LG h;exact aCe
def bt (s:LW)(i:Nat):UInt8:=s.data.toList.getD i 0
def aa4 (s:LW)(i:Nat)(h:i<s.size):bt s i=s[i]:=at_eq s i h
def esc (c:UInt8):Option UInt8:=if c=110 then some 10 else if c=39\/c=92 then some c else none
inductive SR where
 | ok (said:List UInt8) (e:Nat)
 | bad (p:Nat)
def Ti (s:LW)(i:Nat)(said:List UInt8):SR:=
 if i<s.size then
  if bt s i=39 then .ok said (i+1)
  else if bt s i=10 then .bad i
  else if bt s i=92 then
   if i+1<s.size then
    match esc (bt s (i+1)) with
    | some m=>Ti s (i+2) (said++[m])
    | none=>.bad (i+1)
   else .bad (i+1)
  else Ti s (i+1) (said++[bt s i])
 else .bad s.size
termination_by s.size - i
def rdStr (s:LW)(k:Nat):Rd:=
 match Ti s (k+1) [] with
 | .ok said e=>if 500<said.length then .bad 4 k else .tok 4 (ofBytes said) 0 e
 | .bad p=>.bad 3 p
section
variable (s:LW) (i:Nat) (said:List UInt8)
include s i said
def Xk (h:¬ i<s.size):Ti s i said=.bad s.size:=by rw[Ti,zalah h]
def X3 (h:i<s.size)(am:bt s i=39):Ti s i said=.ok said (i+1):=by rw[Ti,zalak h,zalak am]
def aat (h:i<s.size)(am:bt s i=10):Ti s i said=.bad i:=by rw[Ti,zalak h,zalah (by rw[am];decide),zalak am]
def Xd (m:UInt8)(h:i<s.size)(am:bt s i=92)(E:i+1<s.size)(aA:esc (bt s (i+1))=some m):Ti s i said=Ti s (i+2) (said++[m]):=by
 conv=>lhs;rw[Ti]
 rw[zalak h,zalah (by rw[am];decide),zalah (by rw[am];decide),zalak am,zalak E,aA]
def TV (h:i<s.size)(am:bt s i=92)(aA:i+1<s.size->esc (bt s (i+1))=none):Ti s i said=.bad (i+1):=by
 rw[Ti,zalak h,zalah (by rw[am];decide),zalah (by rw[am];decide),zalak am]
 by_cases E:i+1<s.size
 ·rw[zalak E,aA E]
 ·rw[zalah E]
def X4 (h:i<s.size)(E:bt s i≠39)(O:bt s i≠10)(ao:bt s i≠92):Ti s i said=Ti s (i+1) (said++[bt s i]):=by
 conv=>lhs;rw[Ti]
 rw[zalak h,zalah E,zalah O,zalah ao]
end
def Rf (b c:UInt8):(((b.toNat:Nat):Int)==((c.toNat:Nat):Int))=decide (b=c):=by
 by_cases h:b=c
 ·subst h;simp
 ·have:b.toNat≠c.toNat:=λe=>h (UInt8.toNat_inj.1 e);simp[h];omega
def avV (o:Option UInt8):LY:=match o with|some m=>.tuple #[.int .u8 (m.toNat:Int),L9 true] | none=>.tuple #[.int .u8 0,L9 false]
def ag7 (s:LW)(i:Nat)(w:LK)(h:s.size<=i) :
  MC 237 #[LQ s,LJ (i:Int)] w λe w'=>e=MN (.tuple #[.int .u8 0,L9 false])/\w'=w:=by
 go_enter func237,ntmps237
 go_wp2
 go_ret2
 exact⟨rfl,rfl⟩
def abr (s:LW)(i:Nat)(w:LK)(h:i<s.size) :
  MC 237 #[LQ s,LJ (i:Int)] w λe w'=>e=MN (avV (esc (bt s i)))/\w'=w:=by
 rw[aa4 s i h];obtain⟨b,D⟩:∃ b,b=s[i]:=⟨_,rfl⟩;have bT:=Rf b 110;have a':=Rf b 39;have cV:=Rf b 92;rw[<-D]
 by_cases E:b=110
 ·have e:esc b=some 10:=by simp[esc,E]
  have c1:(((s[i].toNat:Nat):Int)==110)=true:=by rw[<-D,E];rfl
  rw[e];clear bT a' cV D E;go_enter func237,ntmps237
  go_wp2
  go_ret2
  exact⟨rfl,rfl⟩
 ·have c1:(((s[i].toNat:Nat):Int)==110)=false:=by rw[<-D];simpa[E] using bT
  by_cases O:b=39
  ·have e:esc b=some 39:=by simp[esc,O]
   have c2:(((s[i].toNat:Nat):Int)==39)=true:=by rw[<-D,O];rfl
   have a0:((s[i].toNat:Nat):Int)=39:=by rw[<-D,O];rfl
   exact ayL
  ·have c2:(((s[i].toNat:Nat):Int)==39)=false:=by rw[<-D];simpa[O] using a'
   by_cases ao:b=92
   ·have e:esc b=some 92:=by simp[esc,ao]
    have c3:(((s[i].toNat:Nat):Int)==92)=true:=by rw[<-D,ao];rfl
    have a0:((s[i].toNat:Nat):Int)=92:=by rw[<-D,ao];rfl
    exact ayL
   ·have e:esc b=none:=by simp[esc,E,O,ao]
    have c3:(((s[i].toNat:Nat):Int)==92)=false:=by rw[<-D];simpa[ao] using cV
    rw[e];clear bT a' cV D E O;go_enter func237,ntmps237
    go_wp2
    go_ret2
    exact⟨rfl,rfl⟩
def cellsOf (l:List UInt8):List LY:=l.map (λb=>Value.int .u8 (b.toNat:Int))
def amr {w:LK}{base:Nat}{v:LY}{n:Nat}{bQ:List LY}(h:w.ownsRow base 5 1 v n bQ):∃ a cap,v=.slice a n cap:=by
 obtain⟨_,⟨rfl,rfl⟩|⟨g,cap,cj,rfl,_⟩⟩:=h
 all_goals
  exact⟨_,_,rfl⟩
def aoP {w:LK}{base:Nat}{v:LY}(l:List UInt8)(h:w.ownsRow base 5 1 v l.length (cellsOf l)):(convert 71 9 v).run prog w=.ok (LQ (ofBytes l)) w:=by
 obtain⟨ab,⟨rfl,aJ⟩|⟨g,cap,cj,rfl,D,a2,av,aA,W,aH⟩⟩:=h
 ·have:l=[]:=zalbr.1 aJ;subst this;exact run_convert_bytes_nil w 71 5 zalgb underlying5 0 0 9 zalgo
 ·refine run_convert_bytes_back w 71 9 5 (LD g 0) cap l zalgb underlying5 zalgo ?_;intro j aT;have E:(cellsOf l)[j]? = some (.int .u8 (l[j].toNat:Int)):=by unfold cellsOf;rw[zalbx,zalai aT];rfl
  rw[<-aH,zalfo LM] at E;have O:cj[j]? = some (.int .u8 (l[j].toNat:Int)):=by simpa using E
  have e:(Addr.add (LD g 0) j)=(LD g j):=by simp[Addr.add];intro h;exact h.symm
  rw[e];simp only[World.cell?,a2];simpa using O
def info5:(prog.info? 5).map (λi=>(i.zero,i.size,i.bytes))=some (some (.int .u8 0),1,1):=by kernel_rfl
def ai1 (l:List UInt8)(b:UInt8):cellsOf (l++[b])=cellsOf l++[.int .u8 (b.toNat:Int)]:=by simp[cellsOf]
def aki {w wr w1:LK}{v b0:LY}{said:List UInt8}{b:UInt8}(o:Obj)(bA:Below (w.heap.size+1) (w.alloc O35) wr)(bK:w.heap.size+1<=wr.heap.size)
  (hown:wr.ownsRow (w.heap.size+1) 5 1 v said.length (cellsOf said))
  (hown':w1.ownsRow (w.heap.size+1) 5 1 b0 (said.length+1) (cellsOf said++[.int .u8 (b.toNat:Int)])) (hg:(wr.alloc o).grownBy w1 v.ownBlock) :
  w1.ownsRow (w.heap.size+1) 5 1 b0 (said++[b]).length (cellsOf (said++[b]))/\Below (w.heap.size+1) (w.alloc O35) w1/\w.heap.size+1<=w1.heap.size:=by
 have a5:Below (w.heap.size+1) (w.alloc O35) (wr.alloc o):=bA.alloc bK o;have gI:Below (w.heap.size+1) (w.alloc O35) w1:=a5.grown hg OM (λk N=>by
  obtain⟨_,⟨rfl,_⟩|⟨g,cap,cj,rfl,dI,_⟩⟩:=hown
  ·simp[Value.ownBlock] at N
  ·simp[Value.ownBlock] at N;omega)
 refine⟨by rw[ai1,zalab];exact hown',gI,?_⟩
 have:=gI.size;simp at this;omega
def ZR (s:LW)(k:Nat)(w:LK)(W:s.size<=3000)(N:k<s.size) :
  MC 160 #[LQ s,LJ (k:Int)] w (Sv k (rdStr s k) w):=by
 obtain⟨a6,ak,bL,bM,bP⟩:=zalbl info5;obtain⟨r,T⟩:∃ r,Ti s (k+1) []=r:=⟨_,rfl⟩;have bo:=hide T;obtain⟨q,ac⟩:∃ q,rdStr s k=q:=⟨_,rfl⟩;have aG:=hide ac;rw[ac];clear T ac;go_enter func160,ntmps160
 go_wp2
 go_loopw [7,8,9,10,11] (λv i _ _ _ wr=>∃ (j:Nat) (said:List UInt8),j<=s.size/\said.length<=j/\i=LJ j/\Ti s j said=r/\wr.ownsRow (w.heap.size+1) 5 1 v said.length (cellsOf said)/\Below (w.heap.size+1) (w.alloc O35) wr/\w.heap.size+1<=wr.heap.size) (λ_ i _ _ _ _=>s.size - (intOf i).toNat)
 case atStart=>exact⟨k+1,[],by omega,by simp,by go_num,bo.out,zalhd _ _ _ _,O4,by simp⟩
 case round=>
  obtain⟨j,said,aT,y5,rfl,he,hown,bA,bK⟩:=hrel;have cG:=hide he;have HOWN:=hide hown;have aV:=hide bA;clear he
  by_cases aC:j<s.size
  ·have dL:=aa4 s j aC;obtain⟨a,cap,rfl⟩:=amr hown;have bT:=Rf s[j] 39;have a':=Rf s[j] 10;have cV:=Rf s[j] 92
   by_cases c1:s[j]=39
   ·
    have ky:(((s[j].toNat:Nat):Int)==39)=true:=by rw[c1];rfl
    have bB:r=.ok said (j+1):=by rw[<-cG.out,X3 s j said aC (by rw[dL];exact c1)]
    clear bT a' cV c1 dL
    by_cases rM:500<said.length
    ·have dP:q=.bad 4 k:=by rw[<-aG.out];unfold rdStr;rw[bo.out,bB];simp[rM]
     clear bB;subst dP;exact aoe
    ·have dP:q=.tok 4 (ofBytes said) 0 (j+1):=by rw[<-aG.out];unfold rdStr;rw[bo.out,bB];simp[rM]
     clear bB;subst dP;have qv:=aoP said HOWN.out;have tz:Below (w.alloc O35).heap.size (w.alloc O35) wr:=by simpa using Lu aV
     obtain⟨am,an⟩:=XC tz;have sy:=hide tz;go_wp2_with fail;exact adY (v:=.tuple #[.agg #[LJ 4,LQ (ofBytes said),LJ 0,LJ (k:Int)],LJ ((j:Int)+1),nIZ]) ⟨by simp,Xg sy.out _ _ _ _⟩
   ·have ky:(((s[j].toNat:Nat):Int)==39)=false:=by rw[show (39:Int)=(((39:UInt8).toNat:Nat):Int) from rfl,bT];simp[c1]
    by_cases c2:s[j]=10
    ·
     have gl:(((s[j].toNat:Nat):Int)==10)=true:=by rw[c2];rfl
     have bB:r=.bad j:=by rw[<-cG.out,aat s j said aC (by rw[dL];exact c2)]
     have dP:q=.bad 3 j:=by rw[<-aG.out];unfold rdStr;rw[bo.out,bB]
     clear bT a' cV c1 c2 dL bB;subst dP;exact aoe
    ·have gl:(((s[j].toNat:Nat):Int)==10)=false:=by rw[show (10:Int)=(((10:UInt8).toNat:Nat):Int) from rfl,a'];simp[c2]
     by_cases c3:s[j]=92
     ·
      have lX:(((s[j].toNat:Nat):Int)==92)=true:=by rw[c3];rfl
      by_cases hlt2:j+1<s.size
      ·
       cases aA:esc (bt s (j+1)) with
       | none=>
        have bB:r=.bad (j+1):=by rw[<-cG.out,TV s j said aC (by rw[dL];exact c3) (λ_=>aA)]
        have dP:q=.bad 3 (j+1):=by rw[<-aG.out];unfold rdStr;rw[bo.out,bB]
        have hZ:=hide aA;clear bT a' cV c1 c2 c3 dL bB aA;subst dP;go_wp2_with fail;have qw:=abr s (j+1) wr hlt2;rw[hZ.out] at qw;refine cm qw ?_;rintro bO aq ⟨rfl,rfl⟩;simp only[avV];exact aoe
       | some m=>
        have bB:Ti s (j+2) (said++[m])=r:=by rw[<-cG.out,Xd s j said m aC (by rw[dL];exact c3) hlt2 aA]
        have dm:=hide bB;have hZ:=hide aA;clear bT a' cV c1 c2 c3 dL bB aA;go_wp2_with fail;have qw:=abr s (j+1) wr hlt2;rw[hZ.out] at qw;refine cm qw ?_;rintro bO aq ⟨rfl,rfl⟩;simp only[avV]
        go_wp2_with (at_builtin;refine zalcr _ rfl _ _ 71 rfl (w.heap.size+1) 5 a6 (.int .u8 0) 1 1 zalgb ak bL bM bP rfl MK _ _ _ rfl (HOWN.out.alloc _) (LD aq.heap.size 0) 1 1 [.int .u8 (m.toNat:Int)] rfl rfl ?c1 ?c2 ?c3 ?c4 ?c5 ?_)
        case c1=>
         intro j u aT
         match j,aT with
         | 0,aT=>simp at aT;subst aT;simp[Addr.add]
        case c2=>intro u aS;simp at aS;subst aS;rfl
        case c3=>unfold maxLen;omega
        case c4=>omega
        case c5=>simp;omega
        intro b0 w1 hown' hgrow _;have R:=aki (b:=m) _ aV.out bK HOWN.out hown' hgrow;have dv:=hide R;clear R
        go_wp2
        go_roundw
        case rel=>exact⟨j+2,said++[m],by omega,by simp;omega,by go_num,dm.out,dv.out.1,dv.out.2.1,dv.out.2.2⟩
        case measure=>simp[intOf];omega
      ·have bB:r=.bad (j+1):=by rw[<-cG.out,TV s j said aC (by rw[dL];exact c3) (λh=>absurd h hlt2)]
       have dP:q=.bad 3 (j+1):=by rw[<-aG.out];unfold rdStr;rw[bo.out,bB]
       clear bT a' cV c1 c2 c3 dL bB;subst dP;go_wp2_with fail;have qw:=ag7 s (j+1) wr LM;refine cm qw ?_;rintro bO aq ⟨rfl,rfl⟩;exact aoe
     ·
      have lX:(((s[j].toNat:Nat):Int)==92)=false:=by rw[show (92:Int)=(((92:UInt8).toNat:Nat):Int) from rfl,cV];simp[c3]
      have bB:Ti s (j+1) (said++[s[j]])=r:=by rw[<-cG.out,X4 s j said aC (by rw[dL];exact c1) (by rw[dL];exact c2) (by rw[dL];exact c3),dL]
      have dm:=hide bB;clear bT a' cV c1 c2 c3 dL bB
      go_wp2_with (at_builtin;refine zalcr _ rfl _ _ 71 rfl (w.heap.size+1) 5 a6 (.int .u8 0) 1 1 zalgb ak bL bM bP rfl MK _ _ _ rfl (HOWN.out.alloc _) (LD wr.heap.size 0) 1 1 [.int .u8 (s[j].toNat:Int)] rfl rfl ?c1 ?c2 ?c3 ?c4 ?c5 ?_)
      case c1=>
       intro j u aT
       match j,aT with
       | 0,aT=>simp at aT;subst aT;simp[Addr.add]
      case c2=>intro u aS;simp at aS;subst aS;rfl
      case c3=>unfold maxLen;omega
      case c4=>omega
      case c5=>simp;omega
      intro b0 w1 hown' hgrow _;have R:=aki (b:=s[j]) _ aV.out bK HOWN.out hown' hgrow;have dv:=hide R;clear R
      go_wp2
      go_roundw
      case rel=>exact⟨j+1,said++[s[j]],by omega,by simp;omega,by go_num,dm.out,dv.out.1,dv.out.2.1,dv.out.2.2⟩
      case measure=>simp[intOf];omega
  ·have bB:r=.bad s.size:=by rw[<-cG.out,Xk s j said aC]
   have dP:q=.bad 3 s.size:=by rw[<-aG.out];unfold rdStr;rw[bo.out,bB]
   clear bB;subst dP;exact aoe
def Oe (aj bi:List LW)(s:LW)(k:Nat):Rd:=
 if Sm ((bt s k).toNat:Int)=true then QG aj s k
 else if Nl ((bt s k).toNat:Int)=true then rdNum s k
 else if bt s k=39 then rdStr s k
 else RG bi s k
structure Lists (aj bi:List LW)(w:LK):Prop where
 lw:aj.length=19
 lg:bi.length=19
 zg:∀ i,i<19->(bi.getD i ByteArray.empty).size<=3
 hw:∃ t fr,w.heap[6]? = some (.cells (aj.map Value.string).toArray t fr)
 hg:∃ t fr,w.heap[5]? = some (.cells (bi.map Value.string).toArray t fr)
def Lists.later {aj bi:List LW}{w w':LK}(h:Lists aj bi w)(D:LX w w'):Lists aj bi w':=by
 obtain⟨t,fr,hw⟩:=h.hw;obtain⟨gl,xx,hg⟩:=h.hg;have ab:=(zalbv.1 hw).1;have gx:=(zalbv.1 hg).1;exact⟨h.lw,h.lg,h.zg,⟨t,fr,by rw[D.block 6 LM];exact hw⟩,⟨gl,xx,by rw[D.block 5 LM];exact hg⟩⟩
section
variable (aj bi:List LW) (s:LW) (k:Nat) (kd n:Int) (tx:LW) (e:Nat) (w:LK) (W:s.size<=3000) (N:k<s.size) (bm:Lists aj bi w)
include aj bi s k kd n tx e w W N bm
def aeB (ab:Sm (s[k].toNat:Int)=true)(T:QG aj s k=.tok kd tx n e) :
  MC 100 #[LQ s,LJ (k:Int)] w (Sv k (.tok kd tx n e) w):=by
 have i':Lists aj bi (w.alloc O35):=bm.later Qn;have hK:=hide i';have A{G}(h:G:=by
 have A{G}(h:G:=by
 rintro fA bn ⟨rfl,ec⟩;have lG:=cZ.out.trans (ec.mono cZ.out.size);exact aDd):=LG h;exact aBT):=LG h;exact azR
def ag8 (ab:Sm (s[k].toNat:Int)=false)(aD:Nl (s[k].toNat:Int)=true)(T:rdNum s k=.tok kd tx n e) :
  MC 100 #[LQ s,LJ (k:Int)] w (Sv k (.tok kd tx n e) w):=by
 have A{G}(h:G:=by
 have A{G}(h:G:=by
 have dZ:=ZQ s k bh W N f2.out;rw[bo.out] at dZ;refine cm dZ ?_;exact avh):=LG h;exact alx):=LG h;exact alP
def ag9 (ab:Sm (s[k].toNat:Int)=false)(aD:Nl (s[k].toNat:Int)=false)(ac:(((s[k].toNat:Nat):Int)==39)=true)(T:rdStr s k=.tok kd tx n e) :
  MC 100 #[LQ s,LJ (k:Int)] w (Sv k (.tok kd tx n e) w):=by
 have A{G}(h:G:=by
 have A{G}(h:G:=by
 have dZ:=ZR s k bh W N;rw[bo.out] at dZ;refine cm dZ ?_;exact avh):=LG h;exact alx):=LG h;exact alP
def aeC (ab:Sm (s[k].toNat:Int)=false)(aD:Nl (s[k].toNat:Int)=false)(ac:(((s[k].toNat:Nat):Int)==39)=false)(T:RG bi s k=.tok kd tx n e) :
  MC 100 #[LQ s,LJ (k:Int)] w (Sv k (.tok kd tx n e) w):=by
 have A{G}(h:G:=by
 have hK:=hide i';have A{G}(h:G:=by
 have A{G}(h:G:=by
 clear hg;exact avh):=LG h;exact aBV):=LG h;exact alx):=LG h;exact alP
end
section
variable (aj bi:List LW) (s:LW) (k:Nat) (er:Int) (p:Nat) (w:LK) (W:s.size<=3000) (N:k<s.size) (bm:Lists aj bi w)
include aj bi s k er p w W N bm
def acp (ab:Sm (s[k].toNat:Int)=true)(T:QG aj s k=.bad er p) :
  MC 100 #[LQ s,LJ (k:Int)] w (Sv k (.bad er p) w):=by
 have i':Lists aj bi (w.alloc O35):=bm.later Qn;have hK:=hide i';have A{G}(h:G:=by
 have A{G}(h:G:=by
 rintro fA bn ⟨b,rfl,D,kj,yh⟩;have lG:=cZ.out.trans (yh.mono cZ.out.size);have o':=zalan cZ.out.size kj;exact aDb):=LG h;exact aBT):=LG h;exact azR
def aeD (ab:Sm (s[k].toNat:Int)=false)(aD:Nl (s[k].toNat:Int)=true)(T:rdNum s k=.bad er p) :
  MC 100 #[LQ s,LJ (k:Int)] w (Sv k (.bad er p) w):=by
 have A{G}(h:G:=by
 have A{G}(h:G:=by
 have dZ:=ZQ s k bh W N f2.out;rw[bo.out] at dZ;refine cm dZ ?_;exact avu):=LG h;exact alx):=LG h;exact alP
def aeE (ab:Sm (s[k].toNat:Int)=false)(aD:Nl (s[k].toNat:Int)=false)(ac:(((s[k].toNat:Nat):Int)==39)=true)(T:rdStr s k=.bad er p) :
  MC 100 #[LQ s,LJ (k:Int)] w (Sv k (.bad er p) w):=by
 have A{G}(h:G:=by
 have A{G}(h:G:=by
 have dZ:=ZR s k bh W N;rw[bo.out] at dZ;refine cm dZ ?_;exact avu):=LG h;exact alx):=LG h;exact alP
def acr (ab:Sm (s[k].toNat:Int)=false)(aD:Nl (s[k].toNat:Int)=false)(ac:(((s[k].toNat:Nat):Int)==39)=false)(T:RG bi s k=.bad er p) :
  MC 100 #[LQ s,LJ (k:Int)] w (Sv k (.bad er p) w):=by
 have A{G}(h:G:=by
 have hK:=hide i';have A{G}(h:G:=by
 have A{G}(h:G:=by
 clear hg;exact avu):=LG h;exact aBV):=LG h;exact alx):=LG h;exact alP
end
def aha (aj bi:List LW)(s:LW)(k:Nat)(w:LK)(W:s.size<=3000)(N:k<s.size)(bm:Lists aj bi w) :
  MC 100 #[LQ s,LJ (k:Int)] w (Sv k (Oe aj bi s k) w):=by
 have dL:=aa4 s k N;have D:=Rf s[k] 39;unfold Oe;rw[dL]
 cases ab:Sm (s[k].toNat:Int)
 ·rw[zalah MP]
  cases aD:Nl (s[k].toNat:Int)
  ·rw[zalah MP]
   by_cases ac:s[k]=39
   ·rw[zalak ac];have dP:(((s[k].toNat:Nat):Int)==39)=true:=by rw[ac];rfl
    cases T:rdStr s k with
    | tok kd tx n e=>exact ag9 aj bi s k kd n tx e w W N bm ab aD dP T
    | bad er p=>exact aeE aj bi s k er p w W N bm ab aD dP T
   ·rw[zalah ac];have dP:(((s[k].toNat:Nat):Int)==39)=false:=by rw[show (39:Int)=(((39:UInt8).toNat:Nat):Int) from rfl,D];simp[ac]
    cases T:RG bi s k with
    | tok kd tx n e=>exact aeC aj bi s k kd n tx e w W N bm ab aD dP T
    | bad er p=>exact acr aj bi s k er p w W N bm ab aD dP T
  ·rw[zalak rfl]
   cases T:rdNum s k with
   | tok kd tx n e=>exact ag8 aj bi s k kd n tx e w W N bm ab aD T
   | bad er p=>exact aeD aj bi s k er p w W N bm ab aD T
 ·rw[zalak rfl]
  cases T:QG aj s k with
  | tok kd tx n e=>exact aeB aj bi s k kd n tx e w W N bm ab T
  | bad er p=>exact acp aj bi s k er p w W N bm ab T
structure Tk where
 kd:Int
 tx:LW
 n:Int
 pl:Nat
inductive TR where
 | ok (l:List Tk)
 | bad (er:Int) (p:Nat)
def Pn (aj bi:List LW)(s:LW)(i:Nat)(au:List Tk):TR:=
 if h:i<s.size then
  match Oe aj bi s i with
  | .tok kd tx n e=>if O:i<e then Pn aj bi s (MH O8 s e) (au++[⟨kd,tx,n,i⟩]) else .bad 0 0
  | .bad er p=>.bad er p
 else .ok (au++[⟨6,⟨#[]⟩,0,s.size⟩])
termination_by s.size - i
decreasing_by
 have:=QF O8 s e;omega
section
variable (aj bi:List LW) (s:LW) (i:Nat) (au:List Tk)
include aj bi s i au
def UG (h:¬ i<s.size):Pn aj bi s i au=.ok (au++[⟨6,⟨#[]⟩,0,s.size⟩]):=by rw[Pn,zalhu h]
def Tc (er:Int)(p:Nat)(h:i<s.size)(T:Oe aj bi s i=.bad er p):Pn aj bi s i au=.bad er p:=by rw[Pn,zalgw h,T]
def UY (kd n:Int)(tx:LW)(e:Nat)(h:i<s.size)(T:Oe aj bi s i=.tok kd tx n e)(he:i<e):Pn aj bi s i au=Pn aj bi s (MH O8 s e) (au++[⟨kd,tx,n,i⟩]):=by
 conv=>lhs;rw[Pn]
 rw[zalgw h,T];simp only;rw[zalgw he]
end
def ZV (s:LW):∀ n i said l e,s.size - i=n->Ti s i said=.ok l e->i<e/\e<=s.size/\l.length<=said.length+(s.size - i):=by
 intro n
 induction n using Nat.strongRecOn with
 | ind n aU=>
  intro i said l e av h
  by_cases aC:i<s.size
  ·by_cases c1:bt s i=39
   ·rw[X3 s i said aC c1] at h;cases h;exact⟨by omega,by omega,by omega⟩
   ·by_cases c2:bt s i=10
    ·rw[aat s i said aC c2] at h;cases h
    ·by_cases c3:bt s i=92
     ·by_cases E:i+1<s.size
      ·
       cases aA:esc (bt s (i+1)) with
       | none=>rw[TV s i said aC c3 (λ_=>aA)] at h;cases h
       | some m=>
        rw[Xd s i said m aC c3 E aA] at h;have:=aU (s.size - (i+2)) LM (i+2) _ l e rfl h;rw[zalab,zalbm] at this;omega
      ·rw[TV s i said aC c3 (λa2=>absurd a2 E)] at h;cases h
     ·rw[X4 s i said aC c1 c2 c3] at h;have:=aU (s.size - (i+1)) LM (i+1) _ l e rfl h;rw[zalab,zalbm] at this;omega
  ·rw[Xk s i said aC] at h;cases h
def Yy (aj bi:List LW)(s:LW)(k:Nat)(kd n:Int)(tx:LW)(e:Nat)(N:k<s.size)(hg:∀ g ∈ bi,1<=g.size)
  (h:Oe aj bi s k=.tok kd tx n e):k<e/\e<=s.size:=by
 have dL:=aa4 s k N;unfold Oe at h;rw[dL] at h
 split at h
 ·rename_i ab
  have tN:OL (s[k].toNat:Int)=true:=by unfold OL;rw[ab];rfl
  have E:=Qz OL s k N tN;have O:=QF OL s (k+1);have ao:=QV OL s k LM;unfold QG at h
  split at h
  ·
   cases h;omega
  ·split at h
   ·
    cases h
   ·
    cases h;omega
 ·split at h
  ·rename_i aD
   have E:=Qz Nl s k N aD;have O:=QF Nl s (k+1);have ao:=QV Nl s k LM;unfold rdNum at h
   split at h
   ·
    cases h
   ·split at h
    ·
     cases h
    ·split at h
     ·
      cases h
     ·
      cases h;omega
  ·split at h
   ·unfold rdStr at h
    cases T:Ti s (k+1) [] with
    | ok said ha=>
     rw[T] at h;simp only at h;have D:=ZV s _ (k+1) [] said ha rfl T
     split at h
     ·
      cases h
     ·
      cases h;omega
    | bad p=>rw[T] at h;cases h
   ·unfold RG at h
    cases an:bi.find? (λg=>Xj (s.extract k s.size) g) with
    | none=>rw[an] at h;cases h
    | some g=>
     rw[an] at h;obtain⟨_,_,_,he⟩:=Rd.tok.inj h;have aA:=zalbc an;have ae:=zaldw an;have E:=hg g aA;simp only[Xj,zalee,zaldx] at ae;have b5:=extract_size s k s.size LM Nh;omega
def Uf (t:Tk):List LY:=[LJ t.kd,LQ t.tx,LJ t.n,LJ (t.pl:Int)]
def OI (l:List Tk):List LY:=l.flatMap Uf
def Vs (l:List Tk)(t:Tk):OI (l++[t])=OI l++Uf t:=by simp[OI]
def aj1 (r:TR)(w:LK)(e:Ending)(w':LK):Prop:=
 match r with
 | .ok l=>∃ v,e=MN (.tuple #[v,.nilIface])/\w'.ownsRow w.heap.size 138 4 v l.length (OI l)/\LX w w'
 | .bad er p=>∃ b,e=MN (.tuple #[.slice none 0 0,.iface 144 (Mc b 0)])/\w'.heap[b]? = some (NK #[LJ er,LJ (p:Int)] 145)/\w.heap.size<=b/\LX w w'
def av9:(prog.info? 138).map (λi=>(i.zero,i.size,i.bytes))=some (some TB,4,40):=by kernel_rfl
def ajl {wr aq:LK}{B:Nat}{v:LY}{n:Nat}{bQ:List LY}(D:LX wr aq)(h:wr.ownsRow B 138 4 v n bQ):aq.ownsRow B 138 4 v n bQ:=ayI
def am2 {w:LK}{B B':Nat}{v:LY}{n:Nat}{bQ:List LY}(D:B'<=B)(h:w.ownsRow B 138 4 v n bQ):w.ownsRow B' 138 4 v n bQ:=ay0
def adv {B:Nat}{fl gR w1:LK}{v:LY}{n:Nat}{bQ:List LY}(bA:Below B fl gR)(bK:B<=gR.heap.size)(hown:gR.ownsRow B 138 4 v n bQ)(hg:gR.grownBy w1 v.ownBlock) :
  Below B fl w1:=bA.grown hg bK (λk N=>by
  obtain⟨_,⟨rfl,_⟩|⟨g,cap,cj,rfl,dI,_⟩⟩:=hown
  ·simp[Value.ownBlock] at N
  ·simp[Value.ownBlock] at N;omega)
def agC (s:LW)(w:LK)(W:3000<s.size) :
  MC 42 #[LQ s] w λe w'=>e=MN (.tuple #[QJ,.iface 31 (LJ 4)])/\w'=w:=by
 go_enter func42,ntmps42
 go_wp2
 go_ret2
 exact⟨rfl,rfl⟩
def aiG (aj bi:List LW)(s:LW)(w:LK)(W:s.size<=3000)(bm:Lists aj bi w)(hQ:∀ g ∈ bi,1<=g.size) :
  MC 42 #[LQ s] w (aj1 (Pn aj bi s (MH O8 s 0) []) w):=by
 obtain⟨a6,ak,bL,bM,bP⟩:=zalbl av9;obtain⟨r,T⟩:∃ r,Pn aj bi s (MH O8 s 0) []=r:=⟨_,rfl⟩;have bo:=hide T;rw[T];have cQ:=hide bm;have Eb:=hide hQ;clear T hQ;go_enter func42,ntmps42;go_wp2_with fail;refine(acM _ _).mono ?_;rintro aW w1 ⟨x,rfl,af,hbel⟩;have cy:=hide (af.congr aqj);have cZ:=hide hbel;go_wp2_with fail;refine(WZ s 0 x O8 w1 (by unfold maxLen;omega) (zalae _) cy.out).mono ?_
 rintro a4 w2 ⟨rfl,rfl⟩;have ee:=QV O8 s 0 (zalae _);obtain⟨bq,ae⟩:∃ bq,MH O8 s 0=bq:=⟨_,rfl⟩;rw[ae] at ee ⊢;have bX:Hid (Pn aj bi s bq []=r):=by show _=_;rw[<-ae];exact Lu bo
 clear ae;go_wp2_with fail
 go_loopw [5,6,7,8,9] (λv i _ _ _ wr=>∃ (j:Nat) (au:List Tk),j<=s.size/\au.length<=j/\i=LJ j/\Pn aj bi s j au=r/\wr.ownsRow w2.heap.size 138 4 v au.length (OI au)/\LX w2 wr/\w2.heap.size<=wr.heap.size) (λ_ i _ _ _ _=>s.size - (intOf i).toNat)
 case atStart=>exact⟨bq,[],ee,by simp,rfl,bX.out,zalhd _ _ _ _,O4,Nh⟩
 case round=>
  obtain⟨j,au,aT,ej,rfl,he,hown,bA,bK⟩:=hrel;have cG:=hide he;have HOWN:=hide hown;have aV:=hide bA;clear he;have GA:=(cQ.out.later cZ.out).later aV.out;have j8:=hide GA
  by_cases aC:j<s.size
  ·
   cases aY:Oe aj bi s j with
   | tok kd tx n e=>
    have D:=Yy aj bi s j kd n tx e aC Eb.out aY;have dm:=hide ((UY aj bi s j au kd n tx e aC aY D.1).symm.trans cG.out);have rp:=hide aY;obtain⟨bz,a5⟩:=D;clear aY;go_wp2_with fail;have hread:=aha aj bi s j wr W aC j8.out;rw[rp.out] at hread;refine cm hread ?_;rintro bO aq ⟨rfl,bx⟩;have rO:=aV.out.trans (bx.mono bK);have bV:=hide rO;have Ar:=hide (ajl bx HOWN.out);have hsz3:w2.heap.size<=aq.heap.size:=rO.size
    go_wp2_with (at_builtin;refine zalcr _ rfl _ _ 78 rfl w2.heap.size 138 a6 TB 4 40 underlying78 ak bL bM bP rfl MK _ _ _ rfl ((Ar.out.alloc _).alloc _) (LD (aq.heap.size+1) 0) 1 1 [LJ kd,LQ tx,LJ n,LJ (j:Int)] rfl rfl ?c1 ?c2 ?c3 ?c4 ?c5 ?_)
    case c1=>
     exact aDc
    case c2=>
     exact alV
    case c3=>unfold maxLen;omega
    case c4=>omega
    case c5=>simp;omega
    intro b0 bn hown' hgrow _;have xN:=adv ((bV.out.alloc hsz3 _).alloc OM _) OM ((Ar.out.alloc _).alloc _) hgrow;have d5:=hide xN;have xa:Hid (bn.ownsRow w2.heap.size 138 4 b0 (au++[Tk.mk kd tx n j]).length (OI (au++[Tk.mk kd tx n j]))):=by
     refine aac ?_;rw[Vs,zalab];exact hown'
    have dI:=QF O8 s e;have dE:=QV O8 s e a5;obtain⟨ha,yr⟩:∃ ha,MH O8 s e=ha:=⟨_,rfl⟩;rw[yr] at dI dE;have hY:=hide yr;clear yr;go_wp2_with fail;have hpast:=WZ s e x O8 bn (by unfold maxLen;omega) a5 (cy.out.later d5.out)
    rw[hY.out] at hpast;refine hpast.mono ?_;rintro hb cM ⟨rfl,rfl⟩;go_wp2
    go_roundw
    case rel=>exact⟨ha,au++[Tk.mk kd tx n j],dE,by simp;omega,rfl,by have:=Lu dm;rw[hY.out] at this;exact this,xa.out,d5.out,d5.out.size⟩
    case measure=>simp[intOf];omega
   | bad er p=>
    have ac:r=.bad er p:=by rw[<-cG.out,Tc aj bi s j au er p aC aY]
    have rp:=hide aY;clear aY;subst ac;go_wp2_with fail;have hread:=aha aj bi s j wr W aC j8.out;rw[rp.out] at hread;refine cm hread ?_;rintro bO aq ⟨b,rfl,D,kj,bx⟩;have q4:=hide D;have bV:=hide (aV.out.trans (bx.mono bK));have hsz3:=zalan bK bx.size;have o':=zalan bK kj;clear D;go_wp2
    go_ret2
    have bT:=Lu cZ;have cV:=Lu bV;refine⟨b,rfl,?_,zalan bT.size o',(bT.trans (cV.mono bT.size)).alloc (zalan bT.size hsz3) _⟩;rw[zalaa aq _ b (zalbv.1 q4.out).1];exact Lu q4
  ·have ac:r=.ok (au++[Tk.mk 6 ⟨#[]⟩ 0 s.size]):=by rw[<-cG.out,UG aj bi s j au aC]
   subst ac
   go_wp2_with (at_builtin;refine zalcr _ rfl _ _ 78 rfl w2.heap.size 138 a6 TB 4 40 underlying78 ak bL bM bP rfl MK _ _ _ rfl (HOWN.out.alloc _) (LD wr.heap.size 0) 1 1 [LJ 6,U7,LJ 0,LJ (s.size:Int)] rfl rfl ?c1 ?c2 ?c3 ?c4 ?c5 ?_)
   case c1=>
    exact aDc
   case c2=>
    exact alV
   case c3=>unfold maxLen;omega
   case c4=>omega
   case c5=>simp;omega
   intro b0 bn hown' hgrow _;have xN:=adv (aV.out.alloc bK _) OM (HOWN.out.alloc _) hgrow;have d5:=hide xN;have xa:Hid (bn.ownsRow w2.heap.size 138 4 b0 (au++[Tk.mk 6 ⟨#[]⟩ 0 s.size]).length (OI (au++[Tk.mk 6 ⟨#[]⟩ 0 s.size]))):=by
    refine aac ?_;rw[Vs,zalab];exact hown'
   go_wp2
   go_ret2
   have bT:=Lu cZ;exact⟨b0,rfl,am2 bT.size xa.out,bT.trans (d5.out.mono bT.size)⟩
inductive Tr where
 | mk (kd:Int) (tx:LW) (n:Int) (kids:List Tr)
def Tr.kd:Tr->Int | .mk k _ _ _=>k
def Tr.tx:Tr->LW | .mk _ t _ _=>t
def Tr.n:Tr->Int | .mk _ _ n _=>n
def Tr.kids:Tr->List Tr | .mk _ _ _ l=>l
inductive PR (α:Type) where
 | ok (x:α) (i:Nat)
 | bad (er:Int) (p:Nat)
 | out
def PR.bind {α β:Type}:PR α->(α->Nat->PR β)->PR β
 | .ok x i,f=>f x i
 | .bad er p,_=>.bad er p
 | .out,_=>.out
abbrev LH:LW:=⟨#[]⟩
abbrev Oo:LW:=⟨#[118,97,114]⟩
abbrev Ov:LW:=⟨#[108,101,116]⟩
abbrev MS:LW:=⟨#[99,111,110,115,116]⟩
abbrev MI:LW:=⟨#[102,117,110,99,116,105,111,110]⟩
abbrev tIf:LW:=⟨#[105,102]⟩
abbrev VE:LW:=⟨#[101,108,115,101]⟩
abbrev QN:LW:=⟨#[119,104,105,108,101]⟩
abbrev QU:LW:=⟨#[119,105,116,104]⟩
abbrev QO:LW:=⟨#[114,101,116,117,114,110]⟩
abbrev Ut:LW:=⟨#[116,104,114,111,119]⟩
abbrev Uu:LW:=⟨#[116,114,121]⟩
abbrev Qv:LW:=⟨#[99,97,116,99,104]⟩
abbrev Ox:LW:=⟨#[102,105,110,97,108,108,121]⟩
abbrev SG:LW:=⟨#[116,121,112,101,111,102]⟩
abbrev SH:LW:=⟨#[100,101,108,101,116,101]⟩
abbrev ajC:LW:=⟨#[116,114,117,101]⟩
abbrev adG:LW:=⟨#[102,97,108,115,101]⟩
abbrev ajD:LW:=⟨#[110,117,108,108]⟩
abbrev adH:LW:=⟨#[117,110,100,101,102,105,110,101,100]⟩
abbrev NZ:LW:=⟨#[40]⟩
abbrev OX:LW:=⟨#[41]⟩
abbrev Nc:LW:=⟨#[123]⟩
abbrev PW:LW:=⟨#[125]⟩
abbrev Nb:LW:=⟨#[59]⟩
abbrev Uw:LW:=⟨#[44]⟩
abbrev XT:LW:=⟨#[58]⟩
abbrev afn:LW:=⟨#[46]⟩
abbrev Xr:LW:=⟨#[61]⟩
abbrev tOr:LW:=⟨#[124,124]⟩
abbrev adI:LW:=⟨#[38,38]⟩
abbrev Yp:LW:=⟨#[61,61,61]⟩
abbrev Yq:LW:=⟨#[60]⟩
abbrev aaH:LW:=⟨#[43]⟩
abbrev abZ:LW:=⟨#[45]⟩
abbrev adJ:LW:=⟨#[42]⟩
abbrev Z8:LW:=⟨#[33]⟩
abbrev Nq:LW:=⟨#[115,116,114,105,99,116]⟩
abbrev Z9:LW:=⟨#[117,115,101,32,115,116,114,105,99,116]⟩
structure Sg where
 tx:LW
 kd:Int
 parts:Int
 str:Int
def YU:List Sg:=[⟨tOr,25,2,2⟩,⟨adI,26,2,3⟩,⟨Yp,27,2,4⟩,⟨Yq,28,2,5⟩,⟨aaH,29,2,6⟩,⟨abZ,30,2,6⟩,⟨adJ,31,2,7⟩,⟨Z8,32,1,8⟩,⟨SG,33,1,8⟩,⟨SH,34,1,8⟩,⟨ajC,19,0,10⟩,⟨adG,20,0,10⟩,⟨ajD,21,0,10⟩,⟨adH,22,0,10⟩]
def hds:List (LW × Int):=[(Oo,2),(Ov,3),(MS,4),(tIf,7),(QN,8),(QU,9),(QO,10),(Ut,11)]
def PG:List (LW × Nat):=[(Oo,0),(Ov,0),(MS,0),(MI,1),(Nc,2),(Nb,3),(tIf,4),(QN,5),(QU,5),(QO,6),(Ut,6),(Uu,7)]
def PV:List (LW × Nat):=[(NZ,0),(Nc,1),(MI,2)]
def Np {β:Type}(l:List (LW × β))(s:LW):Option β:=(l.find? (λe=>decide (s=e.1))).map (·.2)
def Xx (s:LW):Option Sg:=YU.find? (λe=>decide (s=e.tx))
def SA (k:Int)(s:LW):Option Sg:=(Xx s).filter (λe=>e.parts==k)
def Oq (s:LW):Int:=(Np hds s).getD 0
section
variable (l:List Tk)
def MJ (i:Nat):Tk:=l.getD i ⟨6,LH,0,0⟩
def fx (i:Nat):LW:=if (MJ l i).kd==2||(MJ l i).kd==5 then (MJ l i).tx else LH
def Qo {α:Type}(er:Int)(i:Nat):PR α:=.bad er (MJ l i).pl
def MG (s:LW)(i:Nat):PR Unit:=if fx l i=s then .ok () (i+1) else Qo l 3 i
def nameP (i:Nat):PR LW:=if (MJ l i).kd=1 then .ok (MJ l i).tx (i+1) else Qo l 3 i
def MO (f:Nat->Nat->PR Tr)(d i:Nat):PR Tr:=if d=30 then Qo l 4 i else f (d+1) i
def isName (i:Nat):Bool:=(MJ l i).kd==1
def isVal (i:Nat):Bool:=(MJ l i).kd==1||(MJ l i).kd==3||(MJ l i).kd==4||(Np PV (fx l i)).isSome||((Xx (fx l i)).filter (λe=>decide (e.parts<2))).isSome
structure OQ where
 fuel:Nat
 st:Nat->Nat->PR Tr
 vl:Nat->Nat->PR Tr
 pr:Int->Nat->Nat->PR Tr
 sg:Nat->Nat->PR Tr
def asu:OQ:=⟨0,λ_ _=>.out,λ_ _=>.out,λ_ _ _=>.out,λ_ _=>.out⟩
def O5 (shut:LW)(begins:Nat->Bool)(part:Nat->PR Tr):Nat->List Tr->Nat->PR (List Tr)
 | 0,_,_=>.out
 | k+1,au,i=>if au.length=8/\begins i=true then Qo l 4 i else
  (part i).bind λt az=>if fx l az=shut then .ok (au++[t]) (az+1) else
   (MG l Uw az).bind λ_ aX=>O5 shut begins part k (au++[t]) aX
def TP (opn shut:LW)(begins:Nat->Bool)(part:Nat->PR Tr)(k i:Nat):PR (List Tr):=
 (MG l opn i).bind λ_ az=>if fx l az=shut then .ok [] (az+1) else O5 l shut begins part k [] az
def Qg:Tr->Tr
 | .mk kd tx n (.mk a9 ky e1 (.mk bD gl e2 l2::e8)::r)=>.mk kd (if a9=15/\bD=18/\gl=Z9 then Nq else tx) n (.mk a9 ky e1 (.mk bD gl e2 l2::e8)::r)
 | t=>t
def NM (F:OQ)(d:Nat):Nat->List Tr->Nat->PR (List Tr)
 | 0,_,_=>.out
 | k+1,au,i=>if fx l i=PW then .ok au (i+1) else
  (MO l F.st d i).bind λt az=>NM F d k (au++[t]) az
def MV (F:OQ)(d i:Nat):PR Tr:=
 (MG l Nc i).bind λ_ az=>(NM l F d F.fuel [] az).bind λts aX=>.ok (.mk 6 LH 0 ts) aX
def Qw (i:Nat):PR Tr:=(nameP l i).bind λs az=>.ok (.mk 23 s 0 []) az
def Qc (F:OQ)(i:Nat):PR Tr:=(TP l NZ OX (isName l) (Qw l) F.fuel i).bind λts az=>.ok (.mk 40 LH 0 ts) az
def Y1 (F:OQ)(d i:Nat):PR Tr:=MO l F.vl d i
def Rq (F:OQ)(d i:Nat):PR Tr:=
 (nameP l i).bind λs az=>(MG l XT az).bind λ_ aX=>(MO l F.vl d aX).bind λt ca=>.ok (.mk 39 s 0 [t]) ca
def Px (F:OQ)(d i:Nat):PR Tr:=
 (MG l NZ i).bind λ_ az=>(MO l F.vl d az).bind λt aX=>(MG l OX aX).bind λ_ ca=>.ok t ca
def RP (F:OQ)(d i:Nat):PR Tr:=
 (TP l Nc PW (isName l) (Rq l F d) F.fuel i).bind λts az=>.ok (.mk 38 LH 0 ts) az
def PI (F:OQ)(kd:Int)(s:LW)(d i:Nat):PR Tr:=
 (Qc l F i).bind λps az=>(MV l F d az).bind λb aX=>.ok (.mk kd s 0 [ps,Qg b]) aX
def RQ (F:OQ)(d i:Nat):PR Tr:=
 (MG l MI i).bind λ_ az=>if isName l az=true then (nameP l az).bind λs aX=>PI l F 37 s d aX else PI l F 37 LH d az
def VF (F:OQ)(d i:Nat):PR Tr:=
 (MG l MI i).bind λ_ az=>(nameP l az).bind λs aX=>PI l F 5 s d aX
def Qx (F:OQ)(d i:Nat):PR Tr:=
 match Np PV (fx l i) with
 | some 0=>Px l F d i
 | some 1=>RP l F d i
 | some _=>RQ l F d i
 | none=>
  match SA 0 (fx l i) with
  | some s=>.ok (.mk s.kd LH 0 []) (i+1)
  | none=>
   if (MJ l i).kd=1 then .ok (.mk 23 (MJ l i).tx 0 []) (i+1)
   else if (MJ l i).kd=4 then .ok (.mk 18 (MJ l i).tx 0 []) (i+1)
   else if (MJ l i).kd=3 then .ok (.mk 17 LH (MJ l i).n []) (i+1)
   else Qo l 3 i
def Py (F:OQ)(d:Nat):Nat->Tr->Nat->PR Tr
 | 0,_,_=>.out
 | k+1,t,i=>
  if fx l i=afn then (nameP l (i+1)).bind λs az=>Py F d k (.mk 36 s 0 [t]) az
  else if fx l i=NZ then (TP l NZ OX (isVal l) (Y1 l F d) F.fuel i).bind λts az=>Py F d k (.mk 35 LH 0 (t::ts)) az
  else .ok t i
def Rt (F:OQ)(d i:Nat):PR Tr:=(Qx l F d i).bind λt az=>Py l F d F.fuel t az
def QS (F:OQ)(d i:Nat):PR Tr:=
 match SA 1 (fx l i) with
 | some s=>(MO l F.sg d (i+1)).bind λt az=>.ok (.mk s.kd LH 0 [t]) az
 | none=>Rt l F d i
def OY (F:OQ)(least:Int)(d:Nat):Nat->Tr->Nat->PR Tr
 | 0,_,_=>.out
 | k+1,t,i=>
  match SA 2 (fx l i) with
  | none=>.ok t i
  | some s=>if s.str<least then .ok t i else (F.pr (s.str+1) d (i+1)).bind λu az=>OY F least d k (.mk s.kd LH 0 [t,u]) az
def UO (F:OQ)(least:Int)(d i:Nat):PR Tr:=(F.sg d i).bind λt az=>OY l F least d F.fuel t az
def Ru (F:OQ)(d i:Nat):PR Tr:=
 (F.pr 2 d i).bind λt az=>if fx l az=Xr then
   (if t.kd=23\/t.kd=36 then (MO l F.vl d (az+1)).bind λv aX=>.ok (.mk 24 LH 0 [t,v]) aX else Qo l 1 i)
  else .ok t az
def UA (F:OQ)(d i:Nat):PR Tr:=
 (nameP l (i+1)).bind λs az=>
  if Oq (MJ l i).tx=4/\¬ fx l az=Xr then Qo l 3 az
  else if fx l az=Xr then (MO l F.vl d (az+1)).bind λv aX=>(MG l Nb aX).bind λ_ ca=>.ok (.mk (Oq (MJ l i).tx) s 0 [v]) ca
  else (MG l Nb az).bind λ_ aX=>.ok (.mk (Oq (MJ l i).tx) s 0 []) aX
def Pj (F:OQ)(d i:Nat):PR Tr:=
 (Px l F d (i+1)).bind λv az=>(MO l F.st d az).bind λs aX=>.ok (.mk (Oq (MJ l i).tx) LH 0 [v,s]) aX
def Qp (F:OQ)(d i:Nat):PR Tr:=
 (Px l F d (i+1)).bind λv az=>(MO l F.st d az).bind λs aX=>
  if fx l aX=VE then (MO l F.st d (aX+1)).bind λe9 ca=>.ok (.mk (Oq (MJ l i).tx) LH 0 [v,s,e9]) ca
  else .ok (.mk (Oq (MJ l i).tx) LH 0 [v,s]) aX
def Qm (F:OQ)(d i:Nat):PR Tr:=
 if Oq (MJ l i).tx=11\/¬ fx l (i+1)=Nb then (MO l F.vl d (i+1)).bind λv az=>(MG l Nb az).bind λ_ aX=>.ok (.mk (Oq (MJ l i).tx) LH 0 [v]) aX
 else (MG l Nb (i+1)).bind λ_ aX=>.ok (.mk (Oq (MJ l i).tx) LH 0 []) aX
def QX (F:OQ)(d i:Nat):PR (List Tr):=
 if fx l i=Qv then (MG l NZ (i+1)).bind λ_ az=>(nameP l az).bind λs aX=>(MG l OX aX).bind λ_ ca=>(MV l F d ca).bind λb gi=>.ok [.mk 13 s 0 [b]] gi
 else .ok [] i
def Oh (F:OQ)(d i:Nat):PR (List Tr):=
 if fx l i=Ox then (MV l F d (i+1)).bind λb az=>.ok [.mk 14 LH 0 [b]] az
 else .ok [] i
def Qy (F:OQ)(d i:Nat):PR Tr:=
 (MG l Uu i).bind λ_ a6=>(MV l F d a6).bind λb az=>(QX l F d az).bind λc aX=>(Oh l F d aX).bind λf ca=>
  if c.length+f.length=0 then Qo l 3 ca else .ok (.mk 12 LH 0 (b::(c++f))) ca
def VG (F:OQ)(d i:Nat):PR Tr:=(MO l F.vl d i).bind λv az=>(MG l Nb az).bind λ_ aX=>.ok (.mk 15 LH 0 [v]) aX
def VH (F:OQ)(d:Nat):Nat->Nat->PR Tr
 | 0=>UA l F d
 | 1=>VF l F d
 | 2=>MV l F d
 | 3=>λi=>(MG l Nb i).bind λ_ az=>.ok (.mk 16 LH 0 []) az
 | 4=>Qp l F d
 | 5=>Pj l F d
 | 6=>Qm l F d
 | _=>Qy l F d
def O1 (F:OQ)(d i:Nat):PR Tr:=
 match Np PG (fx l i) with
 | some q=>VH l F d q i
 | none=>VG l F d i
def fns:Nat->OQ
 | 0=>asu
 | k+1=>⟨k,O1 l (fns k),Ru l (fns k),UO l (fns k),QS l (fns k)⟩
def Oa (F:OQ):Nat->List Tr->Nat->PR (List Tr)
 | 0,_,_=>.out
 | k+1,au,i=>if (MJ l i).kd=6 then .ok au i else
  (MO l F.st 0 i).bind λt az=>Oa F k (au++[t]) az
def PZ (F:OQ):PR Tr:=(Oa l F F.fuel [] 0).bind λts i=>.ok (Qg (.mk 1 LH 0 ts)) i
end
mutual
def Tr.count:Tr->Nat
 | .mk _ _ _ ks=>1+Tr.counts ks
def Tr.counts:List Tr->Nat
 | []=>0
 | t::ts=>t.count+Tr.counts ts
end
def Nx {α:Type}(q:Prop)(ah a:Nat)(r:PR α):Prop:=(q->r≠.out)/\∀ x j,r=.ok x j->a<=j/\j<ah
section
variable {α:Type} {q:Prop}
include α q
def Nx.ok {ah a i:Nat}{x:α}(E:a<=i)(O:i<ah):Nx q ah a (.ok x i):=
 ⟨λ_ h=>by (cases h),λ_ _ h=>by cases h;exact⟨E,O⟩⟩
def Nx.bad {ah a:Nat}{er:Int}{p:Nat}:Nx (α:=α) q ah a (.bad er p):=
 ⟨λ_ h=>by (cases h),λ_ _ h=>by (cases h)⟩
def Nx.Qo {ah a:Nat}{l:List Tk}{er:Int}{i:Nat}:Nx (α:=α) q ah a (Qo l er i):=Nx.bad
end
def Nx.bind {α β:Type}{q:Prop}{ah a b:Nat}{r:PR α}{f:α->Nat->PR β}(h:Nx q ah a r)(an:∀ x j,a<=j->j<ah->Nx q ah b (f x j)):Nx q ah b (r.bind f):=by
 cases r with
 | ok x j=>exact an x j (h.2 x j rfl).1 (h.2 x j rfl).2
 | bad er p=>exact Nx.bad
 | out=>exact⟨λac=>absurd rfl (h.1 ac),λ_ _ h=>by cases h⟩
def Nx.imp {α:Type}{q q':Prop}{ah a:Nat}{r:PR α}(h:Nx q ah a r)(ac:q'->q):Nx q' ah a r:=⟨λx=>h.1 (ac x),h.2⟩
def Nx.le {α:Type}{q:Prop}{ah a b:Nat}{r:PR α}(h:Nx q ah a r)(D:b<=a):Nx q ah b r:=⟨h.1,λx j e=>⟨zalan D (h.2 x j e).1,(h.2 x j e).2⟩⟩
def Ends (l:List Tk):Prop:=∀ i,i<l.length->((MJ l i).kd=6↔i+1=l.length)
section
variable {l:List Tk} (a3:Ends l)
include a3
def Q8 {i:Nat}(ak:i<l.length)(h:(MJ l i).kd≠6):i+1<l.length:=by
 have:=mt (a3 i ak).2 h;omega
def Sj {i:Nat}{s:LW}(ak:i<l.length)(h:fx l i=s)(W:s≠LH):i+1<l.length:=by
 refine Q8 a3 ak λh6=>W ?_;rw[<-h,fx,h6];rfl
def afr {β:Type}{ks:List (LW × β)}{x:β}{i:Nat}(ak:i<l.length)(h:Np ks (fx l i)=some x)(aJ:Np ks LH=none):i+1<l.length:=by
 refine Sj a3 ak rfl λE=>?_;rw[E,aJ] at h;cases h
def Y2 {k:Int}{x:Sg}{i:Nat}(ak:i<l.length)(h:SA k (fx l i)=some x):i+1<l.length:=by
 refine Sj a3 ak rfl λE=>?_;rw[E] at h;have:SA k LH=none:=by
  have:Xx LH=none:=by decide
  simp[SA,this]
 rw[this] at h;cases h
def OC {q:Prop}{s:LW}{i:Nat}(ak:i<l.length)(W:s≠LH):Nx q l.length (i+1) (MG l s i):=by
 unfold MG
 split
 ·exact Nx.ok Nh (Sj a3 ak ‹_› W)
 ·exact Nx.Qo
def Sl {q:Prop}{i:Nat}(ak:i<l.length):Nx q l.length (i+1) (nameP l i):=by
 unfold nameP
 split
 ·rename_i h
  exact Nx.ok Nh (Q8 a3 ak (by rw[h];decide))
 ·exact Nx.Qo
omit a3 in
theorem Pm {q:Prop}{f:Nat->Nat->PR Tr}{d i:Nat}(h:Nx q l.length (i+1) (f (d+1) i)):Nx q l.length (i+1) (MO l f d i):=by
 unfold MO
 split
 ·exact Nx.Qo
 ·exact h
def afs {q:Prop}{shut:LW}{begins:Nat->Bool}{part:Nat->PR Tr}{I:Nat}(W:shut≠LH)(ae:∀ i,I<=i->i<l.length->Nx q l.length (i+1) (part i)) :
  ∀ k au i,I<=i->i<l.length->Nx (q/\l.length - i<k) l.length (i+1) (O5 l shut begins part k au i):=by
 intro k
 induction k with
 | zero=>intro au i _ _;exact⟨λh=>absurd h.2 LM,λ_ _ h=>by (cases h)⟩
 | succ k aU=>
  intro au i cz ak;unfold O5
  split
  ·exact Nx.Qo
  ·refine Nx.bind ((ae i cz ak).imp And.left) λt j E O=>?_
   split
   ·exact Nx.ok LM (Sj a3 O ‹_› W)
   ·refine Nx.bind (OC a3 O MK) λ_ a8 ao aM=>?_;exact((aU _ a8 LM aM).le LM).imp λh=>⟨h.1,by omega⟩
def Yr {q:Prop}{opn shut:LW}{begins:Nat->Bool}{part:Nat->PR Tr}{k i:Nat}(ak:i<l.length)(ay:opn≠LH)(W:shut≠LH)(ac:q->l.length - i<=k)(ae:∀ j,i<j->j<l.length->Nx q l.length (j+1) (part j)) :
  Nx q l.length (i+1) (TP l opn shut begins part k i):=by
 unfold TP;refine Nx.bind (OC a3 ak ay) λ_ j E O=>?_
 split
 ·exact Nx.ok LM (Sj a3 O ‹_› W)
 ·exact((afs a3 W (I:=i+1) (λj ao aM=>ae j ao aM) k [] j E O).le LM).imp λh=>⟨h,by have:=ac h;omega⟩
structure VW (l:List Tk)(k:Nat)(F:OQ):Prop where
 fuel:F.fuel=k - 1
 st:∀ d i,i<l.length->Nx (8 * (l.length - i)+3<k) l.length (i+1) (F.st d i)
 vl:∀ d i,i<l.length->Nx (8 * (l.length - i)+2<k) l.length (i+1) (F.vl d i)
 pr:∀ b d i,i<l.length->Nx (8 * (l.length - i)+1<k) l.length (i+1) (F.pr b d i)
 sg:∀ d i,i<l.length->Nx (8 * (l.length - i)<k) l.length (i+1) (F.sg d i)
variable {k:Nat} {F:OQ} (ai:VW l k F)
include ai
def adP {q:Prop}{I:Nat}(ac:q->8 * (l.length - I)<=k+4):∀ n d au i,I<i->i<l.length->Nx (q/\l.length - i<n) l.length (i+1) (NM l F d n au i):=by
 intro n
 induction n with
 | zero=>intro d au i _ _;exact⟨λh=>absurd h.2 LM,λ_ _ h=>by (cases h)⟩
 | succ n aU=>
  intro d au i cz ak;unfold NM
  split
  ·exact Nx.ok LM (Sj a3 ak ‹_› MK)
  ·refine Nx.bind (Pm ((ai.st (d+1) i ak).imp λh=>?_)) λt j E O=>((aU d _ j LM O).le LM).imp λh=>⟨h.1,by omega⟩;have:=ac h.1;omega
def TT {q:Prop}{d i:Nat}(ak:i<l.length)(ac:q->8 * (l.length - i)<=k+4):Nx q l.length (i+1) (MV l F d i):=by
 unfold MV;refine Nx.bind (OC a3 ak MK) λ_ j E O=>?_;refine Nx.bind (((adP a3 ai ac F.fuel d [] j LM O).le (b:=j) LM).imp λh=>⟨h,?_⟩) λts a8 ao aM=>Nx.ok LM aM;have:=ac h;rw[ai.fuel];omega
omit ai in
theorem Y3 {q:Prop}{i:Nat}(ak:i<l.length):Nx q l.length (i+1) (Qw l i):=by
 unfold Qw;exact Nx.bind (Sl a3 ak) λs j E O=>Nx.ok E O
def aic {q:Prop}{i:Nat}(ak:i<l.length)(ac:q->8 * (l.length - i)<=k+4):Nx q l.length (i+1) (Qc l F i):=by
 unfold Qc;refine Nx.bind (Yr a3 ak MK MK (λh=>?_) λj _ h=>Y3 a3 h) λts j E O=>Nx.ok E O;have:=ac h;rw[ai.fuel];omega
omit a3 in
theorem aao {q:Prop}{d i:Nat}(ak:i<l.length)(ac:q->8 * (l.length - i)+2<k):Nx q l.length (i+1) (Y1 l F d i):=Pm ((ai.vl _ _ ak).imp ac)
section
variable {q:Prop} {d i:Nat} (ak:i<l.length) (ac:q->8 * (l.length - i)<=k+4)
include q d i ak ac
def aaK:Nx q l.length (i+1) (Rq l F d i):=by
 unfold Rq;refine Nx.bind (Sl a3 ak) λs j E O=>?_;refine Nx.bind (OC a3 O MK) λ_ a8 ao aM=>?_;exact Nx.bind (Pm ((ai.vl _ _ aM).imp λh=>by have:=ac h;omega)) λt eI bw h6=>Nx.ok LM h6
def Xt:Nx q l.length (i+1) (Px l F d i):=by
 unfold Px;refine Nx.bind (OC a3 ak MK) λ_ a8 ao aM=>?_;refine Nx.bind (Pm ((ai.vl _ _ aM).imp λh=>by have:=ac h;omega)) λt eI bw h6=>?_
 exact Nx.bind (OC a3 h6 MK) λ_ lQ h7 dp=>Nx.ok LM dp
def aie:Nx q l.length (i+1) (RP l F d i):=by
 unfold RP;refine Nx.bind (Yr a3 ak MK MK (λh=>?_) λj E h=>aaK a3 ai h λa2=>by have:=ac a2;omega) λts j E O=>Nx.ok E O
 have:=ac h;rw[ai.fuel];omega
end
def WV {q:Prop}{kd:Int}{s:LW}{d i:Nat}(ak:i<l.length)(ac:q->8 * (l.length - i)<=k+4):Nx q l.length (i+1) (PI l F kd s d i):=by
 unfold PI;refine Nx.bind (aic a3 ai ak ac) λps j E O=>?_;exact Nx.bind (TT a3 ai O λh=>by have:=ac h;omega) λb a8 ao aM=>Nx.ok LM aM
section
variable {q:Prop} {d i:Nat} (ak:i<l.length) (ac:q->8 * (l.length - i)<=k+4)
include q d i ak ac
def aif:Nx q l.length (i+1) (RQ l F d i):=by
 unfold RQ;refine Nx.bind (OC a3 ak MK) λ_ j E O=>?_
 split
 ·refine Nx.bind (Sl a3 O) λs a8 ao aM=>?_;exact(WV a3 ai aM λh=>by have:=ac h;omega).le LM
 ·exact(WV a3 ai O λh=>by have:=ac h;omega).le LM
def anD:Nx q l.length (i+1) (VF l F d i):=by
 unfold VF;refine Nx.bind (OC a3 ak MK) λ_ j E O=>?_;refine Nx.bind (Sl a3 O) λs a8 ao aM=>?_;exact(WV a3 ai aM λh=>by have:=ac h;omega).le LM
def ak8:Nx q l.length (i+1) (Qx l F d i):=by
 unfold Qx
 split
 ·exact Xt a3 ai ak ac
 ·exact aie a3 ai ak ac
 ·exact aif a3 ai ak ac
 ·split
  ·rename_i s W
   exact Nx.ok Nh (Y2 a3 ak W)
  ·split
   ·exact ak9
   ·split
    ·exact ak9
    ·split
     ·exact ak9
     ·exact Nx.Qo
end
def adQ {q:Prop}{I:Nat}(ac:q->8 * (l.length - I)<=k+4):∀ n d t i,I<i->i<l.length->Nx (q/\l.length - i<n) l.length i (Py l F d n t i):=by
 intro n
 induction n with
 | zero=>intro d au i _ _;exact⟨λh=>absurd h.2 LM,λ_ _ h=>by (cases h)⟩
 | succ n aU=>
  intro d t i cz ak;unfold Py
  split
  ·exact axN
  ·split
   ·refine Nx.bind (Yr a3 ak MK MK (λh=>?_) λj E h=>aao ai h λa2=>by have:=ac a2.1;omega) λts j E O=>((aU d _ j LM O).le LM).imp λh=>⟨h.1,by omega⟩
    have:=ac h.1;rw[ai.fuel];omega
   ·exact Nx.ok Nh ak
def ala {q:Prop}{d i:Nat}(ak:i<l.length)(ac:q->8 * (l.length - i)<=k+4):Nx q l.length (i+1) (Rt l F d i):=by
 unfold Rt;refine Nx.bind (ak8 a3 ai ak ac) λt j E O=>((adQ a3 ai ac F.fuel d t j LM O).le LM).imp λh=>⟨h,?_⟩;have:=ac h;rw[ai.fuel];omega
def aii {d i:Nat}(ak:i<l.length):Nx (8 * (l.length - i)<k+1) l.length (i+1) (QS l F d i):=by
 unfold QS
 split
 ·exact axO
 ·exact ala a3 ai ak λh=>by omega
def aft {q:Prop}{I:Nat}(ac:q->8 * (l.length - I)<=k+4):∀ n b d t i,I<i->i<l.length->Nx (q/\l.length - i<n) l.length i (OY l F b d n t i):=by
 intro n
 induction n with
 | zero=>intro b d au i _ _;exact⟨λh=>absurd h.2 LM,λ_ _ h=>by (cases h)⟩
 | succ n aU=>
  intro b d t i cz ak;unfold OY
  split
  ·exact Nx.ok Nh ak
  ·rename_i s W
   have aJ:=Y2 a3 ak W
   split
   ·exact Nx.ok Nh ak
   ·refine Nx.bind ((ai.pr _ _ _ aJ).imp λh=>?_) λu j E O=>((aU b d _ j LM O).le LM).imp λh=>⟨h.1,by omega⟩;have:=ac h.1;omega
def anE {b:Int}{d i:Nat}(ak:i<l.length):Nx (8 * (l.length - i)+1<k+1) l.length (i+1) (UO l F b d i):=by
 unfold UO;refine Nx.bind ((ai.sg _ _ ak).imp λh=>by omega) λt j E O=>((aft a3 ai (I:=i) (q:=8 * (l.length - i)+1<k+1) (λh=>by omega) F.fuel b d t j LM O).le LM).imp λh=>⟨h,?_⟩;rw[ai.fuel];omega
def acJ {d i:Nat}(ak:i<l.length):Nx (8 * (l.length - i)+2<k+1) l.length (i+1) (Ru l F d i):=by
 unfold Ru;refine Nx.bind ((ai.pr _ _ _ ak).imp λh=>by omega) λt j E O=>?_
 split
 ·have aJ:=Sj a3 O ‹_› MK
  split
  ·exact Nx.bind (Pm ((ai.vl _ _ aJ).imp λh=>by omega)) λv a8 ao aM=>Nx.ok LM aM
  ·exact Nx.Qo
 ·exact Nx.ok E O
def afu {q:Prop}{d i:Nat}(ak:i<l.length)(ac:q->8 * (l.length - i)+2<k):Nx q l.length (i+1) (VG l F d i):=by
 unfold VG;refine Nx.bind (Pm ((ai.vl _ _ ak).imp ac)) λv j E O=>?_;exact Nx.bind (OC a3 O MK) λ_ a8 ao aM=>Nx.ok LM aM
section
variable {q:Prop} {d i:Nat} (ak:i+1<l.length) (ac:q->8 * (l.length - i)<=k+4)
include q d i ak ac
def afv:Nx q l.length (i+1) (UA l F d i):=by
 unfold UA;refine Nx.bind (Sl a3 ak) λs j E O=>?_
 split
 ·exact Nx.Qo
 ·split
  ·have aJ:=Sj a3 O ‹_› MK;refine Nx.bind (Pm ((ai.vl _ _ aJ).imp λh=>by have:=ac h;omega)) λv a8 ao aM=>?_
   exact Nx.bind (OC a3 aM MK) λ_ eI bw h6=>Nx.ok LM h6
  ·exact Nx.bind (OC a3 O MK) λ_ eI bw h6=>Nx.ok LM h6
def aaL:Nx q l.length (i+1) (Pj l F d i):=by
 unfold Pj;refine Nx.bind (Xt a3 ai ak λh=>by have:=ac h;omega) λv j E O=>?_
 exact Nx.bind (Pm ((ai.st _ _ O).imp λh=>by have:=ac h;omega)) λv a8 ao aM=>Nx.ok LM aM
def aaM:Nx q l.length (i+1) (Qp l F d i):=by
 unfold Qp;refine Nx.bind (Xt a3 ai ak λh=>by have:=ac h;omega) λv j E O=>?_
 refine Nx.bind (Pm ((ai.st _ _ O).imp λh=>by have:=ac h;omega)) λv a8 ao aM=>?_
 split
 ·have aJ:=Sj a3 aM ‹_› MK;exact Nx.bind (Pm ((ai.st _ _ aJ).imp λh=>by have:=ac h;omega)) λv eI bw h6=>Nx.ok LM h6
 ·exact Nx.ok LM aM
def aaN:Nx q l.length (i+1) (Qm l F d i):=by
 unfold Qm
 split
 ·refine Nx.bind (Pm ((ai.vl _ _ ak).imp λh=>by have:=ac h;omega)) λv j E O=>?_
  exact Nx.bind (OC a3 O MK) λ_ a8 ao aM=>Nx.ok LM aM
 ·exact Nx.bind (OC a3 ak MK) λ_ a8 ao aM=>Nx.ok LM aM
end
section
variable {q:Prop} {d i:Nat} (ak:i<l.length) (ac:q->8 * (l.length - i)<=k+4)
include q d i ak ac
def alb:Nx q l.length i (QX l F d i):=by
 unfold QX
 split
 ·have aJ:=Sj a3 ak ‹_› MK;refine Nx.bind (OC a3 aJ MK) λ_ bH E O=>?_;refine Nx.bind (Sl a3 O) λ_ a8 ao aM=>?_;refine Nx.bind (OC a3 aM MK) λ_ eI bw h6=>?_;exact Nx.bind (TT a3 ai h6 λh=>by have:=ac h;omega) λb lQ h7 dp=>Nx.ok LM dp
 ·exact Nx.ok Nh ak
def afw:Nx q l.length i (Oh l F d i):=by
 unfold Oh
 split
 ·have aJ:=Sj a3 ak ‹_› MK;exact Nx.bind (TT a3 ai aJ λh=>by have:=ac h;omega) λb lQ h7 dp=>Nx.ok LM dp
 ·exact Nx.ok Nh ak
def ZC:Nx q l.length (i+1) (Qy l F d i):=by
 unfold Qy;refine Nx.bind (OC a3 ak MK) λ_ iW h aJ=>?_;refine Nx.bind (TT a3 ai aJ λh=>by have:=ac h;omega) λb bH E O=>?_
 refine Nx.bind (alb a3 ai O λh=>by have:=ac h;omega) λc a8 ao aM=>?_
 refine Nx.bind (afw a3 ai aM λh=>by have:=ac h;omega) λf eI bw h6=>?_
 split
 ·exact Nx.Qo
 ·exact Nx.ok LM h6
end
def anF {q:Prop}{d i c:Nat}(ak:i+1<l.length)(ac:q->8 * (l.length - i)<=k+4):Nx q l.length (i+1) (VH l F d c i):=by
 unfold VH
 split
 ·exact afv a3 ai ak ac
 ·exact anD a3 ai LM ac
 ·exact TT a3 ai LM ac
 ·exact Nx.bind (OC a3 LM MK) λ_ j E O=>Nx.ok E O
 ·exact aaM a3 ai ak ac
 ·exact aaL a3 ai ak ac
 ·exact aaN a3 ai ak ac
 ·exact ZC a3 ai LM ac
def ab1 {d i:Nat}(ak:i<l.length):Nx (8 * (l.length - i)+3<k+1) l.length (i+1) (O1 l F d i):=by
 unfold O1
 split
 ·rename_i c am
  exact anF a3 ai (afr a3 ak am MK) λh=>by omega
 ·exact afu a3 ai ak λh=>by omega
omit ai in
theorem aij:∀ k,VW l k (fns l k):=by
 intro k
 induction k with
 | zero=>exact⟨rfl,λ_ _ _=>⟨λh=>absurd h LM,λ_ _ h=>by (cases h)⟩,λ_ _ _=>⟨λh=>absurd h LM,λ_ _ h=>by (cases h)⟩,λ_ _ _ _=>⟨λh=>absurd h LM,λ_ _ h=>by (cases h)⟩,λ_ _ _=>⟨λh=>absurd h LM,λ_ _ h=>by (cases h)⟩⟩
 | succ k aU=>exact⟨rfl,λ_ _ ak=>ab1 a3 aU ak,λ_ _ ak=>acJ a3 aU ak,λ_ _ _ ak=>anE a3 aU ak,λ_ _ ak=>aii a3 aU ak⟩
end
def binds {α β:Type}{r:PR α}{f:α->Nat->PR β}{y:β}{j:Nat}(h:r.bind f=.ok y j):∃ x i,r=.ok x i/\f x i=.ok y j:=by
 cases r with
 | ok x i=>exact⟨x,i,rfl,h⟩
 | bad er p=>cases h
 | out=>cases h
def count_mk (kd:Int)(tx:LW)(n:Int)(ks:List Tr):(Tr.mk kd tx n ks).count=1+Tr.counts ks:=by rw[Tr.count]
def MQ:Tr.counts []=0:=by rw[Tr.counts]
def L6 (t:Tr)(ts:List Tr):Tr.counts (t::ts)=t.count+Tr.counts ts:=by rw[Tr.counts]
def Rw:∀ (ts ci:List Tr),Tr.counts (ts++ci)=Tr.counts ts+Tr.counts ci
 | [],ci=>by rw[zalbq,MQ,zalda]
 | t::ts,ci=>by rw[zalcq,L6,L6,Rw ts ci,zalen]
def aaI (t:Tr):(Qg t).count=t.count:=by
 unfold Qg
 split
 ·rw[count_mk,count_mk]
 ·rfl
section
variable {l:List Tk}
def N8 {s:LW}{i j:Nat}{x:Unit}(h:MG l s i=.ok x j):j=i+1:=by
 unfold MG at h
 split at h
 ·
  cases h;rfl
 ·
  cases h
def Q7 {s:LW}{i j:Nat}(h:nameP l i=.ok s j):j=i+1:=by
 unfold nameP at h
 split at h
 ·
  cases h;rfl
 ·
  cases h
def Cb (i:Nat)(r:PR Tr):Prop:=∀ t j,r=.ok t j->t.count+3 * i<=3 * j
def TA {f:Nat->Nat->PR Tr}{d i:Nat}(h:Cb i (f (d+1) i)):Cb i (MO l f d i):=by
 unfold MO
 split
 ·intro t j e;cases e
 ·exact h
def afo {shut:LW}{begins:Nat->Bool}{part:Nat->PR Tr}(ae:∀ i,Cb i (part i)):∀ k au i t j,O5 l shut begins part k au i=.ok t j->Tr.counts t+3 * i<=Tr.counts au+3 * j:=by
 intro k
 induction k with
 | zero=>intro au i t j h;cases h
 | succ k aU=>
  intro au i t j h;unfold O5 at h
  split at h
  ·
   cases h
  ·obtain⟨u,az,E,h⟩:=binds h;have:=ae i u az E
   split at h
   ·
    cases h;rw[Rw,L6,MQ];omega
   ·obtain⟨_,aX,O,h⟩:=binds h;have ao:=N8 O;have aM:=aU _ _ _ _ h;rw[Rw,L6,MQ] at aM;omega
def adK {opn shut:LW}{begins:Nat->Bool}{part:Nat->PR Tr}(ae:∀ i,Cb i (part i)){k i j:Nat}{t:List Tr}(h:TP l opn shut begins part k i=.ok t j):Tr.counts t+3 * i+3<=3 * j:=by
 unfold TP at h;obtain⟨_,az,E,h⟩:=binds h;have O:=N8 E
 split at h
 ·
  cases h;rw[MQ];omega
 ·have:=afo ae _ _ _ _ _ h;rw[MQ] at this;omega
structure FCb (F:OQ):Prop where
 st:∀ d i,Cb i (F.st d i)
 vl:∀ d i,Cb i (F.vl d i)
 pr:∀ b d i,Cb i (F.pr b d i)
 sg:∀ d i,Cb i (F.sg d i)
variable {F:OQ} (ai:FCb F)
include ai
def adL {d:Nat}:∀ k au i t j,NM l F d k au i=.ok t j->Tr.counts t+3 * i+3<=Tr.counts au+3 * j:=by
 intro k
 induction k with
 | zero=>intro au i t j h;cases h
 | succ k aU=>
  intro au i t j h;unfold NM at h;exact axL
def WU {d i j:Nat}{t:Tr}(h:MV l F d i=.ok t j):t.count+3 * i+5<=3 * j:=by
 unfold MV at h;obtain⟨_,az,E,h⟩:=binds h;obtain⟨ts,aX,O,h⟩:=binds h;cases h;have ao:=N8 E;have aM:=adL ai _ _ _ _ _ O;rw[MQ] at aM;rw[count_mk];omega
omit ai in
theorem anx (i:Nat):Cb i (Qw l i):=by
 intro t j h;unfold Qw at h;obtain⟨_,az,E,h⟩:=binds h;cases h;have:=Q7 E;rw[count_mk,MQ];omega
omit ai in
theorem ak3 {i j:Nat}{t:Tr}(h:Qc l F i=.ok t j):t.count+3 * i+2<=3 * j:=by
 unfold Qc at h;obtain⟨ts,az,E,h⟩:=binds h;cases h;have:=adK anx E;rw[count_mk];omega
section
variable (d i:Nat)
include d i
def atl:Cb i (Y1 l F d i):=TA (ai.vl _ _)
def apX:Cb i (Rq l F d i):=by
 intro t j h;unfold Rq at h;obtain⟨_,az,E,h⟩:=binds h;obtain⟨_,aX,O,h⟩:=binds h;obtain⟨u,ca,ao,h⟩:=binds h;cases h;have aW:=Q7 E;have a4:=N8 O;have bO:=TA (l:=l) (ai.vl _ _) u _ ao;rw[count_mk,L6,MQ];omega
def aaJ:Cb i (Px l F d i):=by
 have A{G}(h:G:=by
 cases h;have aW:=N8 E;have a4:=TA (l:=l) (ai.vl _ _) _ _ O;have bO:=N8 ao;omega):=LG h;exact atn
def ak4:Cb i (RP l F d i):=by
 intro t j h;unfold RP at h;obtain⟨ts,az,E,h⟩:=binds h;cases h;have:=adK (apX ai d) E;rw[count_mk];omega
end
def adM {kd:Int}{s:LW}{d i j:Nat}{t:Tr}(h:PI l F kd s d i=.ok t j):t.count+3 * i<=3 * j:=by
 unfold PI at h;obtain⟨ps,az,E,h⟩:=binds h;obtain⟨b,aX,O,h⟩:=binds h;cases h;have aW:=ak3 E;have a4:=WU ai O;rw[count_mk,L6,L6,MQ,aaI];omega
def ak5 (d i:Nat):Cb i (RQ l F d i):=by
 intro t j h;unfold RQ at h;obtain⟨_,az,E,h⟩:=binds h;have aW:=N8 E
 split at h
 ·obtain⟨_,aX,O,h⟩:=binds h;have a4:=Q7 O;have:=adM ai h;omega
 ·have:=adM ai h;omega
def apY (d i:Nat):Cb i (VF l F d i):=by
 intro t j h;unfold VF at h;obtain⟨_,az,E,h⟩:=binds h;obtain⟨_,aX,O,h⟩:=binds h;have aW:=N8 E;have a4:=Q7 O;have:=adM ai h;omega
def anz (d i:Nat):Cb i (Qx l F d i):=by
 unfold Qx
 split
 ·exact aaJ ai d i
 ·exact ak4 ai d i
 ·exact ak5 ai d i
 ·split
  ·intro t j h;cases h;rw[count_mk,MQ];omega
  ·split
   ·intro t j h;cases h;rw[count_mk,MQ];omega
   ·split
    ·intro t j h;cases h;rw[count_mk,MQ];omega
    ·split
     ·intro t j h;cases h;rw[count_mk,MQ];omega
     ·intro t j h;cases h
def adN {d:Nat}:∀ k u i t j,Py l F d k u i=.ok t j->t.count+3 * i<=u.count+3 * j:=by
 intro k
 induction k with
 | zero=>intro u i t j h;cases h
 | succ k aU=>
  intro u i t j h;unfold Py at h
  split at h
  ·obtain⟨s,az,E,h⟩:=binds h;have aW:=Q7 E;have a4:=aU _ _ _ _ h;rw[count_mk,L6,MQ] at a4;omega
  ·split at h
   ·obtain⟨ts,az,E,h⟩:=binds h;have aW:=adK (atl ai d) E;have a4:=aU _ _ _ _ h;rw[count_mk,L6] at a4;omega
   ·
    cases h;omega
def anA (d i:Nat):Cb i (Rt l F d i):=by
 intro t j h;unfold Rt at h;obtain⟨u,az,E,h⟩:=binds h;have aW:=anz ai d i u az E;have a4:=adN ai _ _ _ _ _ h;omega
def ak6 (d i:Nat):Cb i (QS l F d i):=by
 unfold QS
 split
 ·intro t j h;obtain⟨u,az,E,h⟩:=binds h;cases h;have:=TA (l:=l) (ai.sg _ _) u _ E;rw[count_mk,L6,MQ];omega
 ·exact anA ai d i
def afp {b:Int}{d:Nat}:∀ k u i t j,OY l F b d k u i=.ok t j->t.count+3 * i<=u.count+3 * j:=by
 intro k
 induction k with
 | zero=>intro u i t j h;cases h
 | succ k aU=>
  intro u i t j h;unfold OY at h
  split at h
  ·
   cases h;omega
  ·split at h
   ·
    cases h;omega
   ·obtain⟨v,az,E,h⟩:=binds h;have aW:=ai.pr _ _ _ v az E;have a4:=aU _ _ _ _ h;rw[count_mk,L6,L6,MQ] at a4;omega
def apZ (b:Int)(d i:Nat):Cb i (UO l F b d i):=by
 intro t j h;unfold UO at h;obtain⟨u,az,E,h⟩:=binds h;have aW:=ai.sg _ _ u az E;have a4:=afp ai _ _ _ _ _ h;omega
def anB (d i:Nat):Cb i (Ru l F d i):=by
 have A{G}(h:G:=by
 split at h
 ·split at h
  ·obtain⟨v,aX,O,h⟩:=binds h;cases h;have a4:=TA (l:=l) (ai.vl _ _) v _ O;rw[count_mk,L6,L6,MQ];omega
  ·
   cases h
 ·
  cases h;exact aW):=LG h;exact ato
def ap0 (d q i:Nat):Cb i (VH l F d q i):=by
 intro t j h;unfold VH at h
 split at h
 ·unfold UA at h;obtain⟨s,az,E,h⟩:=binds h;have aW:=Q7 E
  split at h
  ·
   cases h
  ·split at h
   ·obtain⟨v,aX,O,h⟩:=binds h;obtain⟨_,ca,ao,h⟩:=binds h;cases h;have a4:=TA (l:=l) (ai.vl _ _) v _ O;have bO:=N8 ao;rw[count_mk,L6,MQ];omega
   ·obtain⟨_,ca,ao,h⟩:=binds h;cases h;have bO:=N8 ao;rw[count_mk,MQ];omega
 ·exact apY ai d i t j h
 ·have:=WU ai h;omega
 ·obtain⟨_,ca,ao,h⟩:=binds h;cases h;have bO:=N8 ao;rw[count_mk,MQ];omega
 ·unfold Qp at h;have A{G}(h:G:=by
  have aW:=aaJ ai d _ v az E;have a4:=TA (l:=l) (ai.st _ _) s _ O
  split at h
  ·obtain⟨e9,ca,ao,h⟩:=binds h;cases h;have bO:=TA (l:=l) (ai.st _ _) e9 _ ao;rw[count_mk,L6,L6,L6,MQ];omega
  ·
   cases h;rw[count_mk,L6,L6,MQ];omega):=LG h;exact ak7
 ·unfold Pj at h;have A{G}(h:G:=by
  cases h;have aW:=aaJ ai d _ v az E;have a4:=TA (l:=l) (ai.st _ _) s _ O;rw[count_mk,L6,L6,MQ];omega):=LG h;exact ak7
 ·unfold Qm at h
  split at h
  ·exact axM
  ·obtain⟨_,aX,O,h⟩:=binds h;cases h;have a4:=N8 O;rw[count_mk,MQ];omega
 ·have A{G}(h:G:=by
  have dH:=N8 aJ;have aW:=WU ai E;have a4:Tr.counts c+3 * az<=3 * aX:=by
   unfold QX at O
   split at O
   ·have A{G}(h:G:=by
    cases O;have:=N8 fc;have:=Q7 dn;have:=N8 hv;have:=WU ai iM;rw[L6,count_mk,L6,MQ];omega):=LG h;exact atp
   ·
    cases O;rw[MQ];omega
  have bO:Tr.counts f+3 * aX<=3 * ca:=by
   unfold Oh at ao
   split at ao
   ·obtain⟨cw,e0,iM,ao⟩:=binds ao;cases ao;have:=WU ai iM;rw[L6,count_mk,L6,MQ];omega
   ·
    cases ao;rw[MQ];omega
  split at h
  ·
   cases h
  ·
   cases h;rw[count_mk,L6,Rw];omega):=LG h;exact atq
def adO (d i:Nat):Cb i (O1 l F d i):=by
 unfold O1
 split
 ·exact ap0 ai d _ i
 ·intro t j h;unfold VG at h;exact axM
omit ai in
theorem anC:∀ k,FCb (fns l k):=by
 intro k
 induction k with
 | zero=>exact⟨λ_ _ _ _ h=>by (cases h),λ_ _ _ _ h=>by (cases h),λ_ _ _ _ _ h=>by (cases h),λ_ _ _ _ h=>by (cases h)⟩
 | succ k aU=>exact⟨adO aU,anB aU,apZ aU,ak6 aU⟩
def afq:∀ k au i t j,Oa l F k au i=.ok t j->Tr.counts t+3 * i<=Tr.counts au+3 * j:=by
 intro k
 induction k with
 | zero=>intro au i t j h;cases h
 | succ k aU=>
  intro au i t j h;unfold Oa at h;exact axL
def ajE {t:Tr}{j:Nat}(h:PZ l F=.ok t j):t.count<=1+3 * j:=by
 unfold PZ at h;obtain⟨ts,az,E,h⟩:=binds h;cases h;have:=afq ai _ _ _ _ _ E;rw[MQ] at this;rw[aaI,count_mk];omega
end
abbrev tPM:LW:=⟨#[43,45]⟩
def lvls:List LW:=[tOr,adI,Yp,Yq,tPM,adJ]
def WA (s x:LW):Bool:=decide (x=s)||(decide (s=tPM)&&(decide (x=aaH)||decide (x=abZ)))
def ops:List (LW × Int):=[(tOr,25),(adI,26),(Yp,27),(Yq,28),(aaH,29),(abZ,30),(adJ,31)]
def opK (x:LW):Int:=(Np ops x).getD 0
def lits:List (LW × Int):=[(ajC,19),(adG,20),(ajD,21),(adH,22)]
def abm (x:LW):Int:=(Np lits x).getD 0
section
variable (l:List Tk)
def Og (shut:LW)(part:Nat->PR Tr):Nat->List Tr->Nat->PR (List Tr)
 | 0,_,_=>.out
 | k+1,au,i=>if fx l i=shut then .ok au (i+1) else
  (if au.length=0 then PR.ok () i else MG l Uw i).bind λ_ az=>
   if au.length=8 then Qo l 4 az else (part az).bind λt aX=>Og shut part k (au++[t]) aX
def VO (F:OQ)(i:Nat):PR Tr:=
 (MG l NZ i).bind λ_ az=>(Og l OX (Qw l) F.fuel [] az).bind λts aX=>.ok (.mk 40 LH 0 ts) aX
def U2 (F:OQ)(d i:Nat):PR Tr:=
 (MG l Nc i).bind λ_ az=>(Og l PW (Rq l F d) F.fuel [] az).bind λts aX=>.ok (.mk 38 LH 0 ts) aX
def P7 (F:OQ)(kd:Int)(s:LW)(d i:Nat):PR Tr:=
 (VO l F i).bind λps az=>(MV l F d az).bind λb aX=>.ok (.mk kd s 0 [ps,Qg b]) aX
def U3 (F:OQ)(d i:Nat):PR Tr:=
 (MG l MI i).bind λ_ az=>if isName l az=true then (nameP l az).bind λs aX=>P7 l F 37 s d aX else P7 l F 37 LH d az
def X7 (F:OQ)(d i:Nat):PR Tr:=
 (MG l MI i).bind λ_ az=>(nameP l az).bind λs aX=>P7 l F 5 s d aX
def Vh (F:OQ)(d i:Nat):PR Tr:=
 if (MJ l i).kd=1 then .ok (.mk 23 (MJ l i).tx 0 []) (i+1)
 else if (MJ l i).kd=3 then .ok (.mk 17 LH (MJ l i).n []) (i+1)
 else if (MJ l i).kd=4 then .ok (.mk 18 (MJ l i).tx 0 []) (i+1)
 else if fx l i=NZ then Px l F d i
 else if fx l i=MI then U3 l F d i
 else if fx l i=Nc then U2 l F d i
 else if (MJ l i).kd=2/\0<abm (MJ l i).tx then .ok (.mk (abm (MJ l i).tx) LH 0 []) (i+1)
 else Qo l 3 i
def aem (F:OQ)(d i:Nat):PR (List Tr):=Og l OX (Y1 l F d) F.fuel [] i
def PO (F:OQ)(d:Nat):Nat->Tr->Nat->PR Tr
 | 0,_,_=>.out
 | k+1,t,i=>
  if fx l i=afn then (nameP l (i+1)).bind λs az=>PO F d k (.mk 36 s 0 [t]) az
  else if fx l i=NZ then (aem l F d (i+1)).bind λts az=>PO F d k (.mk 35 LH 0 (t::ts)) az
  else .ok t i
def Wl (F:OQ)(d i:Nat):PR Tr:=(Vh l F d i).bind λt az=>PO l F d F.fuel t az
def Um (F:OQ)(d i:Nat):PR Tr:=
 match SA 1 (fx l i) with
 | some s=>(MO l F.sg d (i+1)).bind λt az=>.ok (.mk s.kd LH 0 [t]) az
 | none=>Wl l F d i
def P6 (ov:Nat->PR Tr)(s:LW):Nat->Tr->Nat->PR Tr
 | 0,_,_=>.out
 | k+1,t,i=>
  if (MJ l i).kd=5/\WA s (MJ l i).tx=true then (ov (i+1)).bind λu az=>P6 ov s k (.mk (opK (MJ l i).tx) LH 0 [t,u]) az
  else .ok t i
def PX (F:OQ)(d:Nat):List LW->Nat->PR Tr
 | [],i=>F.sg d i
 | s::rest,i=>(PX F d rest i).bind λt az=>P6 l (PX F d rest) s F.fuel t az
def rpr (F:OQ)(least:Int)(d i:Nat):PR Tr:=PX l F d (lvls.drop (least - 2).toNat) i
def X9 (F:OQ)(d:Nat):Nat->Nat->PR Tr
 | 0=>UA l F d
 | 1=>X7 l F d
 | 2=>MV l F d
 | 3=>λi=>(MG l Nb i).bind λ_ az=>.ok (.mk 16 LH 0 []) az
 | 4=>Qp l F d
 | 5=>Pj l F d
 | 6=>Qm l F d
 | _=>Qy l F d
def Pg (F:OQ)(d i:Nat):PR Tr:=
 match Np PG (fx l i) with
 | some q=>X9 l F d q i
 | none=>VG l F d i
def TJ:Nat->OQ
 | 0=>asu
 | k+1=>⟨k,Pg l (TJ k),Ru l (TJ k),rpr l (TJ k),Um l (TJ k)⟩
end
section
variable {l:List Tk} (a3:Ends l)
include a3
def Wn {q:Prop}{shut:LW}{part:Nat->PR Tr}{I:Nat}(W:shut≠LH)(ae:∀ i,I<=i->i<l.length->Nx q l.length (i+1) (part i)) :
  ∀ k au i,I<=i->i<l.length->Nx (q/\l.length - i<k) l.length (i+1) (Og l shut part k au i):=by
 intro k
 induction k with
 | zero=>intro au i _ _;exact⟨λh=>absurd h.2 LM,λ_ _ h=>by (cases h)⟩
 | succ k aU=>
  intro au i cz ak;unfold Og
  split
  ·exact Nx.ok LM (Sj a3 ak ‹_› W)
  ·have aJ:Nx (q/\l.length - i<k+1) l.length i (if au.length=0 then PR.ok () i else MG l Uw i):=by
    split
    ·exact Nx.ok Nh ak
    ·exact(OC a3 ak MK).le LM
   refine Nx.bind aJ λ_ j E O=>?_
   split
   ·exact Nx.Qo
   ·refine Nx.bind ((ae j LM O).imp And.left) λt a8 ao aM=>?_;exact((aU _ a8 LM aM).le LM).imp λh=>⟨h.1,by omega⟩
variable {k:Nat} {F:OQ} (ai:VW l k F)
include ai
def agP {q:Prop}{i:Nat}(ak:i<l.length)(ac:q->8 * (l.length - i)<=k+4):Nx q l.length (i+1) (VO l F i):=by
 unfold VO;refine Nx.bind (OC a3 ak MK) λ_ j E O=>?_;refine Nx.bind (((Wn a3 (q:=q) (I:=j) MK (λa8 _ h=>Y3 a3 h) F.fuel [] j Nh O).imp λh=>⟨h,?_⟩)) λts a8 ao aM=>Nx.ok LM aM;have:=ac h;rw[ai.fuel];omega
def agQ {q:Prop}{d i:Nat}(ak:i<l.length)(ac:q->8 * (l.length - i)<=k+4):Nx q l.length (i+1) (U2 l F d i):=by
 unfold U2;refine Nx.bind (OC a3 ak MK) λ_ j E O=>?_;refine Nx.bind (((Wn a3 (q:=q) (I:=j) MK (λa8 aT h=>aaK a3 ai h λa2=>by have:=ac a2;omega) F.fuel [] j Nh O).imp λh=>⟨h,?_⟩)) λts a8 ao aM=>Nx.ok LM aM
 have:=ac h;rw[ai.fuel];omega
def Wp {q:Prop}{kd:Int}{s:LW}{d i:Nat}(ak:i<l.length)(ac:q->8 * (l.length - i)<=k+4):Nx q l.length (i+1) (P7 l F kd s d i):=by
 unfold P7;refine Nx.bind (agP a3 ai ak ac) λps j E O=>?_;exact Nx.bind (TT a3 ai O λh=>by have:=ac h;omega) λb a8 ao aM=>Nx.ok LM aM
section
variable {q:Prop} {d i:Nat} (ak:i<l.length) (ac:q->8 * (l.length - i)<=k+4)
include q d i ak ac
def agR:Nx q l.length (i+1) (U3 l F d i):=by
 unfold U3;refine Nx.bind (OC a3 ak MK) λ_ j E O=>?_
 split
 ·refine Nx.bind (Sl a3 O) λs a8 ao aM=>?_;exact(Wp a3 ai aM λh=>by have:=ac h;omega).le LM
 ·exact(Wp a3 ai O λh=>by have:=ac h;omega).le LM
def amd:Nx q l.length (i+1) (X7 l F d i):=by
 unfold X7;refine Nx.bind (OC a3 ak MK) λ_ j E O=>?_;refine Nx.bind (Sl a3 O) λs a8 ao aM=>?_;exact(Wp a3 ai aM λh=>by have:=ac h;omega).le LM
def aiM:Nx q l.length (i+1) (Vh l F d i):=by
 unfold Vh
 split
 ·exact ak9
 ·split
  ·exact ak9
  ·split
   ·exact ak9
   ·split
    ·exact Xt a3 ai ak ac
    ·split
     ·exact agR a3 ai ak ac
     ·split
      ·exact agQ a3 ai ak ac
      ·split
       ·rename_i h;exact Nx.ok Nh (Q8 a3 ak (by rw[h.1];decide))
       ·exact Nx.Qo
end
def acg {q:Prop}{I:Nat}(ac:q->8 * (l.length - I)<=k+4):∀ n d t i,I<i->i<l.length->Nx (q/\l.length - i<n) l.length i (PO l F d n t i):=by
 intro n
 induction n with
 | zero=>intro d au i _ _;exact⟨λh=>absurd h.2 LM,λ_ _ h=>by (cases h)⟩
 | succ n aU=>
  intro d t i cz ak;unfold PO
  split
  ·exact axN
  ·split
   ·have aJ:=Sj a3 ak ‹_› MK;unfold aem;refine Nx.bind ((Wn a3 (q:=q/\l.length - i<n+1) (I:=i+1) MK (λa8 aT h=>aao ai h λa2=>by have:=ac a2.1;omega) F.fuel [] (i+1) Nh aJ).imp λh=>⟨h,?_⟩) λts j E O=>((aU d _ j LM O).le LM).imp λh=>⟨h.1,by omega⟩
    have:=ac h.1;rw[ai.fuel];omega
   ·exact Nx.ok Nh ak
def aiN {q:Prop}{d i:Nat}(ak:i<l.length)(ac:q->8 * (l.length - i)<=k+4):Nx q l.length (i+1) (Wl l F d i):=by
 unfold Wl;refine Nx.bind (aiM a3 ai ak ac) λt j E O=>((acg a3 ai ac F.fuel d t j LM O).le LM).imp λh=>⟨h,?_⟩;have:=ac h;rw[ai.fuel];omega
def agS {d i:Nat}(ak:i<l.length):Nx (8 * (l.length - i)<k+1) l.length (i+1) (Um l F d i):=by
 unfold Um
 split
 ·exact axO
 ·exact aiN a3 ai ak λh=>by omega
omit ai in
theorem aes {q:Prop}{I:Nat}{ov:Nat->PR Tr}{s:LW}(ae:∀ i,I<i->i<l.length->Nx q l.length (i+1) (ov i)):∀ n t i,I<i->i<l.length->Nx (q/\l.length - i<n) l.length i (P6 l ov s n t i):=by
 intro n
 induction n with
 | zero=>intro au i _ _;exact⟨λh=>absurd h.2 LM,λ_ _ h=>by (cases h)⟩
 | succ n aU=>
  intro t i cz ak;unfold P6
  split
  ·rename_i h
   have aJ:=Q8 a3 ak (by rw[h.1];decide)
   exact Nx.bind ((ae _ LM aJ).imp And.left) λu j E O=>((aU _ j LM O).le LM).imp λh=>⟨h.1,by omega⟩
  ·exact Nx.ok Nh ak
def Zo {d:Nat}:∀ (ls:List LW) (i:Nat),i<l.length->Nx (8 * (l.length - i)+1<k+1) l.length (i+1) (PX l F d ls i)
 | [],i,ak=>by
  unfold PX;exact(ai.sg _ _ ak).imp λh=>by omega
 | s::rest,i,ak=>by
  unfold PX;refine Nx.bind (Zo rest i ak) λt j E O=>?_;refine((aes a3 (q:=8 * (l.length - i)+1<k+1) (I:=i) (λaX ao aM=>(Zo rest aX aM).imp λh=>by omega) F.fuel t j LM O).le LM).imp λh=>⟨h,?_⟩;rw[ai.fuel];omega
def ame {q:Prop}{d i c:Nat}(ak:i+1<l.length)(ac:q->8 * (l.length - i)<=k+4):Nx q l.length (i+1) (X9 l F d c i):=by
 unfold X9
 split
 ·exact afv a3 ai ak ac
 ·exact amd a3 ai LM ac
 ·exact TT a3 ai LM ac
 ·exact Nx.bind (OC a3 LM MK) λ_ j E O=>Nx.ok E O
 ·exact aaM a3 ai ak ac
 ·exact aaL a3 ai ak ac
 ·exact aaN a3 ai ak ac
 ·exact ZC a3 ai LM ac
def abo {d i:Nat}(ak:i<l.length):Nx (8 * (l.length - i)+3<k+1) l.length (i+1) (Pg l F d i):=by
 unfold Pg
 split
 ·rename_i c am
  exact ame a3 ai (afr a3 ak am MK) λh=>by omega
 ·exact afu a3 ai ak λh=>by omega
omit ai in
theorem aeu:∀ k,VW l k (TJ l k):=by
 intro k
 induction k with
 | zero=>exact⟨rfl,λ_ _ _=>⟨λh=>absurd h LM,λ_ _ h=>by (cases h)⟩,λ_ _ _=>⟨λh=>absurd h LM,λ_ _ h=>by (cases h)⟩,λ_ _ _ _=>⟨λh=>absurd h LM,λ_ _ h=>by (cases h)⟩,λ_ _ _=>⟨λh=>absurd h LM,λ_ _ h=>by (cases h)⟩⟩
 | succ k aU=>exact⟨rfl,λ_ _ ak=>abo a3 aU ak,λ_ _ ak=>acJ a3 aU ak,λ_ _ _ ak=>Zo a3 aU _ _ ak,λ_ _ ak=>agS a3 aU ak⟩
end
abbrev F25:Obj:=.cells #[LJ 0,LJ 0] 86
def anZ:(prog.info? 167).map (λi=>(i.zero,i.size,i.bytes))=some (some TB,4,40):=by kernel_rfl
def own_below {fF:TypeId}{wr aq:LK}{B:Nat}{v:LY}{n:Nat}{bQ:List LY}(D:LX wr aq)(h:wr.ownsRow B fF 4 v n bQ):aq.ownsRow B fF 4 v n bQ:=ayI
def own_base {fF:TypeId}{w:LK}{B B':Nat}{v:LY}{n:Nat}{bQ:List LY}(D:B'<=B)(h:w.ownsRow B fF 4 v n bQ):w.ownsRow B' fF 4 v n bQ:=ay0
def amw {fF:TypeId}{B:Nat}{fl gR w1:LK}{v:LY}{n:Nat}{bQ:List LY}(bA:Below B fl gR)(bK:B<=gR.heap.size)(hown:gR.ownsRow B fF 4 v n bQ)(hg:gR.grownBy w1 v.ownBlock) :
  Below B fl w1:=bA.grown hg bK (λk N=>by
  obtain⟨_,⟨rfl,_⟩|⟨g,cap,cj,rfl,dI,_⟩⟩:=hown
  ·simp[Value.ownBlock] at N
  ·simp[Value.ownBlock] at N;omega)
structure RInv (w:LK)(au:List Tk)(v:LY)(wr:LK):Prop where
 own:wr.ownsRow (w.heap.size+1) 167 4 v au.length (OI au)
 bel:Below (w.heap.size+1) (w.alloc F25) wr
def RInv.size {w:LK}{au:List Tk}{v:LY}{wr:LK}(h:RInv w au v wr):w.heap.size+1<=wr.heap.size:=by
 have:=h.bel.size;simp at this;exact this
def RInv.app {w:LK}{au:List Tk}{v b0:LY}{wr w1:LK}{t:Tk}(h:RInv w au v wr)(o:Obj)(hown':w1.ownsRow (w.heap.size+1) 167 4 b0 (au.length+1) (OI au++Uf t))
  (hg:(wr.alloc o).grownBy w1 v.ownBlock):RInv w (au++[t]) b0 w1:=by
 have b5:=h.size;exact⟨by rw[Vs,zalab];exact hown',amw (h.bel.alloc b5 o) OM (h.own.alloc o) hg⟩
def ahb (r:TR)(w:LK)(e:Ending)(w':LK):Prop:=
 match r with
 | .ok l=>∃ v,e=MN (.tuple #[v,.agg #[LJ 0,LJ (-1)]])/\w'.ownsRow w.heap.size 167 4 v l.length (OI l)/\LX w w'
 | .bad er p=>e=MN (.tuple #[.slice none 0 0,.agg #[LJ er,LJ (p:Int)]])/\LX w w'
section
variable {w:LK} {au:List Tk} {v:LY}
include w au v
def RInv.out {wr:LK}(h:RInv w au v wr)(v0 v1:LY) :
  LX w ((wr.setCell (LD w.heap.size 0) v0).setCell (LD w.heap.size 1) v1):=by
 have jA:LX w (w.alloc F25):=Qn;exact((jA.trans (h.bel.mono LM)).setCell Nh _).setCell Nh _
def RInv.cells {wr:LK}(h:RInv w au v wr) :
  wr.cell? (LD w.heap.size 0)=some (LJ 0)/\wr.cell? (LD w.heap.size 1)=some (LJ 0)/\wr.frozen? (LD w.heap.size 0)=false/\wr.frozen? (LD w.heap.size 1)=false:=by
 have c:=λo=>h.bel.cell (p:=(LD w.heap.size o)) MP;have f:=λo=>h.bel.frozen (p:=(LD w.heap.size o)) MP;refine⟨?_,?_,?_,?_⟩
 ·rw[c];simp
 ·rw[c];simp
 all_goals
  rw[f];simp
def RInv.later {wr aq:LK}(h:RInv w au v wr)(D:LX wr aq):RInv w au v aq:=
 ⟨own_below D h.own,h.bel.trans (D.mono h.size)⟩
end
structure Om (aj:List LW)(w:LK):Prop where
 lw:aj.length=19
 hw:∃ a cap,w.cell? (LD 4 0)=some (.slice (some a) 19 cap)/\∀ i,i<aj.length->w.cell? (a.add i)=some (LQ (aj.getD i ByteArray.empty))
 f0:w.cell? (LD 1 0)=some (LJ 0)
 f1:w.cell? (LD 1 1)=some (LJ (-1))
def RH {w:LK}{a:Addr}{v:LY}(h:w.cell? a=some v):a.block<w.heap.size:=by
 unfold World.cell? at h
 by_cases D:a.block<w.heap.size
 ·exact D
 ·rw[zaldo LM] at h;simp at h
def Om.later {aj:List LW}{w w':LK}(h:Om aj w)(D:LX w w'):Om aj w':=by
 obtain⟨a,cap,O,ao⟩:=h.hw;exact⟨h.lw,⟨a,cap,by rw[D.cell (RH O)];exact O,λi ak=>by rw[D.cell (RH (ao i ak))];exact ao i ak⟩,by rw[D.cell (RH h.f0)];exact h.f0,by rw[D.cell (RH h.f1)];exact h.f1⟩
def Om.word {aj:List LW}{w:LK}(h:Om aj w)(s:LW):MC 135 #[LQ s] w λe w'=>e=MN (L9 (isIn aj s))/\w'=w:=by
 obtain⟨a,cap,O,ao⟩:=h.hw;exact XG a cap aj s w h.lw O ao
def RInv.lists {aj:List LW}{w:LK}{au:List Tk}{v:LY}{wr:LK}(h:RInv w au v wr)(bm:Om aj w):Om aj wr:=by
 have jA:LX w (w.alloc F25):=Qn;exact bm.later (jA.trans (h.bel.mono LM))
def Ub:Code->Option Code
 | .loop c=>some c
 | .seq a b=>match Ub a with
  | some c=>some c
  | none=>Ub b
 | .block _ c=>Ub c
 | .scope c=>Ub c
 | .cond _ a b=>match Ub a with
  | some c=>some c
  | none=>Ub b
 | _=>none
noncomputable def body6:Code:=((Tryz.f109.body.bind Ub).getD .skip)
def fr (s:LW)(H:Nat)(v i:LY)(f:Nat->LY):Act:=⟨#[LQ s,undef,f 2,Mc H 0,v,i,f 6,f 7,f 8,f 9,f 10,f 11,f 12,f 13,undef,f 15,LQ s,LJ (s.size:Int),L9 (decide (3000<(s.size:Int))),undef,f 20,f 21,f 22,f 23,f 24,f 25,f 26,f 27,f 28,f 29,f 30,f 31,f 32,f 33,f 34,f 35,f 36,f 37,f 38,f 39,f 40,f 41,f 42,f 43,f 44,f 45,f 46,f 47,f 48,f 49,f 50,f 51,f 52,f 53,f 54,f 55,f 56,f 57,f 58,f 59,f 60,f 61,f 62,f 63,f 64,f 65,f 66,f 67,f 68,f 69,f 70,f 71,f 72,f 73,f 74,f 75,f 76,f 77,f 78,f 79,f 80,f 81,f 82,f 83,f 84,f 85,f 86,f 87,f 88,f 89,f 90,f 91,f 92,f 93,f 94,f 95,f 96,f 97,f 98,f 99,f 100,f 101,f 102,f 103,f 104,f 105,f 106,f 107,f 108,f 109,f 110,f 111,f 112,f 113,f 114,f 115,f 116,f 117,f 118,f 119,f 120,f 121,f 122,f 123,f 124,f 125,f 126,f 127,f 128,f 129,f 130,f 131,f 132,f 133,f 134,f 135,f 136,f 137,f 138,f 139,f 140,f 141,f 142,f 143,f 144,f 145,f 146,f 147,f 148,f 149,f 150,f 151,f 152,f 153,f 154,f 155,f 156,f 157,f 158,f 159,f 160,f 161,f 162,f 163,f 164,f 165,f 166,f 167,f 168,f 169,f 170,f 171,f 172,f 173,f 174,f 175,f 176,f 177,f 178,f 179,f 180,f 181,f 182,f 183,f 184,f 185,f 186,f 187,f 188,f 189,f 190,f 191,f 192,f 193,f 194,f 195,f 196,f 197,f 198,f 199,f 200,f 201,f 202,f 203,f 204,f 205,f 206,f 207,f 208,f 209,f 210,f 211,f 212,f 213,f 214,f 215,f 216,f 217,f 218,f 219,f 220,f 221,f 222,f 223,f 224,f 225,f 226,f 227,f 228,f 229,f 230,f 231,f 232,f 233,f 234,f 235,undef,undef,undef,undef,undef,undef,undef],[]⟩
def mu6 (s:LW)(a:Act)(_w:LK):Nat:=s.size - (intOf (a.tmps.getD 5 undef)).toNat
def WI (aj:List LW)(s:LW)(w:LK)(r:TR)(a:Act)(wr:LK):Prop:=
 ∃ (j:Nat) (au:List Tk) (v:LY) (f:Nat->LY),j<=s.size/\au.length<=j/\Pn aj ML s (MH O8 s j) au=r/\RInv w au v wr/\a=fr s w.heap.size v (LJ (j:Int)) f
def aaX {aj:List LW}{s:LW}{w:LK}{r:TR}{a:Act}{wr:LK}(j:Nat)(au:List Tk)(v:LY)(E:j<=s.size)(O:au.length<=j)(ao:Pn aj ML s (MH O8 s j) au=r)(aM:RInv w au v wr)
  (bw:a=fr s w.heap.size v (LJ (j:Int)) (λk=>a.tmps.getD k undef)):WI aj s w r a wr:=⟨j,au,v,_,E,O,ao,aM,bw⟩
abbrev Q6 (aj:List LW)(s:LW)(w:LK)(r:TR)(K:Act->LK->Prop)(n:Nat):Exit->Act->LK->Prop:=
 Exit.then (λik nh=>WI aj s w r ik nh/\mu6 s ik nh<n) (Exit.inBlock 0 (Exit.then K (bodyPost prog Tryz.f109 (ahb r w))))
