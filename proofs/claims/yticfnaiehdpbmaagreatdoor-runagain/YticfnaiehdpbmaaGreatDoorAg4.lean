import Derived.Test.YticfnaiehdpbmaaGreatDoorAg3
import Derived.RegionTactic
import Derived.Deep.RegionHeld
import Derived.Laws.BytesArg
set_option maxRecDepth 100000
set_option maxHeartbeats 8000000
set_option linter.unusedVariables false
namespace Go.Proofs.YticfnaiehdpbmaaGreatDoor
open Go.RowKit Go.Proofs.Tryz
section
variable {P:Program} {bX:Region.Mode} {bh:Array Oper} {Q:Exit->Act->Ny->Prop} {S:Ny->Prop} {fuel:Nat} {listed:Array Bool} {a:Act} {w:Ny}
theorem wt {dQ:Oper}(i:Nat)(v:NP)
    (h:wpAny P bX bh Q fuel (listed.setIfInBounds i true) (a.put dQ.dst v) w) (ay:bh[i]? = some dQ:=by rfl)
    (ae:Region.noSelect bh=true:=by kernel_rfl) (aG:Region.free bX bh listed i=true:=by kernel_rfl) (U:(Region.ready bX bh listed).contains i=true:=by kernel_rfl)
    (hJ:∀ c a w,Q (.panic c) (a.put dQ.dst v) w->Q (.panic c) a w:=by exact fun _ _ _ h=>h) (hy:Yields P bh dQ v a:=by exact Or.inl ⟨by kernel_rfl,fun w=>by go_simp⟩):wpAny P bX bh Q (fuel+1) listed a w:=
  wpAny_take ay ae aG U hJ hy h
theorem wg {dQ:Oper}(i:Nat)(v:NP)(ay:bh[i]? = some dQ)(hy:YieldsIf P bh S dQ v a)(gZ:S w)
    (h:wpAnyH P bX bh Q S fuel (listed.setIfInBounds i true) (a.put dQ.dst v) w)
    (ae:Region.noSelect bh=true:=by kernel_rfl) (aG:Region.free bX bh listed i=true:=by kernel_rfl) (U:(Region.ready bX bh listed).contains i=true:=by kernel_rfl)
    (hJ:∀ c a w,Q (.panic c) (a.put dQ.dst v) w->Q (.panic c) a w:=by exact fun _ _ _ h=>h):wpAnyH P bX bh Q S (fuel+1) listed a w:=
  wpAnyH_take ay ae aG U hJ hy gZ h
theorem wh {dQ:Oper}(i:Nat)(v:NP)(gZ:S w)
    (h:wpAnyH P bX bh Q S fuel (listed.setIfInBounds i true) (a.put dQ.dst v) w) (ay:bh[i]? = some dQ:=by rfl)
    (ae:Region.noSelect bh=true:=by kernel_rfl) (aG:Region.free bX bh listed i=true:=by kernel_rfl) (U:(Region.ready bX bh listed).contains i=true:=by kernel_rfl)
    (hJ:∀ c a w,Q (.panic c) (a.put dQ.dst v) w->Q (.panic c) a w:=by exact fun _ _ _ h=>h) (hy:YieldsIf P bh S dQ v a:=by exact Or.inl ⟨by kernel_rfl,fun _ _=>by go_simp⟩):wpAnyH P bX bh Q S (fuel+1) listed a w:=
  wpAnyH_take ay ae aG U hJ hy gZ h
theorem P6 {o:Oper}(i:Nat)
    (h:∀ hC:Act->Ny->Prop,(∀ a w,wpAny P bX bh Q fuel (listed.setIfInBounds i true) a w->hC a w)->if Region.wanted o (yielded bh a.tmps)=true then Oper.wp P o a w hC Q else hC (a.put o.dst undef) w)
    (aM:bh[i]? = some o:=by rfl) (U:Region.ready bX bh listed=[i]:=by kernel_rfl):wpAny P bX bh Q (fuel+1) listed a w:=
  wpAny_ready U Oq (AllReady.cons aM h AllReady.nil)
theorem wr2 {o gP:Oper}(i j:Nat)
    (h:∀ hC:Act->Ny->Prop,(∀ a w,wpAny P bX bh Q fuel (listed.setIfInBounds i true) a w->hC a w)->if Region.wanted o (yielded bh a.tmps)=true then Oper.wp P o a w hC Q else hC (a.put o.dst undef) w)
    (fj:∀ hC:Act->Ny->Prop,(∀ a w,wpAny P bX bh Q fuel (listed.setIfInBounds j true) a w->hC a w)->if Region.wanted gP (yielded bh a.tmps)=true then Oper.wp P gP a w hC Q else hC (a.put gP.dst undef) w)
    (aM:bh[i]? = some o:=by rfl) (AR:bh[j]? = some gP:=by rfl) (U:Region.ready bX bh listed=[i,j]:=by kernel_rfl):wpAny P bX bh Q (fuel+1) listed a w:=
  wpAny_ready U Oq (AllReady.cons aM h (AllReady.cons AR fj AllReady.nil))
theorem WG {o:Oper}(i:Nat)
    (h:∀ hC:Act->Ny->Prop,Shut (∀ a w,S w->(S w->wpAnyH P bX bh Q S fuel (listed.setIfInBounds i true) a w)->hC a w)->if Region.wanted o (yielded bh a.tmps)=true then Oper.wp P o a w hC Q else hC (a.put o.dst undef) w)
    (aM:bh[i]? = some o:=by rfl) (U:Region.ready bX bh listed=[i]:=by kernel_rfl):wpAnyH P bX bh Q S (fuel+1) listed a w:=
  wpAnyH_ready U Oq (AllReadyH.cons aM h AllReadyH.nil)
theorem abh {H G:Ny->Nat->Prop}{goal:Prop}(h1:(∀ aD cw,H aD cw->G aD cw)->goal)(O:∀ aD cw,H aD cw->G aD cw):goal:=h1 O
theorem SQ {listed':Array Bool}{l9:Act}(h1:listed=listed')(O:a=l9)(h:wpAny P bX bh Q fuel listed' l9 w):wpAny P bX bh Q fuel listed a w:=by
  subst h1 O;exact h
def tf (n m:Nat):Array Bool:=Array.replicate n true++Array.replicate m false
theorem wz {l9:Act}(n m:Nat)(h:wpAny P bX bh Q fuel (tf n m) l9 w)(h1:listed=tf n m:=by kernel_rfl)(O:a=l9:=by kernel_rfl):wpAny P bX bh Q fuel listed a w:=SQ h1 O h
theorem cm {f:FuncId}{args:Array NP}{R CO:Ending->Ny->Prop}(h:Calls P f args w R)(U:∀ e w',R e w'->CO e w'):Calls P f args w CO:=h.mono U
def bt (s:NR)(i:Nat):UInt8:=s.data.toList.getD i 0
theorem aji (s:NR)(i:Nat)(h:i<s.size):bt s i=s[i]:=at_eq s i h
def esc (c:UInt8):Option UInt8:=if c=110 then some 10 else if c=39\/c=92 then some c else none
inductive SR where
 | ok (said:List UInt8) (e:Nat)
 | bad (p:Nat)
def Vb (s:NR)(i:Nat)(said:List UInt8):SR:=
 if i<s.size then
  if bt s i=39 then .ok said (i+1)
  else if bt s i=10 then .bad i
  else if bt s i=92 then
   if i+1<s.size then
    match esc (bt s (i+1)) with
    | some m=>Vb s (i+2) (said++[m])
    | none=>.bad (i+1)
   else .bad (i+1)
  else Vb s (i+1) (said++[bt s i])
 else .bad s.size
termination_by s.size - i
def rdStr (s:NR)(k:Nat):Rd:=
 match Vb s (k+1) [] with
 | .ok said e=>if 500<said.length then .bad 4 k else .tok 4 (ofBytes said) 0 e
 | .bad p=>.bad 3 p
section
variable (s:NR) (i:Nat) (said:List UInt8)
include s i said
theorem agr (h:¬ i<s.size):Vb s i said=.bad s.size:=by rw[Vb,if_neg h]
theorem abA (h:i<s.size)(ai:bt s i=39):Vb s i said=.ok said (i+1):=by rw[Vb,if_pos h,if_pos ai]
theorem ajj (h:i<s.size)(ai:bt s i=10):Vb s i said=.bad i:=by rw[Vb,if_pos h,if_neg (by rw[ai];decide),if_pos ai]
theorem agp (m:UInt8)(h:i<s.size)(ai:bt s i=92)(h1:i+1<s.size)(aV:esc (bt s (i+1))=some m):Vb s i said=Vb s (i+2) (said++[m]):=by
 conv=>lhs;rw[Vb]
 rw[if_pos h,if_neg (by rw[ai];decide),if_neg (by rw[ai];decide),if_pos ai,if_pos h1,aV]
theorem Wp (h:i<s.size)(ai:bt s i=92)(aV:i+1<s.size->esc (bt s (i+1))=none):Vb s i said=.bad (i+1):=by
 rw[Vb,if_pos h,if_neg (by rw[ai];decide),if_neg (by rw[ai];decide),if_pos ai]
 by_cases h1:i+1<s.size
 ·rw[if_pos h1,aV h1]
 ·rw[if_neg h1]
theorem abC (h:i<s.size)(h1:bt s i≠39)(O:bt s i≠10)(ax:bt s i≠92):Vb s i said=Vb s (i+1) (said++[bt s i]):=by
 conv=>lhs;rw[Vb]
 rw[if_pos h,if_neg h1,if_neg O,if_neg ax]
end
theorem Wn (b c:UInt8):(((b.toNat:Nat):Int)==((c.toNat:Nat):Int))=decide (b=c):=by
 by_cases h:b=c
 ·subst h;simp
 ·have:b.toNat≠c.toNat:=fun e=>h (UInt8.toNat_inj.1 e);simp[h];omega
def awd (o:Option UInt8):NP:=match o with|some m=>.tuple #[.int .u8 (m.toNat:Int),NI true] | none=>.tuple #[.int .u8 0,NI false]
theorem agq (s:NR)(i:Nat)(w:Ny)(h:s.size<=i) :
  NK 217 #[ND s,Nr (i:Int)] w fun e w'=>e=NU (.tuple #[.int .u8 0,NI false])/\w'=w:=by
 go_enter func217,ntmps217
 go_wp2
 go_ret2
 exact⟨rfl,rfl⟩
theorem abB (s:NR)(i:Nat)(w:Ny)(h:i<s.size) :
  NK 217 #[ND s,Nr (i:Int)] w fun e w'=>e=NU (awd (esc (bt s i)))/\w'=w:=by
 rw[aji s i h];obtain⟨b,D⟩:=xE (s[i]);have dl:=Wn b 110;have b2:=Wn b 39;have em:=Wn b 92;rw[<-D]
 by_cases h1:b=110
 ·have e:esc b=some 10:=by simp[esc,h1]
  have c1:(((s[i].toNat:Nat):Int)==110)=true:=by rw[<-D,h1];rfl
  rw[e];clear dl b2 em D h1;go_enter func217,ntmps217
  go_wp2
  go_ret2
  exact⟨rfl,rfl⟩
 ·have c1:(((s[i].toNat:Nat):Int)==110)=false:=by rw[<-D];simpa[h1] using dl
  by_cases O:b=39
  ·have e:esc b=some 39:=by simp[esc,O]
   have c2:(((s[i].toNat:Nat):Int)==39)=true:=by rw[<-D,O];rfl
   have ap:((s[i].toNat:Nat):Int)=39:=by rw[<-D,O];rfl
   exact aBx
  ·have c2:(((s[i].toNat:Nat):Int)==39)=false:=by rw[<-D];simpa[O] using b2
   by_cases ax:b=92
   ·have e:esc b=some 92:=by simp[esc,ax]
    have c3:(((s[i].toNat:Nat):Int)==92)=true:=by rw[<-D,ax];rfl
    have ap:((s[i].toNat:Nat):Int)=92:=by rw[<-D,ax];rfl
    exact aBx
   ·have e:esc b=none:=by simp[esc,h1,O,ax]
    have c3:(((s[i].toNat:Nat):Int)==92)=false:=by rw[<-D];simpa[ax] using em
    rw[e];clear dl b2 em D h1 O;go_enter func217,ntmps217
    go_wp2
    go_ret2
    exact⟨rfl,rfl⟩
def cellsOf (l:List UInt8):List NP:=l.map (fun b=>Value.int .u8 (b.toNat:Int))
theorem ak5 {w:Ny}{base:Nat}{v:NP}{n:Nat}{xs:List NP}(h:w.ownsRow base 5 1 v n xs):∃ a cap,v=.slice a n cap:=by
 obtain⟨_,⟨rfl,rfl⟩|⟨g,cap,cl,rfl,_⟩⟩:=h
 all_goals
  exact⟨_,_,rfl⟩
theorem aor {w:Ny}{base:Nat}{v:NP}(l:List UInt8)(h:w.ownsRow base 5 1 v l.length (cellsOf l)):(convert 42 9 v).run prog w=.ok (ND (ofBytes l)) w:=by
 obtain⟨hl,⟨rfl,h0⟩|⟨g,cap,cl,rfl,D,hh,aA,aV,ae,a'⟩⟩:=h
 ·have:l=[]:=List.length_eq_zero_iff.1 h0;subst this;exact run_convert_bytes_nil w 42 5 underlying42 underlying5 0 0 9 underlying9
 ·refine run_convert_bytes_back w 42 9 5 (Nv g 0) cap l underlying42 underlying5 underlying9 ?_;intro j aT;have h1:(cellsOf l)[j]? = some (.int .u8 (l[j].toNat:Int)):=by unfold cellsOf;rw[List.getElem?_map,List.getElem?_eq_getElem aT];rfl
  rw[<-a',List.getElem?_take_of_lt Nw] at h1;have O:cl[j]? = some (.int .u8 (l[j].toNat:Int)):=by simpa using h1
  have e:(Addr.add (Nv g 0) j)=(Nv g j):=by simp[Addr.add];intro h;exact h.symm
  rw[e];simp only[World.cell?,hh];simpa using O
theorem info5:(prog.info? 5).map (fun i=>(i.zero,i.size,i.bytes))=some (some (.int .u8 0),1,1):=by kernel_rfl
theorem aia (l:List UInt8)(b:UInt8):cellsOf (l++[b])=cellsOf l++[.int .u8 (b.toNat:Int)]:=by simp[cellsOf]
theorem ajh {w wr w1:Ny}{v v':NP}{said:List UInt8}{b:UInt8}(o:Obj)(aZ:Below (w.heap.size+1) (w.alloc O35) wr)(c9:w.heap.size+1<=wr.heap.size)
  (hown:wr.ownsRow (w.heap.size+1) 5 1 v said.length (cellsOf said))
  (hown':w1.ownsRow (w.heap.size+1) 5 1 v' (said.length+1) (cellsOf said++[.int .u8 (b.toNat:Int)])) (hg:(wr.alloc o).grownBy w1 v.ownBlock) :
  w1.ownsRow (w.heap.size+1) 5 1 v' (said++[b]).length (cellsOf (said++[b]))/\Below (w.heap.size+1) (w.alloc O35) w1/\w.heap.size+1<=w1.heap.size:=by
 have aE:Below (w.heap.size+1) (w.alloc O35) (wr.alloc o):=aZ.alloc c9 o;have jq:Below (w.heap.size+1) (w.alloc O35) w1:=aE.grown hg Qa (fun k E=>by
  obtain⟨_,⟨rfl,_⟩|⟨g,cap,cl,rfl,rd,_⟩⟩:=hown
  ·simp[Value.ownBlock] at E
  ·simp[Value.ownBlock] at E;omega)
 refine⟨by rw[aia,List.length_append];exact hown',jq,?_⟩
 have:=jq.size;simp at this;omega
theorem ZH (s:NR)(k:Nat)(w:Ny)(ae:s.size<=3000)(E:k<s.size) :
  NK 144 #[ND s,Nr (k:Int)] w (SA k (rdStr s k) w):=by
 obtain⟨i0,ay,dH,b6,cq⟩:=info_parts info5;obtain⟨r,U⟩:∃ r,Vb s (k+1) []=r:=⟨_,rfl⟩;have dk:=hide U;obtain⟨q,ag⟩:∃ q,rdStr s k=q:=⟨_,rfl⟩;have bo:=hide ag;rw[ag];clear U ag;go_enter func144,ntmps144
 go_wp2
 go_loopw [7,8,9,10,11] (fun v i _ _ _ wr=>∃ (j:Nat) (said:List UInt8),j<=s.size/\said.length<=j/\i=Nr j/\Vb s j said=r/\wr.ownsRow (w.heap.size+1) 5 1 v said.length (cellsOf said)/\Below (w.heap.size+1) (w.alloc O35) wr/\w.heap.size+1<=wr.heap.size) (fun _ i _ _ _ _=>s.size - (intOf i).toNat)
 case atStart=>exact⟨k+1,[],by omega,by simp,by go_num,dk.out,World.ownsRow_nil _ _ _ _,P8,by simp⟩
 case round=>
  obtain⟨j,said,aT,A8,rfl,au,hown,aZ,c9⟩:=hrel;have dw:=hide au;have HOWN:=hown;clear au
  by_cases aQ:j<s.size
  ·have eX:=aji s j aQ;obtain⟨a,cap,rfl⟩:=ak5 hown;have dl:=Wn s[j] 39;have b2:=Wn s[j] 10;have em:=Wn s[j] 92
   by_cases c1:s[j]=39
   ·
    have nh:(((s[j].toNat:Nat):Int)==39)=true:=by rw[c1];rfl
    have bF:r=.ok said (j+1):=by rw[<-dw.out,abA s j said aQ (by rw[eX];exact c1)]
    clear dl b2 em c1 eX
    by_cases Dm:500<said.length
    ·have eK:q=.bad 4 k:=by rw[<-bo.out];unfold rdStr;rw[dk.out,bF];simp[Dm]
     clear bF;subst eK;exact anK
    ·have eK:q=.tok 4 (ofBytes said) 0 (j+1):=by rw[<-bo.out];unfold rdStr;rw[dk.out,bF];simp[Dm]
     clear bF;subst eK;have ch:=aor said HOWN;have vE:Below (w.alloc O35).heap.size (w.alloc O35) wr:=by simpa using aZ
     obtain⟨ai,aG⟩:=YJ vE;have ys:=vE;go_wp2_with fail;exact bodyPost_ret (v:=.tuple #[.agg #[Nr 4,ND (ofBytes said),Nr 0,Nr (k:Int)],Nr ((j:Int)+1),Pe]) (by simp[results,results144,go_sem,ai]) rfl ⟨by simp,Xo ys _ _ _ _⟩
   ·have nh:(((s[j].toNat:Nat):Int)==39)=false:=by rw[show (39:Int)=(((39:UInt8).toNat:Nat):Int) from rfl,dl];simp[c1]
    by_cases c2:s[j]=10
    ·
     have t2:(((s[j].toNat:Nat):Int)==10)=true:=by rw[c2];rfl
     have bF:r=.bad j:=by rw[<-dw.out,ajj s j said aQ (by rw[eX];exact c2)]
     have eK:q=.bad 3 j:=by rw[<-bo.out];unfold rdStr;rw[dk.out,bF]
     clear dl b2 em c1 c2 eX bF;subst eK;exact anK
    ·have t2:(((s[j].toNat:Nat):Int)==10)=false:=by rw[show (10:Int)=(((10:UInt8).toNat:Nat):Int) from rfl,b2];simp[c2]
     by_cases c3:s[j]=92
     ·
      have t3:(((s[j].toNat:Nat):Int)==92)=true:=by rw[c3];rfl
      by_cases hlt2:j+1<s.size
      ·
       cases aV:esc (bt s (j+1)) with
       | none=>
        have bF:r=.bad (j+1):=by rw[<-dw.out,Wp s j said aQ (by rw[eX];exact c3) (fun _=>aV)]
        have eK:q=.bad 3 (j+1):=by rw[<-bo.out];unfold rdStr;rw[dk.out,bF]
        have hU:=hide aV;clear dl b2 em c1 c2 c3 eX bF aV;subst eK;go_wp2_with fail;have sD:=abB s (j+1) wr hlt2;rw[hU.out] at sD;refine cm sD ?_;rintro ey ao ⟨rfl,rfl⟩;simp only[awd];exact anK
       | some m=>
        have bF:Vb s (j+2) (said++[m])=r:=by rw[<-dw.out,agp s j said m aQ (by rw[eX];exact c3) hlt2 aV]
        have hB:=hide bF;have hU:=hide aV;clear dl b2 em c1 c2 c3 eX bF aV;go_wp2_with fail;have sD:=abB s (j+1) wr hlt2;rw[hU.out] at sD;refine cm sD ?_;rintro ey ao ⟨rfl,rfl⟩;simp only[awd]
        go_wp2_with (at_builtin;refine wpList_append_own _ rfl _ _ 42 rfl (w.heap.size+1) 5 i0 (.int .u8 0) 1 1 underlying42 ay dH b6 cq rfl NH _ _ _ rfl (HOWN.alloc _) (Nv ao.heap.size 0) 1 1 [.int .u8 (m.toNat:Int)] rfl rfl ?c1 ?c2 ?c3 ?c4 ?c5 ?_)
        case c1=>
         intro j u aT
         match j,aT with
         | 0,aT=>simp at aT;subst aT;simp[Addr.add]
        case c2=>intro u aO;simp at aO;subst aO;rfl
        case c3=>unfold maxLen;omega
        case c4=>omega
        case c5=>simp;omega
        intro v' w1 hown' hgrow _;have R:=ajh (b:=m) _ aZ c9 HOWN hown' hgrow;have bY:=hide R;clear R
        go_wp2
        go_roundw
        case rel=>exact⟨j+2,said++[m],by omega,by simp;omega,by go_num,hB.out,bY.out.1,bY.out.2.1,bY.out.2.2⟩
        case measure=>simp[intOf];omega
      ·have bF:r=.bad (j+1):=by rw[<-dw.out,Wp s j said aQ (by rw[eX];exact c3) (fun h=>absurd h hlt2)]
       have eK:q=.bad 3 (j+1):=by rw[<-bo.out];unfold rdStr;rw[dk.out,bF]
       clear dl b2 em c1 c2 c3 eX bF;subst eK;go_wp2_with fail;have sD:=agq s (j+1) wr Nw;refine cm sD ?_;rintro ey ao ⟨rfl,rfl⟩;exact anK
     ·
      have t3:(((s[j].toNat:Nat):Int)==92)=false:=by rw[show (92:Int)=(((92:UInt8).toNat:Nat):Int) from rfl,em];simp[c3]
      have bF:Vb s (j+1) (said++[s[j]])=r:=by rw[<-dw.out,abC s j said aQ (by rw[eX];exact c1) (by rw[eX];exact c2) (by rw[eX];exact c3),eX]
      have hB:=hide bF;clear dl b2 em c1 c2 c3 eX bF
      go_wp2_with (at_builtin;refine wpList_append_own _ rfl _ _ 42 rfl (w.heap.size+1) 5 i0 (.int .u8 0) 1 1 underlying42 ay dH b6 cq rfl NH _ _ _ rfl (HOWN.alloc _) (Nv wr.heap.size 0) 1 1 [.int .u8 (s[j].toNat:Int)] rfl rfl ?c1 ?c2 ?c3 ?c4 ?c5 ?_)
      case c1=>
       intro j u aT
       match j,aT with
       | 0,aT=>simp at aT;subst aT;simp[Addr.add]
      case c2=>intro u aO;simp at aO;subst aO;rfl
      case c3=>unfold maxLen;omega
      case c4=>omega
      case c5=>simp;omega
      intro v' w1 hown' hgrow _;have R:=ajh (b:=s[j]) _ aZ c9 HOWN hown' hgrow;have bY:=hide R;clear R
      go_wp2
      go_roundw
      case rel=>exact⟨j+1,said++[s[j]],by omega,by simp;omega,by go_num,hB.out,bY.out.1,bY.out.2.1,bY.out.2.2⟩
      case measure=>simp[intOf];omega
  ·have bF:r=.bad s.size:=by rw[<-dw.out,agr s j said aQ]
   have eK:q=.bad 3 s.size:=by rw[<-bo.out];unfold rdStr;rw[dk.out,bF]
   clear bF;subst eK;exact anK
end
end Go.Proofs.YticfnaiehdpbmaaGreatDoor
