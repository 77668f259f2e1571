import Derived.Test.YticfnaiehdpbmaaGreatDoorAg10
import Derived.Test.YticfnaiehdpbmaaGreatDoorAg9
set_option maxRecDepth 100000
set_option maxHeartbeats 8000000
set_option linter.unusedVariables false
namespace Go.Proofs.YticfnaiehdpbmaaGreatDoor
open Go.RowKit Go.Proofs.Tryz
theorem NT.get {I:Nat->Prop}{w:Ny}:∀ (am:List Tr) (ps:List Nat),NT I w am ps->∀ k,(E:k<am.length)->∃ al:k<ps.length,O7 I w am[k] ps[k]
 | [],_,_,k,E=>absurd E Oq
 | t::am,ps,h,k,E=>by
  obtain⟨p,eu,rfl,h1,O⟩:=h.parts
  cases k with
  | zero=>exact⟨by simp,h1⟩
  | succ k=>
   obtain⟨al,aA⟩:=NT.get am eu O k (by simpa using E);exact⟨by simpa using al,by simpa using aA⟩
theorem TN.get {I:Nat->Prop}{w:Ny}:∀ (am:List Tr) (ps:List Nat),TN I w am ps->∀ k,(E:k<am.length)->∃ al:k<ps.length,O7 I w am[k] ps[k]
 | [],_,_,k,E=>absurd E Oq
 | t::am,ps,h,k,E=>by
  obtain⟨p,eu,rfl,h1,O⟩:=h
  cases k with
  | zero=>exact⟨by simp,h1⟩
  | succ k=>
   obtain⟨al,aA⟩:=TN.get am eu O k (by simpa using E);exact⟨by simpa using al,by simpa using aA⟩
theorem Uk:∀ (am:List Tr) (k:Nat) (E:k<am.length),Tr.counts (am.take (k+1))=Tr.counts (am.take k)+(am[k]).count
 | [],k,E=>absurd E Oq
 | t::am,0,_=>by simp[NZ,Oe]
 | t::am,k+1,E=>by
  have:=Uk am k (by simpa using E);simp only[List.take_succ_cons,NZ,List.getElem_cons_succ];omega
theorem SY (am:List Tr)(k:Nat)(E:k<am.length):(am[k]).count<=Tr.counts am:=by
 have h1:=Uk am k E;have O:Tr.counts am=Tr.counts (am.take (k+1))+Tr.counts (am.drop (k+1)):=by rw[<-SL,List.take_append_drop]
 omega
theorem ald (t:Tr):1<=t.count:=by cases t with|mk kd tx n ks=>rw[count_mk];omega
theorem Rx:∀ (am:List Tr),am.length<=Tr.counts am
 | []=>by simp
 | t::am=>by
  have h1:=ald t;have O:=Rx am;rw[NZ,List.length_cons];omega
abbrev aDm (b:Nat):NP:=.func (.func 72) #[] #[NM b 0]
theorem aie (v:NP)(b:Nat)(n:Int)(w:Ny)(ai:w.cell? (Nv b 0)=some (Nr n))(aG:∀ o,w.frozen? (Nv b o)=false)(aA:0<=n)(kl:n<=100000) :
  NK 72 #[v,NM b 0] w fun e w'=>e=NU (NI true)/\w'=w.setCell (Nv b 0) (Nr (n+1)):=by
 go_enter func72,ntmps72;go_wp2_with fail;go_ret;exact⟨rfl,rfl⟩
theorem O7.aaG {I:Nat->Prop}{w:Ny}{t:Tr}{p:Nat}(h:O7 I w t p):∃ u ps,w.heap[p]? = some (OA t.kd t.tx t.n u)/\w.ownsRow 0 22 1 u ps.length (ps.map Nu)/\(∀ g,u.ownBlock=some g->I g)/\NT I w t.kids ps:=by
 cases t with
 | mk kd tx n ks=>
  rw[O7] at h;obtain⟨_,u,ps,h1,O,ax⟩:=h;exact⟨u,ps,h1,O.1,O.2,NT.mono (fun b D _=>D.1) _ _ ax⟩
structure Cnt (b:Nat)(n:Nat)(w:Ny):Prop where
 blk:w.heap[b]? = some (Og #[Nr (n:Int)] 3)
theorem Cnt.set {b n:Nat}{w:Ny}(h:Cnt b n w)(m:Nat){v:Int}(ap:v=(m:Int)):Cnt b m (w.setCell (Nv b 0) (Nr v)):=⟨by rw[heap_set h.blk,ap];rfl⟩
theorem aEU:UE 72:=fun _ _=>by kernel_rfl
theorem walk_any (b:Nat):∀ (m:Nat) (t:Tr),t.count<=m->∀ (p n:Nat) (w:Ny),O7 (fun x=>x≠b) w t p->Cnt b n w->n+t.count<=100000 ->
  NK 36 #[Nu p,aDm b] w fun e w'=>e=NU (.tuple #[])/\Cnt b (n+t.count) w'/\Ap b w.heap.size w w':=by
 intro m
 induction m with
 | zero=>
  exact atl
 | succ m bR=>
  intro t a' p n w fd mZ dX;obtain⟨u,ps,hblk,hrow,oV,eJ⟩:=fd.aaG;have hlen:=NT.length _ _ eJ;have bU:p≠b:=by
   cases t with
   | mk kd tx gy ks=>rw[O7] at fd;exact fd.1
  have z:=kk (∀{G}(h:G:=by
  have c0:w.cell? (Nv b 0)=some (Nr (n:Int)):=by rw[cell_of mZ.blk];rfl
  have ou:=QM mZ.blk;have js:=aEU;have hs:∀ W:Ny,(binOp .eql 47 (aDm b) .nilFunc).run prog W=.ok (NI false) W:=fun W=>by kernel_rfl
  have ah:=(aie (Nu p) b (n:Int) w c0 ou Nw Nw);have wW:=mZ;have th:=hide oV;have np:=hide bR;have p9:=hide gL;have uI:=hide a';have rJ:=hide dX;have nX:¬ b=p:=fun e=>bU e.symm;have d1:(w.setCell (Nv b 0) (Nr ((n:Int)+1))).cell? (Nv p 3)=some (.slice cT ps.length uc):=by
   rw[World.cell?_of_block (w:=w) (Below.heap_setCell w (Nv b 0) _ p bU)];exact fO
  rw[hlen] at d1;have nn:=hide d1;clear c0 ou oV bR gL a' dX hblk fO bU nX d1;have c7:=Ns nn;go_enter func36,ntmps36;go_wp2_with fail;refine cm ah ?_;rintro e w1 ⟨rfl,rfl⟩;go_wp2_with fail
  go_loopw [23] (fun i wr=>∃ k:Nat,k<=t.kids.length/\i=Nr k/\Cnt b (n+1+Tr.counts (t.kids.take k)) wr/\Ap b w.heap.size w wr) (fun i _=>t.kids.length - (intOf i).toNat)
  case atStart=>exact⟨0,Nat.zero_le _,rfl,by simpa[Oe] using wW.set (n+1) Nw,Ap.setCell (R:=b) (Ap.refl _ _ _) (p:=(Nv b 0)) (Or.inr rfl) _⟩
  case round=>
   obtain⟨k,E,rfl,mZ,gv⟩:=hrel
   by_cases aQ:k<t.kids.length
   ·obtain⟨g,cap,ap,hcell⟩:=VQ hrow Nw;simp only[Value.slice.injEq] at ap;obtain⟨rfl,_,rfl⟩:=ap;obtain⟨dd,mo⟩:=NT.get _ _ eJ k aQ;have tS:g≠b:=Ns th g rfl;have dx:g<w.heap.size:=(O9 hrow g rfl).1;have eI:wr.cell? (Nv g k)=some (Nu ps[k]):=by
     rw[gv.cell (p:=(Nv g k)) dx tS];exact hcell k dd
    have vT:O7 (fun x=>x≠b) wr t.kids[k] ps[k]:=O7.later (fun x ac hl=>gv.block x hl ac) _ _ mo;have h5:=SY t.kids k aQ;have tZ:=Uk t.kids k aQ;have h1:=Ns p9;have O:=Ns uI;have ax:=Ns rJ;have htot:Tr.counts (t.kids.take k)+(t.kids[k]).count<=Tr.counts t.kids:=by
     exact atu
    have ah:=(np.out t.kids[k] Nw ps[k] (n+1+Tr.counts (t.kids.take k)) wr vT mZ Nw);have iy:=hide tZ;have z:=kk (∀{G}(h:G:=by
    have rh:t.kids.length<=100000:=by have:=Rx t.kids;omega
    clear hcell h5 tZ h1 O ax htot ag;go_wp2_with fail;refine cm ah ?_;rintro e w2 ⟨rfl,eH,ha2⟩;have ec:=(gv.next ha2);clear eI;go_wp2_with fail
    go_roundw
    case rel=>exact⟨k+1,by omega,by go_num,by rw[iy.out];have:=eH;rw[Nat.add_assoc] at this;exact this,ec⟩
    case measure=>simp[intOf];omega),G);exact atv
   ·have e4:k=t.kids.length:=Nw;subst e4;go_wp2_with fail
    go_end0
    refine⟨rfl,?_,gv⟩;have:=mZ;rw[List.take_length] at this;rw[p9.out,<-Nat.add_assoc];exact this),G);exact axO
abbrev Qu (B:Nat)(w:Ny)(v:NP)(l:List NR):Prop:=w.ownsRow B 9 1 v l.length (l.map Value.string)
theorem info9:(prog.info? 9).map (fun i=>(i.zero,i.size,i.bytes))=some (some (ND ByteArray.empty),1,16):=by kernel_rfl
theorem N8 {w:Ny}{B e sz n:Nat}{v:NP}{xs:List NP}(h:w.ownsRow B e sz v n xs):∃ a cap,v=.slice a n cap:=by
 rcases h.2 with ⟨rfl,rfl⟩|⟨g,cap,cl,rfl,_⟩
 ·exact⟨none,0,rfl⟩
 ·exact⟨_,cap,rfl⟩
theorem WW (B:Nat)(w:Ny):Qu B w PG []:=⟨rfl,Or.inl ⟨rfl,rfl⟩⟩
theorem S9 {B:Nat}{w:Ny}{v:NP}{l:List NR}(h:Qu B w v l)(k:Nat)(E:k<l.length):∃ g cap,v=.slice (some (Nv g 0)) l.length cap/\g<w.heap.size/\B<=g/\w.cell? (Nv g k)=some (ND l[k]):=by
 obtain⟨g,cap,rfl,_,_⟩:=h.form Nw;have h1:=O9 h g rfl;refine⟨g,cap,rfl,h1.1,h1.2,?_⟩;rw[h.cellAt k Nw];simp[E]
theorem acr (l:List NR):∀ u ∈ l.map Value.string,u.oneCell'=true:=by
 intro u aO;obtain⟨p,_,rfl⟩:=List.mem_map.1 aO;rfl
theorem WX (w:Ny)(s:NR)(H:Nat)(h:w.heap.size=H):∀ j u,[Value.string s][j]? = some u->(w.alloc (.cells #[ND s] 9)).cell? (((Nv H 0):Addr).add j)=some u:=by
 subst h;intro j u aT
 match j with
 | 0=>
  simp only[List.getElem?_cons_zero,Option.some.injEq] at aT;subst aT
  show (w.alloc (.cells #[ND s] 9)).cell? (Nv w.heap.size (0+0))=_
  rw[cell_of (NG w (.cells #[ND s] 9))];rfl
 | n+1=>simp at aT
theorem aaF (s:NR):∀ u ∈ [Value.string s],u.oneCell'=true:=by
 intro u aO;rw[List.mem_singleton.1 aO];rfl
def hasB (l:List NR)(s:NR):Bool:=l.any (fun x=>decide (s=x))
theorem aeX {l:List NR}{s:NR}:hasB l s=true↔s ∈ l:=by simp[hasB]
theorem apm {l:List NR}{s:NR}:hasB l s=false↔s ∉ l:=by rw[<-aeX];simp
def Y6 (l:List NR)(s:NR):List NR:=if hasB l s then l else l++[s]
def Wu (l:List NR):List NR:=l.foldl Y6 []
section
variable {B:Nat} (l:List NR) (s:NR) (v:NP) (w:Ny) (h:Qu B w v l) (hl:l.length<=100000)
include B l s v w h hl
theorem ajP :
  NK 179 #[v,ND s] w fun e w'=>(∃ k:Int,e=NU (Nr k)/\decide (0<=k)=hasB l s)/\w'=w:=by
 obtain⟨va,dv,rfl⟩:=N8 h;have dk:=h;clear h;go_enter func179,ntmps179;go_wp2_with fail
 go_loopw [8] (fun i wr=>∃ k:Nat,k<=l.length/\i=Nr k/\s ∉ l.take k/\wr=w) (fun i _=>l.length - (intOf i).toNat)
 case atStart=>exact⟨0,Nat.zero_le _,rfl,by simp,rfl⟩
 case round=>
  obtain⟨k,E,rfl,fo,rfl⟩:=hrel;have fJ:=hide fo;clear fo
  by_cases aQ:k<l.length
  ·obtain⟨g,cap,ap,hg,_,ai⟩:=S9 dk k aQ;have z:=kk (∀{G}(h:G:=by
   obtain⟨x,dS⟩:=xH (l[k]);rw[<-dS.out] at ai
   by_cases au:s=x
   ·subst au;go_wp2_with fail;go_ret;refine⟨⟨k,rfl,?_⟩,rfl⟩;rw[decide_eq_true Nw,eq_comm,aeX,dS.out];exact List.getElem_mem _
   ·have ci:=aci au;have dw:=hide au;clear au;go_wp2_with fail
    go_roundw
    case rel=>
     refine⟨k+1,by omega,by go_num,?_,trivial⟩;rw[List.take_succ_eq_append_getElem aQ];intro aV
     rcases List.mem_append.1 aV with aV|aV
     ·exact Ns fJ aV
     ·exact Ns dw (by rw[dS.out];exact List.mem_singleton.1 aV)
    case measure=>simp[intOf];omega),G);exact ajQ
  ·have cM:k=l.length:=Nw;subst cM;go_wp2_with fail;go_ret;refine⟨⟨-1,rfl,?_⟩,rfl⟩;have h:=Ns fJ;rw[List.take_length] at h;rw[apm.2 h];rfl
theorem UG :
  NK 88 #[v,ND s] w fun e w'=>e=NU (NI (hasB l s))/\w'=w:=by
 have ah:=(ajP l s v w h hl);clear h;go_enter func88,ntmps88;go_wp2_with fail;refine cm ah ?_;rintro e w1 ⟨⟨k,rfl,E⟩,rfl⟩;have f2:=hide E;clear E;go_wp2_with fail;go_ret;exact⟨Sj f2.out,rfl⟩
end
theorem take_snoc' {α:Type}(l:List α)(k:Nat)(E:k<l.length):l.take (k+1)=l.take k++[l[k]]:=List.take_succ_eq_append_getElem E
theorem ajR (l:List NR)(k:Nat)(E:k<l.length):Wu (l.take (k+1))=Y6 (Wu (l.take k)) l[k]:=by
 rw[take_snoc' l k E,Wu,List.foldl_append];rfl
theorem Yn (l:List NR):(Wu l).length<=l.length:=by
 have:∀ (l be:List NR),(l.foldl Y6 be).length<=be.length+l.length:=by
  intro l
  induction l with
  | nil=>intro be;simp
  | cons x l bR=>
   intro be;have h:=bR (Y6 be x);have O:(Y6 be x).length<=be.length+1:=by unfold Y6;split <;> simp
   simp only[List.foldl_cons,List.length_cons];omega
 simpa[Wu] using this l []
theorem aeY {B:Nat}(l:List NR)(v:NP)(w:Ny)(h:Qu B w v l)(hl:l.length<=90000) :
  NK 121 #[v] w fun e w'=>(∃ u,e=NU u/\Qu w.heap.size w' u (Wu l))/\NJ w w':=by
 obtain⟨i0,d2,dH,b6,cq⟩:=info_parts info9;obtain⟨va,dv,rfl⟩:=N8 h;have dk:=h;clear h;go_enter func121,ntmps121;go_wp2_with fail
 go_loopw [3,8] (fun o i wr=>∃ k:Nat,k<=l.length/\i=Nr k/\Qu w.heap.size wr o (Wu (l.take k))/\NJ w wr) (fun _ i _=>l.length - (intOf i).toNat)
 case atStart=>exact⟨0,Nat.zero_le _,rfl,WW _ _,P8⟩
 case round=>
  obtain⟨k,E,rfl,hown,hbel⟩:=hrel;have HOWN:=hown;obtain⟨aC,iK,rfl⟩:=N8 hown
  by_cases aQ:k<l.length
  ·obtain⟨g,cap,ap,hg,_,ai⟩:=S9 dk k aQ;have z:=kk (∀{G}(h:G:=by
   obtain⟨x,dS⟩:=xH (l[k]);rw[<-dS.out] at ai;have LD:wr.cell? (Nv g k)=some (ND x):=by rw[hbel.cell (p:=(Nv g k)) hg];exact ai
   have uN:=hide (ajR l k aQ);have nR:=Yn (l.take k);rw[List.length_take] at nR;obtain⟨L,dV⟩:=xH (Wu (l.take k));rw[<-dV.out] at nR;have nz:Qu w.heap.size wr (.slice aC L.length iK) L:=by
    have h:=HOWN;rw[<-dV.out] at h;exact h
   rw[<-dV.out];have Lt:L.length<=k:=Nw;have ah:=(UG L x _ wr nz Nw);have db:g<wr.heap.size:=Nat.lt_of_lt_of_le hg hbel.size;have c9:=hbel.size;clear ai hg nR
   cases hh:hasB L x with
   | true=>
    rw[hh] at ah;have iw:=hide hh;clear hh;have z:=kk (∀{G}(h:G:=by
    go_roundw
    case rel=>
     refine⟨k+1,by omega,by go_num,?_,hbel⟩;rw[uN.out,<-dV.out,<-dS.out,Y6,if_pos iw.out];exact nz
    case measure=>simp[intOf];omega),G);exact adf
   | false=>
    rw[hh] at ah;have iw:=hide hh;clear hh;go_wp2_with fail;refine cm ah ?_;rintro e w2 ⟨rfl,rfl⟩
    go_wp2_with (at_builtin;refine wpList_append_lies _ rfl _ _ 26 rfl w.heap.size 9 i0 (ND ByteArray.empty) 1 16 underlying26 d2 dH b6 cq rfl NH _ _ _ rfl (nz.alloc _) (Nv w2.heap.size 0) 1 1 [ND x] rfl rfl (WX w2 x _ rfl) (aaF x) NH (by unfold maxLen;omega) Nw Qa (w2.heap.size+1) Oq ?_)
    intro gX cap' ao hown' hgrow iD _;have ef:=((hbel.alloc c9 (.cells #[ND x] 9)).grown hgrow Qa (fun b D=>(O9 nz b D).2));clear iD;go_wp2_with fail
    go_roundw
    case rel=>
     refine⟨k+1,by omega,by go_num,?_,ef⟩;rw[uN.out,<-dV.out,<-dS.out,Y6,if_neg (by rw[iw.out];decide)]
     have h:=hown'
     show World.ownsRow _ _ _ _ _ _ _
     rw[List.length_append,List.map_append];exact h
    case measure=>simp[intOf];omega),G);exact ajQ
  ·have cM:k=l.length:=Nw;exact axB
abbrev SC (w:Ny)(t:Tr)(p:Nat):Prop:=O7 (fun _=>True) w t p
def Rn (B:Nat)(w:Ny)(v:NP)(am:List Tr):Prop:=∃ ps:List Nat,w.ownsRow B 22 1 v ps.length (ps.map Nu)/\TN (fun _=>True) w am ps
theorem Below.stay {I:Nat->Prop}{w w':Ny}(h:NJ w w'):TM I w w':=fun b _ hl=>h.block b hl
theorem O7.nt {I:Nat->Prop}{w:Ny}{t:Tr}{p:Nat}(h:O7 I w t p):SC w t p:=O7.mono (fun _ _ _=>trivial) _ _ h
theorem SC.later {w w':Ny}{t:Tr}{p:Nat}(h:SC w t p)(D:NJ w w'):SC w' t p:=O7.later (Below.stay D) _ _ h
theorem Rn.later {B:Nat}{w w':Ny}{v:NP}{am:List Tr}(h:Rn B w v am)(D:NJ w w'):Rn B w' v am:=by
 exact axC
theorem Qu.later {B:Nat}{w w':Ny}{v:NP}{l:List NR}(h:Qu B w v l)(D:NJ w w'):Qu B w' v l:=Qs (I:=fun _=>True) (Below.stay D) (fun _ _=>trivial) h
theorem Rn.form {B:Nat}{w:Ny}{v:NP}{am:List Tr}(h:Rn B w v am):∃ a cap,v=.slice a am.length cap:=by
 obtain⟨ps,h1,O⟩:=h;rw[<-TN.length _ _ O];exact Tt h1
theorem Rn.nil (B:Nat)(w:Ny):Rn B w PG []:=⟨[],⟨rfl,Or.inl ⟨rfl,rfl⟩⟩,TN.nil⟩
section
variable {B:Nat} {w:Ny} {v:NP} {am:List Tr} (h:Rn B w v am)
include B w v am h
theorem Rn.cell (k:Nat)(E:k<am.length):∃ g cap p,v=.slice (some (Nv g 0)) am.length cap/\g<w.heap.size/\w.cell? (Nv g k)=some (Nu p)/\SC w am[k] p:=by
 exact axD
theorem Rn.own (g:Nat)(hg:v.ownBlock=some g):g<w.heap.size/\B<=g:=by
 obtain⟨ps,h1,O⟩:=h;exact O9 h1 g hg
end
theorem SC.cells {w:Ny}{t:Tr}{p:Nat}(h:SC w t p):p<w.heap.size/\w.cell? (Nv p 0)=some (Nr t.kd)/\w.cell? (Nv p 1)=some (ND t.tx)/\∃ u,w.cell? (Nv p 3)=some u/\Rn 0 w u t.kids:=by
 obtain⟨u,ps,D,U,_,E⟩:=O7.aaG h;obtain⟨c0,c1,_,c3,_⟩:=node_cells D;exact⟨lt_of_heap D,c0,c1,u,c3,ps,U,NT.nl _ _ E⟩
theorem agW (w:Ny)(q:Nat)(H:Nat)(h:w.heap.size=H):∀ j u,[Nu q][j]? = some u->(w.alloc (.cells #[Nu q] 22)).cell? (((Nv H 0):Addr).add j)=some u:=by
 subst h;intro j u aT
 match j with
 | 0=>
  simp only[List.getElem?_cons_zero,Option.some.injEq] at aT;subst aT
  show (w.alloc (.cells #[Nu q] 22)).cell? (Nv w.heap.size (0+0))=_
  rw[cell_of (NG w (.cells #[Nu q] 22))];rfl
 | n+1=>simp at aT
theorem alT (q:Nat):∀ u ∈ [Nu q],u.oneCell'=true:=by
 intro u aO;rw[List.mem_singleton.1 aO];rfl
theorem acs {B:Nat}(am:List Tr)(v:NP)(w:Ny)(h:Rn B w v am)(hl:am.length<=90000) :
  NK 164 #[v] w fun e w'=>(∃ u,e=NU u/\Qu w.heap.size w' u (am.map Tr.tx))/\NJ w w':=by
 obtain⟨i0,d2,dH,b6,cq⟩:=info_parts info9;obtain⟨va,dv,rfl⟩:=h.form;have dk:=h;clear h;go_enter func164,ntmps164;go_wp2_with fail
 go_loopw [3,8] (fun o i wr=>∃ k:Nat,k<=am.length/\i=Nr k/\Qu w.heap.size wr o ((am.take k).map Tr.tx)/\NJ w wr) (fun _ i _=>am.length - (intOf i).toNat)
 case atStart=>exact⟨0,Nat.zero_le _,rfl,WW _ _,P8⟩
 case round=>
  obtain⟨k,E,rfl,hown,hbel⟩:=hrel;have HOWN:=hown;obtain⟨aC,iK,rfl⟩:=N8 hown
  by_cases aQ:k<am.length
  ·obtain⟨g,cap,q,ap,hg,ai,aA⟩:=(dk.later hbel).cell k aQ;simp only[Value.slice.injEq] at ap;obtain⟨rfl,_,rfl⟩:=ap;obtain⟨dL,_,c1,_⟩:=aA.cells;have hL:(k:Int)<(am.length:Int):=Nw;obtain⟨x,dS⟩:=xH ((am[k]).tx);rw[<-dS.out] at c1;have c9:=hbel.size;obtain⟨L,dV⟩:=xH ((am.take k).map Tr.tx);have pu:L.length=k:=by rw[dV.out];simp;omega
   rw[<-dV.out] at HOWN ⊢;have nz:World.ownsRow wr w.heap.size 9 1 (.slice aC k iK) k (L.map Value.string):=by
    have h:World.ownsRow wr w.heap.size 9 1 (.slice aC L.length iK) L.length (L.map Value.string):=HOWN;rw[pu] at h;exact h
   rw[pu];have oa:=hide pu;clear pu;have z:=kk (∀{G}(h:G:=by
   clear iD;go_wp2_with fail
   go_roundw
   case rel=>
    refine⟨k+1,by omega,by go_num,?_,ef⟩;rw[List.take_succ_eq_append_getElem aQ,List.map_append,<-dV.out]
    show World.ownsRow _ _ _ _ _ _ _
    rw[List.length_append,List.map_append,oa.out]
    show World.ownsRow _ _ _ _ _ _ (_++[Value.string (am[k]).tx])
    rw[<-dS.out];exact hown'
   case measure=>simp[intOf];omega),G);exact axE
  ·have cM:k=am.length:=Nw;exact axB
theorem alU (t:Tr)(p:Nat)(w:Ny)(h:SC w t p):NK 120 #[Nu p] w fun e w'=>(∃ u,e=NU u/\Rn 0 w u t.kids)/\w'=w:=by
 obtain⟨eY,_,_,u,c3,U⟩:=h.cells;obtain⟨cT,uc,rfl⟩:=U.form;clear h;go_enter func120,ntmps120;go_wp2_with fail;go_ret;exact⟨⟨_,rfl,U⟩,rfl⟩
abbrev fnV (F:Nat):NP:=.func (.func F) #[] #[]
theorem Yu (F:Nat)(f:Tr->Bool)(js:UE F)
  (ak:∀ t p W,SC W t p->NK F #[Nu p] W fun e w'=>e=NU (NI (f t))/\w'=W)
  (t:Tr) (p:Nat) (w:Ny) (h:SC w t p) (hl:t.kids.length<=90000) :
  NK 129 #[Nu p,fnV F] w fun e w'=>(∃ u,e=NU u/\Rn w.heap.size w' u (t.kids.filter f))/\NJ w w':=by
 obtain⟨i0,d2,dH,b6,cq⟩:=info_parts info22;have f2:=(alU t p w h);have hR:=hide ak;clear h ak
 generalize Bc:t.kids=am at f2 hl
 clear Bc t;go_enter func129,ntmps129;go_wp2_with fail;refine cm f2 ?_;rintro e w1 ⟨⟨u,rfl,U⟩,rfl⟩;obtain⟨va,dv,rfl⟩:=U.form;go_wp2_with fail
 go_loopw [5,11] (fun o i wr=>∃ (k:Nat) (dR:List Nat),k<=am.length/\i=Nr k/\wr.ownsRow w1.heap.size 22 1 o dR.length (dR.map Nu)/\TN (fun _=>True) w1 ((am.take k).filter f) dR/\NJ w1 wr) (fun _ i _=>am.length - (intOf i).toNat)
 case atStart=>exact⟨0,[],Nat.zero_le _,rfl,⟨rfl,Or.inl ⟨rfl,rfl⟩⟩,TN.nil,P8⟩
 case round=>
  obtain⟨k,dR,E,rfl,hown,fo,hbel⟩:=hrel;have dr:=hown;obtain⟨aC,iK,rfl⟩:=Tt hown;have dL:=TN.length _ _ fo
  by_cases aQ:k<am.length
  ·obtain⟨g,cap,q,ap,hg,ge,rn⟩:=U.cell k aQ;simp only[Value.slice.injEq] at ap;obtain⟨rfl,_,rfl⟩:=ap;have z:=kk (∀{G}(h:G:=by
   have ah:=(Ns hR am[k] q wr (rn.later hbel));have iy:=hide (List.take_succ_eq_append_getElem aQ);have db:g<wr.heap.size:=Nw;have pu:dR.length<=k:=by rw[dL];have:=List.length_filter_le f (am.take k);rw[List.length_take] at this;omega
   have rX:=hide (O9 dr);clear ge dL
   cases hh:f am[k] with
   | true=>
    have z:=kk (∀{G}(h:G:=by
    go_roundw
    case rel=>
     refine⟨k+1,dR++[q],by omega,by go_num,?_,?_,ef⟩
     ·rw[List.length_append,List.map_append];exact hown'
     ·rw[iy.out,List.filter_append];simp only[List.filter_cons,iw.out,List.filter_nil,if_true];exact TN.append (TN.cons rn TN.nil) _ _ fo
    case measure=>simp[intOf];omega),G);exact axF
   | false=>
    rw[hh] at ah;have iw:=hide hh;clear hh;have z:=kk (∀{G}(h:G:=by
    go_roundw
    case rel=>
     refine⟨k+1,dR,by omega,by go_num,dr,?_,hbel⟩;rw[iy.out,List.filter_append];simp only[List.filter_cons,iw.out,List.filter_nil,Bool.false_eq_true,if_false,List.append_nil];exact fo
    case measure=>simp[intOf];omega),G);exact adf),G);exact axG
  ·have cM:k=am.length:=Nw;subst cM;go_wp2_with fail;go_ret;have h:=fo;rw[List.take_length] at h;exact⟨⟨_,rfl,dR,dr,TN.later (Below.stay hbel) _ _ h⟩,hbel⟩
theorem axH:UE 130:=fun _ _=>by kernel_rfl
theorem axI:UE 163:=fun _ _=>by kernel_rfl
def RN (t:Tr):Bool:=t.kd==5
def OI (t:Tr):Bool:=t.kd==3||t.kd==4
def Qq (t:Tr):Bool:=t.kd==5||t.kd==37
section
variable (t:Tr) (p:Nat) (w:Ny) (h:SC w t p)
include t p w h
theorem aaH:NK 130 #[Nu p] w fun e w'=>e=NU (NI (RN t))/\w'=w:=by
 obtain⟨eY,c0,_,_⟩:=h.cells;clear h;go_enter func130,ntmps130;go_wp2_with fail;go_ret;exact⟨rfl,rfl⟩
theorem acu:NK 163 #[Nu p] w fun e w'=>e=NU (NI (OI t))/\w'=w:=by
 obtain⟨eY,c0,_,_⟩:=h.cells;clear h;unfold OI
 generalize t.kd=kd at c0
 cases ax:(kd==3)
 all_goals
  go_enter func163,ntmps163;go_wp2_with fail;go_ret;exact⟨rfl,rfl⟩
theorem ajS:NK 119 #[Nu p] w fun e w'=>e=NU (NI (Qq t))/\w'=w:=by
 obtain⟨eY,c0,_,_⟩:=h.cells;clear h;unfold Qq
 generalize t.kd=kd at c0
 cases ax:(kd==5)
 all_goals
  go_enter func119,ntmps119;go_wp2_with fail;go_ret;exact⟨rfl,rfl⟩
end
def RS (t:Tr):List Tr:=t.kids.filter RN
def OC (t:Tr):List Tr:=t.kids.filter OI
section
variable (t:Tr) (p:Nat) (w:Ny) (h:SC w t p) (hl:t.kids.length<=90000)
include t p w h hl
theorem YZ :
  NK 59 #[Nu p] w fun e w'=>(∃ u,e=NU u/\Rn w.heap.size w' u (RS t))/\NJ w w':=by
 have ah:=(Yu 130 RN axH aaH t p w h hl);clear h;go_enter func59,ntmps59;exact apn
theorem aaw :
  NK 77 #[Nu p] w fun e w'=>(∃ u,e=NU u/\Rn w.heap.size w' u (OC t))/\NJ w w':=by
 have ah:=(Yu 163 OI axI acu t p w h hl);clear h;go_enter func77,ntmps77;exact apn
end
def ownVar (t:Tr):List NR:=if t.kd==2 then [t.tx] else []
mutual
def vw:Tr->List NR
 | .mk kd tx _ ks=>(if kd==2 then [tx] else [])++(if kd==5||kd==37 then [] else vws ks)
def vws:List Tr->List NR
 | []=>[]
 | t::am=>vw t++vws am
end
theorem axJ (t:Tr):vw t=ownVar t++(if Qq t then [] else vws t.kids):=by
 cases t with
 | mk kd tx n ks=>rw[vw];rfl
theorem aiy:∀ a b:List Tr,vws (a++b)=vws a++vws b
 | [],b=>by simp[vws]
 | t::a,b=>by simp[vws,aiy a b]
theorem aeZ (am:List Tr)(k:Nat)(E:k<am.length):vws (am.take (k+1))=vws (am.take k)++vw am[k]:=by
 rw[List.take_succ_eq_append_getElem E,aiy];simp[vws]
mutual
theorem att:∀ t:Tr,(vw t).length<=t.count
 | .mk kd tx n ks=>by
  have h:=Xw ks;rw[vw,count_mk]
  split <;> split <;> simp <;> omega
theorem Xw:∀ am:List Tr,(vws am).length<=Tr.counts am
 | []=>by simp[vws]
 | t::am=>by
  have h1:=att t;have O:=Xw am;rw[vws,NZ];simp;omega
end
structure aaI (b B:Nat)(l:List NR)(w:Ny):Prop where
 lt:b<B
 sz:B<=w.heap.size
 own:∃ v,w.heap[b]? = some (Og #[v] 26)/\Qu B w v l
theorem aaI.drew {b B:Nat}{l:List NR}{w:Ny}(h:aaI b B l w):aaI b B l w.drew:=⟨h.lt,h.sz,h.own⟩
theorem ajT {b B g cap n:Nat}{l:List NR}{s:NR}{wd ao:Ny}{v:NP}(aQ:b<B)(c9:B<=wd.heap.size)(D:wd.heap[b]? = some (Og #[v] 26))(hown:wd.ownsRow B 9 1 v l.length (l.map Value.string))(aA:n=l.length+1)
  (hown3:ao.ownsRow B 9 1 (.slice (some (Nv g 0)) n cap) n (l.map Value.string++[ND s])) (db:(wd.alloc (.cells #[ND s] 9)).grownBy ao v.ownBlock) :
  aaI b B (l++[s]) (ao.setCell (Nv b 0) (.slice (some (Nv g 0)) n cap))/\Ap b B wd (ao.setCell (Nv b 0) (.slice (some (Nv g 0)) n cap)):=by
 subst aA;have f9:∀ k,v.ownBlock=some k->B<=k:=fun k E=>(O9 hown k E).2;have gv:Ap b B wd (ao.setCell (Nv b 0) (.slice (some (Nv g 0)) (l.length+1) cap)):=(((Ap.refl b B wd).alloc c9 _).grown db Qa f9).setCell (p:=(Nv b 0)) (Or.inr rfl) _;have ax:ao.heap[b]? = some (Og #[v] 26):=by
  rw[db.block b Qa (fun e=>by have:=f9 b e.symm;omega),Below.heap_alloc _ _ _ Nw]
  exact D
 have LJ:B<=g:=(O9 hown3 g rfl).2;refine⟨⟨aQ,Nat.le_trans c9 gv.size,_,by rw[heap_set ax];rfl,?_⟩,gv⟩
 show World.ownsRow _ _ _ _ _ _ _
 rw[show (l++[s]).length=l.length+1 by simp,List.map_append];exact Qs (I:=fun x=>x=g) (fun x ac _=>Below.heap_setCell ao (Nv b 0) _ x (by have h1:x=g:=ac;show x≠b;omega)) (fun y hy=>by simpa[Value.ownBlock] using hy.symm) hown3
theorem alV {G goal:Prop}(h1:G->goal)(O:G):goal:=h1 O
theorem ajU {b B p:Nat}{l:List NR}{t:Tr}{w:Ny}(xq:aaI b B l w)(aA:O7 (fun x=>x<B/\x≠b) w t p)(hl:l.length<=100000) :
  NK 118 #[Nu p,NM b 0] w fun e w'=>e=NU (NI (!Qq t))/\aaI b B (l++ownVar t) w'/\Ap b B w w':=by
 obtain⟨i0,d2,dH,b6,cq⟩:=info_parts info9;have AW:p<B/\p≠b:=by
  cases t with
  | mk kd tx gy ks=>rw[O7] at aA;exact aA.1
 have hS:∀ W,Ap b B w W->Hid (NK 119 #[Nu p] W fun e w'=>e=NU (NI (Qq t))/\w'=W):=fun W a6=>ajS t p W (O7.nt (O7.later (fun x ac _=>a6.block x ac.1 ac.2) _ _ aA));obtain⟨eY,c0,c1,_⟩:=(O7.nt aA).cells;have yN:=xq;obtain⟨H7,HY,v,D,hown⟩:=xq;obtain⟨va,dv,rfl⟩:=N8 hown;have gC:w.cell? (Nv b 0)=some (.slice va l.length dv):=by rw[cell_of D];rfl
 have ou:=QM D 0;have ja:=lt_of_heap D;have bM:=hide D;obtain⟨tx,cD⟩:=xE t.tx;obtain⟨kd,bn⟩:=xE t.kd;obtain⟨q5,qq⟩:=xE (Qq t);rw[<-cD] at c1;rw[<-bn] at c0;rw[<-qq];have Ge:Hid (ownVar t=if kd==2 then [tx] else []):=by rw[cD,bn];rfl
 rw[Ge.out];simp only[<-qq] at hS;clear D cD bn qq
 cases E:(kd==2) with
 | false=>
  have ah:=hS w (Ap.refl _ _ _);go_enter func118,ntmps118;go_wp2_with fail;refine cm ah.out ?_;rintro e w2 ⟨rfl,rfl⟩;go_wp2_with fail;go_ret;exact⟨rfl,by simpa using yN,Ap.refl _ _ _⟩
 | true=>
  go_enter func118,ntmps118;go_wp2_with fail;refine alV (G:=?G1) (fun dI=>?_) ?_;rotate_left
  ·refine wp_region_any OJ ?_;change wpAny _ _ _ _ _ _ _ (World.drew _);refine wt 1 (Nu p) ?_;refine wt 2 (Nu p) ?_;refine wt 3 (NM p 1) ?_;refine wr2 0 4 (fun K A=>?_) (fun K A=>?_)
   ·go_simp;refine A _ _ ?_;clear A K;refine P6 4 fun K A=>?_;go_simp;refine A _ _ ?_;clear A K;refine P6 5 fun K A=>?_;go_simp;refine A _ _ ?_;clear A K;refine SQ (listed':=tf 6 2) OJ rfl ?_;exact dI
   ·go_simp;refine A _ _ ?_;clear A K;refine wr2 0 5 (fun K A=>?_) (fun K A=>?_)
    ·go_simp;refine A _ _ ?_;clear A K;refine P6 5 fun K A=>?_;exact axK
    ·go_simp;refine A _ _ ?_;clear A K;refine P6 0 fun K A=>?_;exact axK
  ·refine P6 6 fun K A=>?_;refine step_append_lies _ rfl _ _ 26 rfl B 9 i0 (ND ByteArray.empty) 1 16 underlying26 d2 dH b6 cq rfl NH _ _ _ rfl ((hown:World.ownsRow w.drew B 9 1 _ _ _).alloc _) (Nv w.heap.size 0) 1 1 [ND tx] rfl rfl (WX w.drew tx _ rfl) (aaF tx) NH (by unfold maxLen;omega) Nw Qa (w.heap.size+1) Oq ?_
   intro g cap ao hown3 eQ _ _;refine A _ _ ?_;clear A K;have n8:=hide (ajT (wd:=w.drew) H7 HY bM.out hown rfl hown3 eQ);have ax:ao.heap[b]? = w.heap[b]?:=(eQ.block b Qa (fun e=>by have:=(O9 hown b e.symm).2;omega)).trans (Below.heap_alloc w.drew _ b ja)
   have aH:ao.cell? (Nv b 0)=some (.slice va l.length dv):=(World.cell?_of_block (w:=w) ax).trans gC;have vj:ao.frozen? (Nv b 0)=false:=(World.frozen?_of_block (w:=w) ax).trans ou;have au:b<ao.heap.size:=lt_of_heap (ax.trans bM.out);clear ax gC ou;refine P6 7 fun K A=>?_;go_simp;refine A _ _ ?_;clear A K aH vj au;refine wpAny_done OJ ?_ _;go_simp;obtain⟨mm,ha2⟩:=Ns n8;obtain⟨W,a6⟩:=xE (ao.setCell (Nv b 0) (.slice (some (Nv g 0)) (l.length+1) cap));rw[<-a6] at mm ha2 ⊢;have ec:=((Ap.refl b B w).drew.trans ha2);clear a6 c0 c1
   have ah:=hS W ec;go_wp2_with fail;refine cm ah.out ?_;rintro e w2 ⟨rfl,rfl⟩;go_wp2_with fail;go_ret;exact⟨rfl,mm,ec⟩
theorem Y0 {B B':Nat}{w:Ny}{v:NP}{l:List NR}(h:Qu B w v l)(aZ:B'<=B):Qu B' w v l:=by
 refine⟨h.1,?_⟩
 rcases h.2 with aA|⟨g,cap,cl,ap,D,rest⟩
 ·exact Or.inl aA
 ·exact Or.inr ⟨g,cap,cl,ap,by omega,rest⟩
abbrev axL (b:Nat):NP:=.func (.func 118) #[] #[NM b 0]
theorem axM:UE 118:=fun _ _=>by kernel_rfl
theorem axN (b B:Nat):∀ (m:Nat) (t:Tr),t.count<=m->∀ (p:Nat) (l:List NR) (w:Ny),O7 (fun x=>x<B/\x≠b) w t p->aaI b B l w->l.length+t.count<=90000 ->
  NK 36 #[Nu p,axL b] w fun e w'=>e=NU (.tuple #[])/\aaI b B (l++vw t) w'/\Ap b B w w':=by
 intro m
 induction m with
 | zero=>
  exact atl
 | succ m bR=>
  intro t a' p l w fd xq dX;obtain⟨u,ps,hblk,hrow,oV,eJ⟩:=fd.aaG;have hlen:=NT.length _ _ eJ;have AW:p<B/\p≠b:=by
   cases t with
   | mk kd tx gy ks=>rw[O7] at fd;exact fd.1
  have z:=kk (∀{G}(h:G:=by
  have js:=axM;have hs:∀ W:Ny,(binOp .eql 47 (axL b) .nilFunc).run prog W=.ok (NI false) W:=fun W=>by kernel_rfl
  have ah:=(ajU xq fd Nw);have th:=hide oV;have np:=hide bR;have p9:=hide gL;have uI:=hide a';have rJ:=hide dX;have cV:=hide fO;have p5:=hide (lt_of_heap hblk);have kI:=hide AW;have HLEN:=hide hlen;have xd:=hide (axJ t);have rX:Hid ((ownVar t).length<=1):=by show _<=_;unfold ownVar;split <;> simp
  clear oV bR gL a' dX hblk fO AW hlen
  cases ac:Qq t with
  | true=>
   rw[ac] at ah xd;clear ac;have z:=kk (∀{G}(h:G:=by
   have hT:=iE;have eo:=ha1;go_wp2_with fail;exact bodyPost_ret (v:=.tuple #[]) (by simp[results,results36,go_sem]) rfl ⟨rfl,by rw[xd.out];simpa using hT,eo⟩),G);exact apo
  | false=>
   rw[ac] at ah xd;clear ac;have z:=kk (∀{G}(h:G:=by
   have d1:=(ha1.cell (p:=(Nv p 3)) kI.out.1 kI.out.2).trans cV.out;rw[HLEN.out] at d1;have IR:p<w1.heap.size:=Nat.lt_of_lt_of_le p5.out ha1.size;have hT:=iE;have eo:=ha1;go_wp2_with fail
   go_loopw [23] (fun i wr=>∃ k:Nat,k<=t.kids.length/\i=Nr k/\aaI b B (l++ownVar t++vws (t.kids.take k)) wr/\Ap b B w wr) (fun i _=>t.kids.length - (intOf i).toNat)
   case atStart=>exact⟨0,Nat.zero_le _,rfl,by simpa[vws] using hT,eo⟩
   case round=>
    obtain⟨k,E,rfl,hg,gv⟩:=hrel
    by_cases aQ:k<t.kids.length
    ·have z:=kk (∀{G}(h:G:=by
     obtain⟨dd,mo⟩:=NT.get _ _ eJ k aQ;have tS:=Ns th g rfl;have eI:wr.cell? (Nv g k)=some (Nu ps[k]):=by
      rw[gv.cell (p:=(Nv g k)) tS.1 tS.2];exact hcell k dd
     have vT:O7 (fun x=>x<B/\x≠b) wr t.kids[k] ps[k]:=O7.later (fun x ac hl=>gv.block x ac.1 ac.2) _ _ mo;have dx:g<wr.heap.size:=Nat.lt_of_lt_of_le (O9 hrow g rfl).1 gv.size;have tZ:=Uk t.kids k aQ;have ww:=aeZ t.kids k aQ;have xX:=Xw (t.kids.take k);have h1:=Ns p9;have O:=Ns uI;have ax:=Ns rJ;have aU:=Ns rX;have htot:Tr.counts (t.kids.take k)+(t.kids[k]).count<=Tr.counts t.kids:=by
      exact atu
     have ah:=(np.out t.kids[k] Nw ps[k] _ wr vT hg (by rw[List.length_append,List.length_append];omega))
     have ts:=hide ww;have z:=kk (∀{G}(h:G:=by
     have rh:t.kids.length<=100000:=by have:=Rx t.kids;omega
     clear hcell tZ h1 O ax aU htot ag ww xX;go_wp2_with fail;refine cm ah ?_;rintro e w2 ⟨rfl,eH,ha2⟩;have ec:=(gv.trans ha2);clear eI;go_wp2_with fail
     go_roundw
     case rel=>exact⟨k+1,by omega,by go_num,by rw[ts.out,<-List.append_assoc];exact eH,ec⟩
     case measure=>simp[intOf];omega),G);exact atv),G);exact atw
    ·have e4:k=t.kids.length:=Nw;subst e4;go_wp2_with fail
     go_end0
     refine⟨rfl,?_,gv⟩;rw[List.take_length] at hg;rw[xd.out,<-List.append_assoc];exact hg),G);exact apo),G);exact axO
theorem ajV {p n c:Nat}{a:Option Addr}{w:Ny}(ai:w.cell? (Nv p 3)=some (.slice a n c)):NK 120 #[Nu p] w fun e w'=>e=NU (.slice a n c)/\w'=w:=by
 go_enter func120,ntmps120;go_wp2_with fail;go_ret;exact⟨rfl,rfl⟩
def O1 (t:Tr):List NR:=Wu (vws t.kids)
theorem Vx (t:Tr)(p:Nat)(w:Ny)(h:SC w t p)(ai:t.count<=80000) :
  NK 54 #[Nu p] w fun e w'=>(∃ u,e=NU u/\Qu w.heap.size w' u (O1 t))/\NJ w w':=by
 have hN:O7 (fun x=>x<w.heap.size) w t p:=O7.mono (fun b _ hl=>hl) _ _ h;obtain⟨ea,h8⟩:=xE (w.alloc (.cells #[PG] 26));have cn:NJ w ea:=by rw[h8];exact OM
 have j3:ea.heap.size=w.heap.size+1:=by rw[h8];simp
 have sF:aaI w.heap.size (w.heap.size+1) [] ea:=⟨by omega,by omega,_,by rw[h8];exact NG _ _,WW _ _⟩
 have bP:=kk (∀{G}(h:G:=by
 obtain⟨u,ps,hblk,hrow,oV,eJ⟩:=hN.aaG;have hlen:=NT.length _ _ eJ;obtain⟨cT,uc,aO⟩:=Tt hrow;subst aO;obtain⟨_,_,_,fO,_⟩:=node_cells hblk;have f2:=(ajV (w:=ea) (p:=p) ((World.cell?_of_block (w:=w) (a:=(Nv p 3)) (cn.block p (lt_of_heap hblk))).trans fO));rw[hlen] at f2;have th:=hide oV;have GI:=hide j3;have p9:=hide gL;have B6:=hide ai;have HLEN:=hide hlen;have js:=axM;have rh:t.kids.length<=100000:=by have:=Rx t.kids;omega
 clear h oV hblk fO gL ai hlen j3;go_enter func54,ntmps54;go_wp2_with fail;rw[<-h8];refine cm f2 ?_;rintro e w1 ⟨rfl,rfl⟩;clear h8;go_wp2_with fail
 go_loopw [11] (fun i wr=>∃ k:Nat,k<=t.kids.length/\i=Nr k/\aaI w.heap.size (w.heap.size+1) (vws (t.kids.take k)) wr/\Ap w.heap.size (w.heap.size+1) w1 wr) (fun i _=>t.kids.length - (intOf i).toNat)
 case atStart=>exact⟨0,Nat.zero_le _,rfl,by simpa[vws] using sF,Ap.refl _ _ _⟩
 case round=>
  obtain⟨k,E,rfl,hg,gv⟩:=hrel;have uG:=hg
  by_cases aQ:k<t.kids.length
  ·have z:=kk (∀{G}(h:G:=by
   obtain⟨dd,mo⟩:=NT.get _ _ eJ k aQ;have dx:g<w.heap.size:=(O9 hrow g rfl).1;have eI:wr.cell? (Nv g k)=some (Nu ps[k]):=by
    rw[gv.cell (p:=(Nv g k)) (by show g<_;omega) (by show g≠_;omega),World.cell?_of_block (w:=w) (a:=(Nv g k)) (cn.block g dx)];exact hcell k dd
   have vT:O7 (fun x=>x<w.heap.size+1/\x≠w.heap.size) wr t.kids[k] ps[k]:=
    O7.mono (fun x ac _=>⟨by have h1:x<w.heap.size:=ac;omega,by have h1:x<w.heap.size:=ac;omega⟩) _ _ (O7.later (I:=fun x=>x<w.heap.size) (fun x ac hl=>(gv.block x (by have h1:x<w.heap.size:=ac;omega) (by have h1:x<w.heap.size:=ac;omega)).trans (cn.block x ac)) _ _ mo)
   have LK:g<wr.heap.size:=by have:=gv.size;have:=Ns GI;omega
   have tZ:=Uk t.kids k aQ;have ww:=aeZ t.kids k aQ;have xX:=Xw (t.kids.take k);have h1:=Ns p9;have ax:=Ns B6;have htot:Tr.counts (t.kids.take k)+(t.kids[k]).count<=Tr.counts t.kids:=by
    exact atu
   have ah:=(axN w.heap.size (w.heap.size+1) (t.kids[k]).count t.kids[k] OH ps[k] _ wr vT uG Nw);have ts:=hide ww;have z:=kk (∀{G}(h:G:=by
   clear hcell tZ h1 ax htot ag ww xX;go_wp2_with fail;refine cm ah ?_;rintro e w2 ⟨rfl,eH,ha2⟩;have ec:=(gv.trans ha2);clear eI;go_wp2_with fail
   go_roundw
   case rel=>exact⟨k+1,by omega,by go_num,by rw[ts.out];exact eH,ec⟩
   case measure=>simp[intOf];omega),G);exact atv),G);exact atw
  ·have e4:k=t.kids.length:=Nw;subst e4;have hg:=uG;rw[List.take_length] at hg;obtain⟨_,aJ,v,D,hown⟩:=hg;obtain⟨aC,iK,rfl⟩:=N8 hown;have c0:wr.cell? (Nv w.heap.size 0)=some (.slice aC (vws t.kids).length iK):=by rw[cell_of D];rfl
   have ja:=lt_of_heap D;have iZ:NJ w wr:=cn.trans ((gv.mono Nw).below OH);have h7:=Xw t.kids;have ah:=(aeY (vws t.kids) _ wr hown (by have:=Ns p9;have:=Ns B6;omega))
   clear D h7;go_wp2_with fail;refine cm ah ?_;rintro e w2 ⟨⟨u,rfl,U⟩,aE⟩;obtain⟨Nn,No,rfl⟩:=N8 U;have cf:=(iZ.trans (aE.mono iZ.size));go_wp2_with fail;go_ret;exact⟨⟨_,rfl,Y0 U iZ.size⟩,cf⟩),G);exact ztq
theorem adg {P:Program}{w:Ny}(base:Nat)(t qJ e:TypeId)(i:TypeInfo)(size:Nat)(a':P.underlying t=some (.slice e))(ay:P.info? e=some i)
  (v:NP) (n:Nat) (xs:List NP) (hown:w.ownsRow base e size v n xs) (ad:Option Addr) (k:Nat) :
  (Builtin.append_ #[t,t] qJ #[v,.slice ad 0 k]).run P w=.ok v w:=by
 cases ad <;> rcases hown.2 with ⟨rfl,rfl⟩|⟨g,cap,cl,rfl,_,_,jL,_⟩ <;>
  simp[Builtin.append_,run_underlying a',sizeOf,typeInfo,Builtin.lenOf,Builtin.firstCells,loadCells,loadCellsFrom,storeCells, *]
theorem WY {P:Program}{w:Ny}{bh:Array Oper}{rest:List Oper}{o:Oper}{a:Act}{Q:Exit->Act->Ny->Prop}(DT:o.guard=none)(s x:Operand)(t:TypeId)
  (aM:o.op=.call { callee:=.builtin .append,args:=#[s,x],argTypes:=#[t,t] })
  (base E5:Nat) (e:TypeId) (i:TypeInfo) (bE:NP) (bytes:Nat) (a':P.underlying t=some (.slice e)) (ay:P.info? e=some i) (aJ:i.zero=some bE)
  (hsize:i.size=1) (g0:i.bytes=bytes) (Jr:bE.cells.size=1)
  (v:NP) (n:Nat) (xs:List NP) (ae:a.eval s=v) (hown:w.ownsRow base e 1 v n xs)
  (v2:NP) (m:Nat) (news:List NP) (ac:a.eval x=v2) (hown2:w.ownsRow E5 e 1 v2 m news) (h1:∀ u ∈ news,u.oneCell'=true)
  (Dn:n+m<=maxLen) (hbytes:(n+m) * bytes<=140737488355328) (hbase:base<=w.heap.size)
  (h:∀ v' w',w'.ownsRow base e 1 v' (n+m) (xs++news)->w.grownBy w' v.ownBlock->wpList P bh Q rest (a.put o.dst v') w'):wpList P bh Q (o::rest) a w:=by
 rcases Nat.eq_zero_or_pos m with rfl|aV
 ·have hnews:news=[]:=List.length_eq_zero_iff.1 (by rw[hown2.1]);subst hnews;obtain⟨ad,k,rfl⟩:=N8 hown2;have E:=h v w (by rw[List.append_nil];exact hown) ⟨rfl,rfl,rfl,OH,fun _ _ _=>rfl⟩
  refine wpList_plain DT fun K A=>?_;have hrun:=adg (P:=P) (w:=w) base t o.type e i 1 a' ay v n xs hown ad k;unfold Oper.wp;simp[execOp,aM,resolve,invoke,builtin,ae,ac,hrun,Result.andThen];exact A _ _ E
 ·obtain⟨g,cap,rfl,_,_⟩:=hown2.form aV;refine wpList_append_lies w DT s x t aM base e i bE 1 bytes a' ay aJ hsize g0 Jr NH v n xs ae hown (Nv g 0) m cap news ac hown2.1 (fun j u aT=>?_) h1 aV Dn hbytes hbase _ rfl (fun gX cap' w' a b _ _=>h _ _ a b);have hl:j<m * 1:=by
   rw[<-hown2.1];exact(List.getElem?_eq_some_iff.1 aT).1
  have aU:((Nv g 0):Addr).add j=(Nv g j):=by simp[Addr.add];exact Eq.symm
  rw[aU,hown2.cellAt j hl];exact aT
def namesT (t:Tr)(body:Bool):List NR:=Wu ((if body then O1 t else [])++(RS t).map Tr.tx++(OC t).map Tr.tx)
theorem aae (t:Tr):(RS t).length<=t.kids.length:=List.length_filter_le _ _
theorem Ru (t:Tr):(OC t).length<=t.kids.length:=List.length_filter_le _ _
theorem WO (t:Tr):(O1 t).length<=Tr.counts t.kids:=Nat.le_trans (Yn _) (Xw _)
theorem Y1 (t:Tr)(p:Nat)(body:Bool)(w:Ny)(h:SC w t p)(ai:t.count<=20000) :
  NK 78 #[Nu p,NI body] w fun e w'=>(∃ u,e=NU u/\Qu w.heap.size w' u (namesT t body))/\NJ w w':=by
 obtain⟨i0,d2,dH,b6,cq⟩:=info_parts info9;have z:=kk (∀{G}(h:G:=by
 have fG:=aae t;have il:=Ru t;have h7:=WO t;unfold namesT;obtain⟨F,j'⟩:=xH ((RS t).map Tr.tx);have Ln:F.length<=20000:=by rw[j'.out,List.length_map];omega
 obtain⟨G,yP⟩:=xH ((OC t).map Tr.tx);have Lq:G.length<=20000:=by rw[yP.out,List.length_map];omega
 rw[<-j'.out,<-yP.out]
 cases body with
 | true=>
  have mI:=(Vx t p w h Nw);simp only[if_true];obtain⟨V,fV⟩:=xE (O1 t);have DG:V.length<=20000:=by rw[fV];omega
  rw[<-fV] at mI ⊢;have z:=kk (∀{G}(h:G:=by
  go_wp2_with fail;refine cm mI ?_;rintro e w1 ⟨⟨g4,rfl,hr1⟩,b4⟩;obtain⟨jZ,c1,rfl⟩:=N8 hr1;have f0:=b4;have eg:=(h.later b4);have om:=hr1;have ah:=(YZ t p w1 eg Nw);exact axP),G);exact axQ
 | false=>
  simp only[Bool.false_eq_true,if_false];obtain⟨V,fV⟩:=xE ([]:List NR);have DG:V.length<=20000:=by rw[fV];simp
  have f0:NJ w w:=P8;have eg:SC w t p:=h;have om:Qu w.heap.size w PG V:=by rw[fV];exact WW _ _
  have yQ:Hid (∀ l,l=[]++F++G->l=V++F++G):=fun l hl=>by rw[hl,fV]
  rw[Ns yQ _ rfl];have z:=kk (∀{G}(h:G:=by
  have ah:=(YZ t p w eg Nw);exact axP),G);exact axQ),G);exact zsv
section
variable (F:Nat) (f:Tr->Bool) (js:UE F) (am:List Tr) (v:NP) (w:Ny) {B:Nat} (h:Rn B w v am) (hl:am.length<=90000) (ak:∀ t ∈ am,∀ p W,NJ w W->SC W t p->NK F #[Nu p] W fun e w'=>e=NU (NI (f t))/\NJ W w')
include F f js am v w B h hl ak
theorem ao0 :
  NK 183 #[v,fnV F] w fun e w'=>(∃ k:Int,e=NU (Nr k)/\decide (0<=k)=am.any f)/\NJ w w':=by
 exact awZ
theorem aas :
  NK 248 #[v,fnV F] w fun e w'=>e=NU (NI (am.any f))/\NJ w w':=by
 have ah:=(ao0 F f js am v w h hl ak);exact aw0
end
section
variable (F:Nat) (c:NP) (f:Tr->Bool) (js:UE F) (am:List Tr) (v:NP) (w:Ny) {B:Nat} (h:Rn B w v am) (hl:am.length<=90000) (ak:∀ t ∈ am,∀ p W,NJ w W->SC W t p->NK F #[Nu p,c] W fun e w'=>e=NU (NI (f t))/\NJ W w')
include F c f js am v w B h hl ak
theorem ao1 :
  NK 183 #[v,.func (.func F) #[] #[c]] w fun e w'=>(∃ k:Int,e=NU (Nr k)/\decide (0<=k)=am.any f)/\NJ w w':=by
 exact awZ
theorem UU :
  NK 248 #[v,.func (.func F) #[] #[c]] w fun e w'=>e=NU (NI (am.any f))/\NJ w w':=by
 have ah:=(ao1 F c f js am v w h hl ak);exact aw0
end
def RQ (l:List Tr)(x:NR):Bool:=l.any fun k=>decide (k.tx=x)
theorem aw1:UE 289:=fun _ _=>by kernel_rfl
theorem agL (t:Tr)(p b:Nat)(x:NR)(w:Ny)(h:SC w t p)(ac:w.cell? (Nv b 0)=some (ND x)):NK 289 #[Nu p,NM b 0] w fun e w'=>e=NU (NI (decide (t.tx=x)))/\NJ w w':=by
 obtain⟨eY,_,c1,_⟩:=h.cells;obtain⟨tx,cD⟩:=xE t.tx;rw[<-cD] at c1 ⊢;have ja:b<w.heap.size:=by
  rcases Nat.lt_or_ge b w.heap.size with h1|h1
  ·exact h1
  ·have O:w.heap[b]? = none:=Array.getElem?_eq_none h1;simp[World.cell?,O] at ac
 clear h cD
 by_cases au:tx=x
 ·subst au;have av:decide (tx=tx)=true:=decide_eq_true rfl;rw[av];clear av;go_enter func289,ntmps289;go_wp2_with fail
  go_region
  go_wp2_with fail;go_ret;exact⟨rfl,P8.drew⟩
 ·rw[decide_eq_false au];have ci:=aci au;clear au;go_enter func289,ntmps289;go_wp2_with fail
  go_region
  go_wp2_with fail;go_ret;exact⟨rfl,P8.drew⟩
theorem Xv (am:List Tr)(v:NP)(x:NR)(w:Ny){B:Nat}(h:Rn B w v am)(hl:am.length<=90000) :
  NK 246 #[v,ND x] w fun e w'=>e=NU (NI (RQ am x))/\NJ w w':=by
 obtain⟨ea,h8⟩:=xE (w.alloc (.cells #[ND x] 9));have cn:NJ w ea:=by rw[h8];exact OM
 have j3:ea.heap.size=w.heap.size+1:=by rw[h8];simp
 have t7:ea.cell? (Nv w.heap.size 0)=some (ND x):=by rw[h8,cell_of (NG _ _)];rfl
 have ah:=(UU 289 (NM w.heap.size 0) (fun k=>decide (k.tx=x)) aw1 am v ea (h.later cn) hl (fun t _ p W D aA=>agL t p _ x W aA ((World.cell?_of_block (w:=ea) (a:=(Nv w.heap.size 0)) (D.block w.heap.size Nw)).trans t7)));obtain⟨va,dv,rfl⟩:=h.form;clear h j3 t7;go_enter func246,ntmps246;go_wp2_with fail;rw[<-h8];refine cm ah ?_;rintro e w1 ⟨rfl,D⟩;have bM:=(cn.trans (D.mono cn.size));clear h8;go_wp2_with fail;go_ret;exact⟨rfl,bM⟩
end Go.Proofs.YticfnaiehdpbmaaGreatDoor
