import Derived.Test.YtoimgcjbcbhclaaGreatDoorAz12
import Derived.Test.YtoimgcjbcbhclaaGreatDoorAz11
import Derived.Laws.OwnMore
set_option maxRecDepth 100000
set_option maxHeartbeats 0
set_option linter.all false
namespace Go.Proofs.YtoimgcjbcbhclaaGreatDoor
open Go.RowKit Go.Proofs.Tryz
def arv (e:(Int × LY) × Nat):MapEntry:={ key:=LJ e.1.1,val:=e.1.2,born:=e.2 }
def U6 (l:List (Int × LY)):Array MapEntry:=((l.zipIdx).map arv).toArray
def Zi (s:Int):∀ (l:List (Int × LY)) (n i:Nat),
  ∃ o,Instr.findNow (.int .i64) (LJ s) ((l.zipIdx n).map arv) i=some o/\o.map (·.2)=(l.find? (λe=>decide (s=e.1))).map (·.2)
 | [],n,i=>⟨none,rfl,rfl⟩
 | e::l,n,i=>by
  have D:(s==e.1)=decide (s=e.1):=rfl;simp only[zalfz,zalbb,Instr.findNow,arv,Instr.sameNow,zaleh,D,zalck]
  cases h:decide (s=e.1)
  ·simp only;exact Zi s l (n+1) (i+1)
  ·exact⟨some (i,e.2),rfl,rfl⟩
def alZ (l:List (Int × LY))(k:Int)(v:LY):(U6 l).push { key:=LJ k,val:=v,born:=l.length }=U6 (l++[(k,v)]):=by
 unfold U6;rw[zalfj,zalam];simp[arv,List.zipIdx]
def ZG (cE fF:TypeId)(m:Nat)(l:List (Int × LY))(s:Int)(v:LY)(L:LK)(ce:prog.underlying cE=some (.map 3 fF))(aA:L.heap[m]? = some (.map (U6 l) l.length))(av:l.find? (λe=>decide (s=e.1))=none) :
  (Instr.mapUpdate cE (.map (some m)) (LJ s) v).run prog L=.ok () (NS L m (.map (U6 (l++[(s,v)])) (l.length+1))):=by
 obtain⟨o,E,O⟩:=Zi s l 0 0;have dt:=underlying3;have A{G}(h:G:=by
 have ao:(Instr.findKey 3 (LJ s) (U6 l).toList).run prog L=.ok none L:=by
  refine aq9 ?_;simp only[zalcm,U6];rw[E];rfl
 have dU:∀ b,(Instr.checkKey b 10000 3 (LJ s)).run prog L=.ok () L:=atG
 have hg:(getObj m).run prog L=.ok (.map (U6 l) l.length) L:=by simp[getObj,Sem.run,aA]
 unfold Instr.mapUpdate;rw[zalbu,zalcl ce L];simp only[zalcm,zalbu,hg,dU,ao];rw[alZ];simp[setObj,Sem.run,aA,NS]):=LG h;exact auT
def aop {α:Type}(F:Nat)(x y z:LY)(I:Nat->Prop)(hM:LK->LK->Prop)(jQ:α->LK->Prop)(f:α->Ad->α × Bool)(P:α->List Ad->Prop)
  (fW:TM F) (iq:∀ L:LK,(binOp .eql 54 (.func (.func F) #[] #[x,y,z]) .nilFunc).run prog L=.ok (L9 false) L)
  (tW:∀ a b c,hM a b->hM b c->hM a c) (sb:∀ w w',hM w w'->Pq I w w'/\w.heap.size<=w'.heap.size)
  (fT:∀ a t ts,P a (t::ts)->P (f a t).1 ((if (f a t).2 then t.ks else [])++ts))
  (bB:∀ a t ts w,P a (t::ts)->jQ a w->MZ I w t->MC F #[LC t.p,x,y,z] w λe w'=>e=MN (L9 (f a t).2)/\jQ (f a t).1 w'/\hM w w') :
  ∀ (m:Nat) (t:Ad),t.cnt<=m->m<=90000->∀ (ts:List Ad) (a:α) (w:LK),P a (t::ts)->jQ a w->MZ I w t ->
   MC 31 #[LC t.p,.func (.func F) #[] #[x,y,z]] w λe w'=>e=MN (.tuple #[])/\jQ (wk f a t) w'/\P (wk f a t) ts/\hM w w':=avo
def arW {l:List LW}{s x:LW}:x ∈ OD l s↔x ∈ l\/x=s:=by
 unfold OD
 split
 ·rename_i h
  constructor
  ·exact zalad
  ·rintro(E|rfl)
   ·exact E
   ·exact Ui.1 h
 ·simp
def abu:∀ (l au:List LW) (x:LW),x ∈ l.foldl OD au↔x ∈ au\/x ∈ l
 | [],au,x=>by simp
 | s::l,au,x=>by
  rw[zalcp,abu l,arW];simp[or_assoc]
def abh {l:List LW}{x:LW}:x ∈ NI l↔x ∈ l:=by rw[NI,abu];simp
def arX {l:List LW}{x:LW}(h:x ∈ l):OD l x=l:=by unfold OD;rw[zalak (Ui.2 h)]
def fold_add (au aL:List LW)(x:LW):(OD aL x).foldl OD au=OD (aL.foldl OD au) x:=by
 by_cases af:x ∈ aL
 ·rw[show OD aL x=aL by unfold OD;rw[zalak (Ui.2 af)]]
  have O:x ∈ aL.foldl OD au:=(abu _ _ _).2 (zalal af);rw[arX O]
 ·rw[show OD aL x=aL++[x] by unfold OD;rw[zalah (by rw[aap.2 af];decide)],zalby]
  rfl
def adg (au:List LW):∀ (l aL:List LW),(l.foldl OD aL).foldl OD au=l.foldl OD (aL.foldl OD au)
 | [],_=>rfl
 | x::l,aL=>by rw[zalcp,adg au l,fold_add,zalcp]
def Zd (au l:List LW):(NI l).foldl OD au=l.foldl OD au:=adg au l []
def ac6 (l:List LW):NI (NI l)=NI l:=Zd [] l
section
variable {B:Nat} (l:List LW) (s:LW) (v:LY) (w:LK) (h:Na B w v l)
include B l s v w h
def YJ (ab:l.length<=90000) :
  MC 53 #[v,LQ s] w λe w'=>e=MN (L9 (hasB l s))/\w'=w:=by
 obtain⟨va,ck,rfl⟩:=LZ h;have bo:=hide h;obtain⟨R,a7⟩:∃ R,R=hasB l s:=⟨_,rfl⟩;rw[<-a7];have dv:=hide a7;clear h a7;go_enter func53,ntmps53;go_wp2_with fail
 go_loopw [9] (λi wr=>∃ k:Nat,k<=l.length/\i=LJ k/\s ∉ l.take k/\wr=w) (λi _=>l.length - (intOf i).toNat)
 case atStart=>exact⟨0,zalae _,rfl,by simp,rfl⟩
 case round=>
  obtain⟨k,N,rfl,hE,rfl⟩:=hrel;have h1:=hide hE;clear hE
  by_cases aC:k<l.length
  ·obtain⟨g,cap,a0,hg,_,am⟩:=VI bo.out k aC;have A{G}(h:G:=by
   have A{G}(h:G:=by
   clear af
   by_cases he:x=s
   ·have qm:R=true:=by rw[dv.out,Ui,<-he,cy.out];exact zalao _
    subst he qm;go_wp2;go_ret;exact⟨rfl,rfl⟩
   ·have d':=Wv he;have cG:=hide he;clear he;go_wp2
    go_roundw
    case rel=>
     refine⟨k+1,by omega,by go_num,?_,trivial⟩;rw[zalac aC];intro aA
     rcases zalat.1 aA with aA|aA
     ·exact Lu h1 aA
     ·exact Lu cG (by rw[cy.out];exact(zalaf.1 aA).symm)
    case measure=>simp[intOf];omega):=LG h;exact atv):=LG h;exact Tf
  ·have cA:k=l.length:=LM;subst cA;have tv:R=false:=by
    have h:=Lu h1;rw[zalaq] at h;rw[dv.out,aap];exact h
   subst tv;go_wp2;go_ret;exact⟨rfl,rfl⟩
def VN (ab:l.length<=80000)(bA:B<=w.heap.size) :
  MC 77 #[v,LQ s] w λe w'=>(∃ u,e=MN u/\Na B w' u (OD l s))/\LX w w':=by
 obtain⟨a6,b4,bL,bM,bP⟩:=zalbl info9;have ag:=hide (YJ l s v w h LM);obtain⟨va,ck,rfl⟩:=LZ h;have bo:=hide h;unfold OD;clear h
 cases a2:hasB l s with
 | true=>
  rw[a2] at ag;clear a2;simp only[zaleh];go_enter func77,ntmps77;have A{G}(h:G:=by
  go_ret;exact⟨⟨_,rfl,bo.out⟩,O4⟩):=LG h;exact Xw
 | false=>
  rw[a2] at ag;clear a2;refine aln ?_;go_enter func77,ntmps77;go_wp2_with fail;refine NJ ?_;rintro e w1 ⟨rfl,rfl⟩
  go_wp2_with (at_builtin;refine Rx rfl _ _ 38 rfl w1.heap.size _ 9 a6 (LQ ByteArray.empty) 16 zalde b4 bL bM bP rfl _ _ _ rfl (zalhe w1 #[] 0 Nh MK rfl) _ _ _ rfl (bo.out.alloc _) (SY l) (by unfold maxLen;omega) LM MP ?_)
  intro v2 w2 hown2 tH;have C4:w2.ownsRow w1.heap.size 9 1 v2 l.length (l.map Value.string):=by simpa using hown2
  have a5:LX w1 w2:=Qn.grown tH MP (λk N=>by simp[Value.ownBlock] at N;omega)
  obtain⟨fS,c2,rfl⟩:=LZ C4;have bX:=hide C4;have bj:=hide a5;have hz2':=a5.size
  go_wp2_with (at_builtin;refine wpList_append_lies _ rfl _ _ 38 rfl w1.heap.size 9 a6 (LQ ByteArray.empty) 1 16 zalde b4 bL bM bP rfl MK _ _ _ rfl (bX.out.alloc _) (LD w2.heap.size 0) 1 1 [LQ s] rfl rfl (Vy w2 s _ rfl) (YS s) MK (by unfold maxLen;omega) LM OM (w2.heap.size+1) MP ?_)
  intro dJ cap' aq hown' hgrow fX _;have bV:=hide ((bj.out.alloc hz2' (.cells #[LQ s] 9)).grown hgrow OM (λb D=>(Me bX.out b D).2));have h2:Hid (Na B aq (.slice (some (LD dJ 0)) (l.length+1) cap') (l++[s])):=by
   have E:Na w1.heap.size aq (.slice (some (LD dJ 0)) (l.length+1) cap') (l++[s]):=by
    refine aac ?_;refine adC ?_;exact hown'
   exact Ob E bA
  clear fX;go_wp2;go_ret;exact⟨⟨_,rfl,h2.out⟩,bV.out⟩
end
def QL (t:Tr)(p:Nat)(w:LK)(h:VA w t p):MC 55 #[LC p] w λe w'=>e=MN (L9 (MF t))/\w'=w:=by
 obtain⟨bF,c0,_,_⟩:=h.cells;clear h;unfold MF
 generalize t.kd=kd at c0
 cases ao:(kd==5)
 all_goals
  go_enter func55,ntmps55;go_wp2;go_ret;exact⟨rfl,rfl⟩
def avX (m:Nat):Prop:=∀ (t:Tr),t.count<=m->t.count<=20000->∀ (p:Nat) (w:LK),VA w t p ->
  MC 79 #[LC p] w λe w'=>(∃ u,e=MN u/\Na w.heap.size w' u (RV t))/\LX w w'
def Xf:∀ (l au:List LW),(l.foldl OD au).length<=au.length+l.length
 | [],au=>by simp
 | x::l,au=>by
  have h:=Xf l (OD au x);have O:(OD au x).length<=au.length+1:=by unfold OD;split <;> simp
  simp only[zalcp,zalbf];omega
def amx (t:Tr)(k:Nat)(N:k<t.kids.length):NI (WO (t.kids.take (k+1)))=(vw t.kids[k]).foldl OD (NI (WO (t.kids.take k))):=by
 rw[aaQ t.kids k N,NI,zalby];rfl
def ai2 {m:Nat}(aU:avX m):avX (m+1):=by
 intro t aH am p w h;have A{G}(h:G:=by
 obtain⟨bF,_,_,u,c3,T⟩:=h.cells;obtain⟨eq,uc,rfl⟩:=T.form;have bo:=hide T;have ex:t.kids.length<=20000:=by have:=NG t.kids;omega
 have i4:Hid (∀ (k:Nat) (N:k<t.kids.length) (q:Nat) (L:LK),VA L t.kids[k] q->MC 79 #[LC q] L λe w'=>(∃ u,e=MN u/\Na L.heap.size w' u (RV t.kids[k]))/\LX L w'):=λk N q L ac=>by
  have E:=TU t.kids k N;exact aU t.kids[k] LM LM q L ac
 have sH:Hid (∀ k,(WO (t.kids.take k)).length<=20000):=λk=>by
  have E:=VX (t.kids.take k);have O:Tr.counts t.kids=Tr.counts (t.kids.take k)+Tr.counts (t.kids.drop k):=by rw[<-Rw,zalcd]
  omega
 have En:Hid (∀ k (N:k<t.kids.length),(RV t.kids[k]).length<=20000):=λk N=>by
  have E:=TU t.kids k N;have O:=VD t.kids[k];have ao:(t.kids[k]).count=1+Tr.counts (t.kids[k]).kids:=by cases t.kids[k] with|mk kd tx kt ks=>exact count_mk _ _ _ _
  omega
 unfold RV;clear h g6 aH am;go_enter func79,ntmps79;go_wp2_with fail
 go_loopw [3,15] (λo j wr=>∃ k:Nat,k<=t.kids.length/\j=LJ k/\Na w.heap.size wr o (NI (WO (t.kids.take k)))/\LX w wr) (λ_ j _=>t.kids.length - (intOf j).toNat)
 case atStart=>exact⟨0,zalae _,rfl,by simpa[WO,NI] using Ql _ _,O4⟩
 case round=>
  obtain⟨k,N,rfl,hown,hbel⟩:=hrel;have HOWN:=hide hown;have aV:=hide hbel;obtain⟨aQ,cc,rfl⟩:=LZ hown;clear c3
  by_cases aC:k<t.kids.length
  ·obtain⟨g,cap,q,a0,hg,gv,av⟩:=(bo.out.later aV.out).cell k aC;have A{G}(h:G:=by
   have eY:(k:Int)<(t.kids.length:Int):=LM;obtain⟨eZ,cn,bC,_⟩:=av.cells;have b3:=hide av;have dm:=hide (amx t k aC);have mL:=hide (asv t.kids[k]);have bN:=hide (λL (aO:LX wr L)=>QL t.kids[k] q L (av.later aO));have m6:=Qs (WO (t.kids.take k));have mx:=Lu sH k;have Db:=Lu En k aC;have eE:=hide (Lu i4 k aC q);obtain⟨ah,bm⟩:∃ ah,ah=NI (WO (t.kids.take k)):=⟨_,rfl⟩;rw[<-bm] at HOWN dm m6 ⊢;have rP:ah.length<=20000:=LM;have bK:=aV.out.size
   have DL:=hide (λs L (aO:LX wr L)=>VN ah s (.slice aQ ah.length cc) L (Na.later HOWN.out aO) LM (zalan bK aO.size))
   generalize t.kids[k]=x at cn bC b3 dm mL bN Db eE
   clear bm m6 mx
   cases cq:(x.kd==2) with
   | true=>
    have pW:Hid (ownVar x=[x.tx]):=by show _=_;unfold ownVar;rw[cq];rfl
    have jr:=hide (Lu DL x.tx wr O4)
    generalize x.tx=tx at bC jr pW
    generalize x.kd=kd at cn cq
    go_wp2_with fail;refine cm jr.out ?_;rintro e dB ⟨⟨u1,rfl,g4⟩,bz⟩;obtain⟨iK,i'⟩:∃ iK,iK=OD ah tx:=⟨_,rfl⟩;rw[<-i'] at g4;obtain⟨fM,c1,rfl⟩:=LZ g4;have ll:=hide g4;have p5:=hide bz;have ba:=hide (aV.out.trans (bz.mono aV.out.size));have Gy:iK.length<=30000:=by rw[i'];have O:=Xf [tx] ah;simp only[zalcp,zalgn,zalbf,zaldv] at O;omega
    have nA:=hide i';clear i'
    cases an:MF x with
    | true=>
     have A{G}(h:G:=by
     go_wp2
     go_roundw
     case rel=>
      refine⟨k+1,by omega,by go_num,?_,ba.out⟩;rw[dm.out,mL.out,pW.out];simp only[zaleh,zalba,zalcp,zalgn];rw[<-nA.out];exact Lu ll
     case measure=>simp[intOf];omega):=LG h;exact auQ
    | false=>
     exact aDL
   | false=>
    have pW:Hid (ownVar x=[]):=by show _=_;unfold ownVar;rw[cq];rfl
    obtain⟨dB,fB⟩:∃ dB,dB=wr:=⟨_,rfl⟩;obtain⟨iK,i'⟩:∃ iK,iK=ah:=⟨_,rfl⟩;have ll:Hid (Na w.heap.size dB (.slice aQ iK.length cc) iK):=by rw[fB,i'];exact Lu HOWN
    have p5:Hid (LX wr dB):=by rw[fB];exact O4
    have ba:Hid (LX w dB):=by rw[fB];exact Lu aV
    have Gy:iK.length<=30000:=by rw[i'];omega
    have nA:=hide i';subst fB;rw[<-i']
    generalize x.kd=kd at cn cq
    clear i'
    cases an:MF x with
    | true=>
     have A{G}(h:G:=by
     go_wp2
     go_roundw
     case rel=>
      refine⟨k+1,by omega,by go_num,?_,ba.out⟩;rw[dm.out,mL.out,pW.out];simp only[zaleh,zalba,zalgn];rw[<-nA.out];exact Lu ll
     case measure=>simp[intOf];omega):=LG h;exact auQ
    | false=>
     exact aDL):=LG h;exact Tf
  ·have cA:k=t.kids.length:=LM;subst cA;go_wp2;go_ret;have h:=Lu HOWN;rw[zalaq] at h;refine⟨⟨_,rfl,?_⟩,aV.out⟩;rw[zalaq];exact h):=LG h;exact adW
def amy:∀ m,avX m:=by
 intro m
 induction m with
 | zero=>
  exact anP
 | succ m aU=>exact ai2 aU
def adh (t:Tr)(p:Nat)(w:LK)(h:VA w t p)(am:t.count<=20000) :
  MC 79 #[LC p] w λe w'=>(∃ u,e=MN u/\Na w.heap.size w' u (RV t))/\LX w w':=amy t.count t Nh am p w h
def aga {w:LK}{b o:Nat}{v:LY}(h:w.cell? (LD b o)=some v):b<w.heap.size:=axj
def keepR {w X:LK}{b o:Nat}{v:LY}(D:LX w X)(h:w.cell? (LD b o)=some v):X.cell? (LD b o)=some v:=
 (zalar (w:=w) (a:=(LD b o)) (D.block b (aga h))).trans h
def Un (w0:LK)(B:Nat)(w:LK)(v:LY)(ts:List Tr):Prop:=∃ ps:List Nat,w.ownsRow B 22 1 v ps.length (ps.map LC)/\QK (λ_=>True) w0 ts ps
def Un.row {w0 w:LK}{B:Nat}{v:LY}{ts:List Tr}(h:Un w0 B w v ts)(D:LX w0 w):U5 B w v ts:=by
 obtain⟨ps,E,O⟩:=h;exact⟨ps,E,QK.later (Below.stay D) _ _ O⟩
def Un.low {w0 w:LK}{B B':Nat}{v:LY}{ts:List Tr}(h:Un w0 B w v ts)(bA:B'<=B):Un w0 B' w v ts:=by
 obtain⟨ps,E,O⟩:=h;refine⟨ps,⟨E.1,?_⟩,O⟩
 rcases E.2 with av|⟨g,cap,cj,a0,D,rest⟩
 ·exact zalad av
 ·exact zalal ⟨g,cap,cj,a0,by omega,rest⟩
def Un.form {w0 w:LK}{B:Nat}{v:LY}{ts:List Tr}(h:Un w0 B w v ts):∃ a cap,v=.slice a ts.length cap:=by
 obtain⟨ps,E,O⟩:=h;rw[<-QK.length _ _ O];exact NH E
def Un.later {w0 w w':LK}{B:Nat}{v:LY}{ts:List Tr}(h:Un w0 B w v ts)(D:LX w w'):Un w0 B w' v ts:=by
 obtain⟨ps,E,O⟩:=h;exact⟨ps,L8 (I:=λ_=>True) (Below.stay D) (λ_ _=>trivial) E,O⟩
def ofK (b2:List Int)(k:Tr):List Tr:=(b2.filter λz=>k.kd==z).map λ_=>k
def WH (b2:List Int):List Tr->List Tr
 | []=>[]
 | k::ks=>ofK b2 k++WH b2 ks
def ahd (b2:List Int):∀ a b:List Tr,WH b2 (a++b)=WH b2 a++WH b2 b
 | [],b=>rfl
 | t::a,b=>by simp[WH,ahd b2 a b]
def amz (b2:List Int)(ts:List Tr)(k:Nat)(N:k<ts.length):WH b2 (ts.take (k+1))=WH b2 (ts.take k)++ofK b2 ts[k]:=by
 rw[zalac N,ahd];simp[WH]
def aoU (b2:List Int)(k:Tr)(i:Nat)(ak:i<b2.length):ofK (b2.take (i+1)) k=ofK (b2.take i) k++(if k.kd==b2[i] then [k] else []):=by
 unfold ofK;exact ay3
def akj (b2:List Int)(k:Tr):(ofK b2 k).length<=b2.length:=by unfold ofK;rw[zalag];exact zalci _ _
def ahe (b2:List Int):∀ ts:List Tr,(WH b2 ts).length<=ts.length * b2.length
 | []=>by simp[WH]
 | t::ts=>by
  have E:=akj b2 t;have O:=ahe b2 ts;rw[WH,zalab,zalbf,zalhq];omega
def akk:∀ ts:List Tr,WH [5] ts=ts.filter Uz
 | []=>rfl
 | t::ts=>by
  rw[WH,akk ts,zalbg];unfold ofK Uz;simp only[zalbg,zalcu]
  split <;> simp
def ahf:∀ ts:List Tr,WH [3,4] ts=ts.filter Rn
 | []=>rfl
 | t::ts=>by
  rw[WH,ahf ts,zalbg];unfold ofK Rn;simp only[zalbg,zalcu]
  by_cases ao:t.kd=3
  ·simp[ao]
  ·by_cases aM:t.kd=4
   ·simp[aM]
   ·simp[ao,aM]
def adi (b2:List Int)(b5:b2.length<=2)(fN:Nat)(t:Tr)(p:Nat)(w0 w:LK)(h:VA w0 t p)(d9:LX w0 w)(ab:t.kids.length<=20000)(ko:∀ i,(ak:i<b2.length)->w.cell? (LD fN i)=some (LJ b2[i])) :
  MC 122 #[LC p,.slice (some (LD fN 0)) b2.length b2.length] w λe w'=>(∃ u,e=MN u/\Un w0 w.heap.size w' u (WH b2 t.kids))/\LX w w':=by
 obtain⟨a6,b4,bL,bM,bP⟩:=zalbl info22;obtain⟨hpl0,ld,wv,u,Bh,T⟩:=h.cells;have c3:=keepR d9 Bh;have bF:=aga c3;have hI:=hide d9;obtain⟨va,ck,rfl⟩:=T.form;have bo:=hide T;have fH:=hide ko;clear h ko ld wv hpl0 Bh T
 generalize od:t.kids=ts at bo ab c3
 clear od t;go_enter func122,ntmps122;go_wp2_with fail
 go_loopw [5,17] (λo j wr=>∃ (k:Nat) (bf:List Nat),k<=ts.length/\j=LJ k/\wr.ownsRow w.heap.size 22 1 o bf.length (bf.map LC)/\QK (λ_=>True) w0 (WH b2 (ts.take k)) bf/\LX w wr) (λ_ j _=>ts.length - (intOf j).toNat)
 case atStart=>exact⟨0,[],zalae _,rfl,⟨rfl,zalad ⟨rfl,rfl⟩⟩,QK.nil,O4⟩
 case round=>
  have A{G}(h:G:=by
  have aV:=hide hbel;obtain⟨aQ,cc,rfl⟩:=NH hown;have eZ:bf.length<=40000:=by
   rw[QK.length _ _ hE];have E:=ahe b2 (ts.take k);rw[zalbe,zalhr N] at E;have O:k * b2.length<=k * 2:=Nat.mul_le_mul_left k b5;omega
  clear c3
  by_cases aC:k<ts.length
  ·obtain⟨g,cap,q,a0,hg,dZ,hm⟩:=bo.out.cell k aC;have A{G}(h:G:=by
   have am:wr.cell? (LD g k)=some (LC q):=keepR (hI.out.trans (aV.out.mono hI.out.size)) dZ;have eY:(k:Int)<(ts.length:Int):=LM;have cS:g<wr.heap.size:=aga am;have b3:=hide hm;have co:=hide (amz b2 ts k aC);have Eo:Hid ((ofK b2 ts[k]).length<=2):=zalan (akj _ _) b5;clear dZ;go_wp2_with fail
   go_loopw [5,23] (λo j wr2=>∃ (i:Nat) (rs:List Nat),i<=b2.length/\j=LJ i/\rs.length<=bf.length+i/\wr2.ownsRow w.heap.size 22 1 o rs.length (rs.map LC)/\QK (λ_=>True) w0 (WH b2 (ts.take k)++ofK (b2.take i) ts[k]) rs/\LX w wr2) (λ_ j _=>b2.length - (intOf j).toNat)
   case atStart=>exact⟨0,bf,zalae _,rfl,by omega,bb.out,by simpa[ofK] using h1.out,aV.out⟩
   case round=>
    have A{G}(h:G:=by
    by_cases n9:i<b2.length
    ·have pn:=fH.out i n9;have oQ:=hide (aoU b2 ts[k] i n9);have A{G}(h:G:=by
     obtain⟨qK,k0,_,_⟩:=(b3.out.later (hI.out.trans (bj.out.mono hI.out.size))).cells;have A{G}(h:G:=by
     cases a2:(kd==z) with
     | true=>
      have A{G}(h:G:=by
      go_roundw
      case rel=>
       refine⟨i+1,rs++[q],by omega,by go_num,by simp;omega,?_,?_,bV.out⟩
       ·refine adC ?_;exact Lu h2
       ·rw[oQ.out,<-zalax];exact QK.append (QK.cons b3.out QK.nil) _ _ sJ.out
      case measure=>simp[intOf];omega):=LG h;exact aAt
     | false=>
      exact ayz):=LG h;exact aCd):=LG h;exact aBQ
    ·have ir:i=b2.length:=LM;subst ir;go_wp2
     go_roundw
     case rel=>
      refine⟨k+1,rs,by omega,by go_num,gE.out,?_,bj.out⟩;have h:=Lu sJ;rw[zalaq] at h;rw[co.out];exact h
     case measure=>simp[intOf];omega):=LG h;exact aCa):=LG h;exact Tf
  ·have A{G}(h:G:=by
   exact⟨⟨_,rfl,bf,bb.out,h⟩,aV.out⟩):=LG h;exact aqh):=LG h;exact aqb
def abv (w:LK)(a:Int):∀ i,(ak:i < [a].length)->(w.alloc (.cells #[LJ a] 3)).cell? (LD w.heap.size i)=some (LJ [a][i]):=λi ak=>by
 rw[cell_of (LP _ _)]
 match i,ak with
 | 0,_=>rfl
def abw (w:LK)(a b:Int):∀ i,(ak:i < [a,b].length)->(w.alloc (.cells #[LJ a,LJ b] 3)).cell? (LD w.heap.size i)=some (LJ [a,b][i]):=λi ak=>by
 rw[cell_of (LP _ _)]
 match i,ak with
 | 0,_=>rfl
 | 1,_=>rfl
section
variable (t:Tr) (p:Nat) (w0 w:LK) (h:VA w0 t p) (hw:LX w0 w) (ab:t.kids.length<=20000)
include t p w0 w h hw ab
def abx :
  MC 84 #[LC p] w λe w'=>(∃ u,e=MN u/\Un w0 w.heap.size w' u (Tj t))/\LX w w':=by
 have d9:LX w (w.alloc (.cells #[LJ 5] 3)):=Qn;have ag:=hide (adi [5] MK w.heap.size t p w0 (w.alloc (.cells #[LJ 5] 3)) h (hw.trans (d9.mono hw.size)) ab (abv w 5));rw[akk] at ag;have aV:=hide d9;clear h;unfold Tj;go_enter func84,ntmps84;exact aDl
def Y9 :
  MC 65 #[LC p] w λe w'=>(∃ u,e=MN u/\Un w0 w.heap.size w' u (O0 t))/\LX w w':=by
 have d9:LX w (w.alloc (.cells #[LJ 3,LJ 4] 3)):=Qn;have ag:=hide (adi [3,4] MK w.heap.size t p w0 (w.alloc (.cells #[LJ 3,LJ 4] 3)) h (hw.trans (d9.mono hw.size)) ab (abw w 3 4));rw[ahf] at ag;have aV:=hide d9;clear h;unfold O0;go_enter func65,ntmps65;exact aDl
end
def ahg (ps:List Nat):∀ u ∈ ps.map LC,u.oneCell'=true:=by
 intro u aS;obtain⟨p,_,rfl⟩:=zalcn.1 aS;rfl
def VZ (t:Tr)(p:Nat)(body:Bool)(w:LK)(h:VA w t p)(am:t.count<=20000) :
  MC 54 #[LC p,L9 body] w λe w'=>(∃ u,e=MN u/\Na w.heap.size w' u (namesT t body))/\LX w w':=by
 obtain⟨a6,b4,bL,bM,bP⟩:=zalbl info22;have A{G}(h:G:=by
 have A{G}(h:G:=by
 obtain⟨V,e6⟩:∃ V,V=if body then RV t else []:=⟨_,rfl⟩
 have B7:V.length<=20000:=by
  rw[e6]
  split
  ·omega
  ·simp
 have ix:namesT t body=(((Tj t)++(O0 t)).map Tr.tx).foldl OD V:=by
  unfold namesT;rw[<-e6,zalax,NI,zalby,zalam];have E:V.foldl OD []=V:=by
   rw[e6]
   split
   ·exact ac6 _
   ·rfl
  rw[E]
 rw[ix];have eh:=hide e6;have jr:=hide (adh t p w h am);clear h ix g6 mx am e6;obtain⟨g',vs⟩:∃ g',g'=Tj t++O0 t:=⟨_,rfl⟩;rw[<-vs];have ey:g'.length<=40000:=by rw[vs,zalab];omega
 have pR:=hide vs;clear vs
 cases body with
 | true=>
  have B6:V=RV t:=Lu eh;rw[<-B6] at jr;clear B6;go_enter func54,ntmps54;go_wp2_with fail;refine cm jr.out ?_;rintro e dB ⟨⟨u1,rfl,g4⟩,bz⟩;obtain⟨DH,wx,rfl⟩:=LZ g4;have nU:=hide g4;have ba:=hide bz;have ag:=hide (abx t p w dB l9.out ba.out ex);have A{G}(h:G:=by
  go_wp2_with (at_builtin;refine Rx rfl _ _ 46 rfl dB.heap.size _ 22 a6 Pe 8 zalbk b4 bL bM bP rfl _ _ _ rfl ju.out _ _ _ rfl kG.out (ahg bf) (by unfold maxLen;omega) LM iJ.out ?_)
  have A{G}(h:G:=by
  have i5:Hid (Un w 0 bh pC g'):=by
   have E:Un w dB.heap.size bh pC (Tj t++O0 t):=by
    refine⟨ps++bf,?_,h1.out⟩;rw[zalab,zalam,uV.out.1,uV.out.2];exact hown4
   rw[pR.out];exact E.low (zalae _)
  have kQ:Hid (Na w.heap.size bh (.slice DH V.length wx) V):=L8 (I:=λx=>x<dB.heap.size) (λx af ab=>jY.block x ab (λe=>absurd (fp x e.symm) (by have E:x<dB.heap.size:=af;omega))) (λg hg=>(Me nU.out g hg).1) nW.out
  obtain⟨mg,c4,rfl⟩:=i5.out.form;clear fp;go_wp2_with fail
  go_loopw [5,17] (λo j wr=>∃ k:Nat,k<=g'.length/\j=LJ k/\Na w.heap.size wr o (((g'.take k).map Tr.tx).foldl OD V)/\LX bh wr) (λ_ j _=>g'.length - (intOf j).toNat)
  case atStart=>exact⟨0,zalae _,rfl,kQ.out,O4⟩
  case round=>
   exact aDN):=LG h;exact aB0):=LG h;exact az6
 | false=>
  have nU:Hid (Na w.heap.size w (.slice none V.length 0) V):=by
   have E:V=[]:=Lu eh;rw[E];exact Ql _ _
  have GI:V.length=0:=by
   have E:V=[]:=Lu eh;rw[E];rfl
  have ba:Hid (LX w w):=O4;go_enter func54,ntmps54;have ag:=hide (abx t p w w l9.out ba.out ex);have A{G}(h:G:=by
  go_wp2_with (at_builtin;refine Rx rfl _ _ 46 rfl w.heap.size _ 22 a6 Pe 8 zalbk b4 bL bM bP rfl _ _ _ rfl ju.out _ _ _ rfl kG.out (ahg bf) (by unfold maxLen;omega) LM iJ.out ?_)
  have A{G}(h:G:=by
  have i5:Hid (Un w 0 bh pC g'):=by
   have E:Un w w.heap.size bh pC (Tj t++O0 t):=by
    refine⟨ps++bf,?_,h1.out⟩;rw[zalab,zalam,uV.out.1,uV.out.2];exact hown4
   rw[pR.out];exact E.low (zalae _)
  have kQ:Hid (Na w.heap.size bh (.slice none V.length 0) V):=L8 (I:=λx=>x<w.heap.size) (λx af ab=>jY.block x ab (λe=>absurd (fp x e.symm) (by have E:x<w.heap.size:=af;omega))) (λg hg=>(Me nU.out g hg).1) nW.out
  obtain⟨mg,c4,rfl⟩:=i5.out.form;clear fp;go_wp2_with fail
  go_loopw [5,17] (λo j wr=>∃ k:Nat,k<=g'.length/\j=LJ k/\Na w.heap.size wr o (((g'.take k).map Tr.tx).foldl OD V)/\LX bh wr) (λ_ j _=>g'.length - (intOf j).toNat)
  case atStart=>exact⟨0,zalae _,rfl,by have h:=Lu kQ;rw[GI] at h;exact h,O4⟩
  case round=>
   exact aDN):=LG h;exact aB0):=LG h;exact az6):=LG h;exact ayd):=LG h;exact adW
def Xh (t:Tr):Tr:=match t.kids with|k::_=>k | []=>.mk 0 ByteArray.empty 0 []
def aj8 (t:Tr)(h:0<t.kids.length):Xh t=t.kids[0]:=by
 unfold Xh
 split
 ·rename_i k ks e;simp[e]
 ·rename_i e;rw[e] at h;cases h
def ZH (t:Tr)(p:Nat)(w:LK)(h:VA w t p)(N:1<=t.kids.length)(am:t.count<=20000) :
  MC 56 #[LC p] w λe w'=>(∃ u,e=MN u/\Na w.heap.size w' u (NI ((Xh t).kids.map Tr.tx)))/\LX w w':=by
 have A{G}(h:G:=by
 have ex:t.kids.length<=20000:=by have:=NG t.kids;omega
 have ee:(Xh t).kids.length<=20000:=by
  rw[aj8 t LM];have E:=TU t.kids 0 LM;have O:(t.kids[0]).count=1+Tr.counts (t.kids[0]).kids:=by cases t.kids[0] with|mk kd tx kt ks=>exact count_mk _ _ _ _
  have:=NG (t.kids[0]).kids;omega
 obtain⟨bF,_,_,u,c3,T⟩:=h.cells;obtain⟨g,cap,q,rfl,hg,Ch,av⟩:=T.cell 0 LM;rw[<-aj8 t LM] at av;obtain⟨eZ,_,_,u2,fy,bG⟩:=av.cells;obtain⟨fS,c2,rfl⟩:=bG.form;have bo:=hide bG;clear h g6 am
 generalize (Xh t).kids=ps at bo fy ee
 generalize t.kids.length=ah at c3 N ex
 have xU:¬ ah=0:=LM;go_enter func56,ntmps56;go_wp2_with fail
 go_loopw [3,16] (λo j wr=>∃ k:Nat,k<=ps.length/\j=LJ k/\Na w.heap.size wr o (NI ((ps.take k).map Tr.tx))/\LX w wr) (λ_ j _=>ps.length - (intOf j).toNat)
 case atStart=>exact⟨0,zalae _,rfl,Ql _ _,O4⟩
 case round=>
  have A{G}(h:G:=by
  obtain⟨aQ,cc,rfl⟩:=LZ hown;clear c3 fy Ch
  by_cases aC:k<ps.length
  ·obtain⟨dn,cap2,dM,a0,jc,gv,av⟩:=(bo.out.later aV.out).cell k aC;have A{G}(h:G:=by
   obtain⟨qK,_,bC,_⟩:=av.cells;have eY:(k:Int)<(ps.length:Int):=LM;have qy:(NI ((ps.take k).map Tr.tx)).length<=20000:=by
    have E:=Qs ((ps.take k).map Tr.tx);rw[zalag,zalbe] at E;omega
   have co:Hid (NI ((ps.take (k+1)).map Tr.tx)=OD (NI ((ps.take k).map Tr.tx)) (ps[k]).tx):=by
    show _=_
    rw[zalac aC,zalam,NI,zalby];rfl
   have ag:=hide (VN (NI ((ps.take k).map Tr.tx)) (ps[k]).tx _ wr HOWN.out LM aV.out.size)
   generalize (ps[k]).tx=y at bC ag co
   generalize NI ((ps.take k).map Tr.tx)=M at ag co HOWN qy
   exact avv):=LG h;exact Tf
  ·have ir:k=ps.length:=LM;subst ir;go_wp2;go_ret;refine⟨⟨_,rfl,?_⟩,aV.out⟩;exact aqa):=LG h;exact aq1):=LG h;exact adW
section
variable {P:Program} {bU:Region.Mode} {ops:Array Oper} {Q:Exit->Act->LK->Prop} {S:LK->Prop} {b:Nat}
def amU (bU:Region.Mode)(ops:Array Oper):Nat->Nat->Nat->Bool
 | 0,_,_=>false
 | n+1,b,i=>match ops[b]? with
  | none=>false
  | some be=>be.after.any λe=>Region.binds bU e&&(e.on==i||amU bU ops n e.on i)
def Closed (bU:Region.Mode)(ops:Array Oper)(listed:Array Bool):Prop:=∀ (j:Nat) (oj:Oper),ops[j]? = some oj->listed.getD j false=true->∀ e ∈ oj.after,Region.binds bU e=true->listed.getD e.on false=true
def abM {listed:Array Bool}{i:Nat}(am:Closed bU ops listed):∀ (n j:Nat) (oj:Oper),ops[j]? = some oj->(∀ e ∈ oj.after,Region.binds bU e=true->listed.getD e.on false=true)->amU bU ops n j i=true->listed.getD i false=true
 | 0,_,_,_,_,h=>by cases h
 | n+1,j,oj,ay,hall,h=>by
  rw[amU,ay] at h;obtain⟨e,he,O⟩:=Array.any_eq_true'.1 h;rw[zalee,zaldh] at O;have ao:=hall e he O.1
  rcases O.2 with aM|aM
  ·rw[<-eq_of_beq aM];exact ao
  ·
   cases hoe:ops[e.on]? with
   | none=>
    cases n with
    | zero=>cases aM
    | succ n=>rw[amU,hoe] at aM;cases aM
   | some Dt=>exact abM am n e.on Dt hoe (am e.on Dt hoe ao) aM
def acE {listed:Array Bool}{j k:Nat}(h:listed.getD k false=true):(listed.setIfInBounds j true).getD k false=true:=by
 by_cases vP:j=k
 ·subst vP;have ab:j<listed.size:=by
   rcases zalgd j listed.size with ab|ab
   ·exact ab
   ·rw[Array.getD_eq_getD_getElem?,zaldo ab] at h;cases h
  simp[ab]
 ·rw[zaldr false vP];exact h
def ajk {listed:Array Bool}{j:Nat}{oj:Oper}(am:Closed bU ops listed)(ay:ops[j]? = some oj)(hall:∀ e ∈ oj.after,Region.binds bU e=true->listed.getD e.on false=true):Closed bU ops (listed.setIfInBounds j true):=by
 intro m qT aA ab e he D;refine acE ?_
 by_cases tK:j=m
 ·subst tK;rw[ay] at aA;cases aA;exact hall e he D
 ·rw[zaldr false tK] at ab;exact am m qT aA ab e he D
def akr (bU:Region.Mode)(ops:Array Oper)(listed:Array Bool):Bool:=(List.range ops.size).all λj=>!(listed.getD j false)||(match ops[j]? with|some o=>o.after.all λe=>!(Region.binds bU e)||listed.getD e.on false|none=>true)
def amV {listed:Array Bool}(h:akr bU ops listed=true):Closed bU ops listed:=by
 intro j oj ay ab e he D;have aT:j<ops.size:=(zalbv.1 ay).1;have E:=List.all_eq_true.1 h j (List.mem_range.2 aT);rw[ab,ay] at E;simp only[Bool.not_true,zalbn] at E;have O:=Array.all_eq_true'.1 E e he;rw[D] at O;simpa using O
def apf {i k:Nat}{dy:Oper}{v:LY}(ak:ops[i]? = some dy)(hsel:∀ (j:Nat) (o:Oper) bl c,ops[j]? = some o->o.op≠.select bl c)
  (c':∀ c a w,Q (.panic c) (a.put dy.dst v) w->Q (.panic c) a w) (jF:i≠b) (hw:amU bU ops k b i=true) :
  ∀ (n:Nat) (listed:Array Bool) (a:Act) (w:LK),listed.getD b false=false->Closed bU ops listed ->
   (∀ j oj,ops[j]? = some oj->j≠i->listed.getD j true=false->(∀ e ∈ oj.after,Region.binds bU e=true->e.on≠i)->dy.apart ops oj=true) ->
   i ∈ Region.ready bU ops listed->YieldsIf P ops S dy v a->S w ->
   PS P bU ops Q S b n (listed.setIfInBounds i true) (a.put dy.dst v) w->PS P bU ops Q S b (n+1) listed a w:=by
 have A{G}(h:G:=by
 induction n with
 | zero=>
  intro listed a w ge _ _ T hy eb H;exact ayM
 | succ n aU=>
  intro listed a w ge ed hfree T hy eb H;refine⟨λh=>(by rw[h] at T;cases T),λj aT=>?_⟩
  by_cases hC:j=i
  ·subst hC;exact hy.wpOp ak eb ⟨λ_=>eb,H⟩
  ·obtain⟨hjun,oj,ob,hall⟩:=zalhp.1 aT;have hnot:=waits (j:=j) (oj:=oj) T hall;have tJ:j≠b:=λe=>by
    subst e;have dt:=abM ed k j oj ob hall hw;have aJ:=(zalhp.1 T).1
    cases af:listed[i]? with
    | none=>simp[af] at dt
    | some x=>simp[af] at aJ dt;rw[aJ] at dt;cases dt
   have A{G}(h:G:=by
   have lF:S w':=ao.2.1 (by rw[zaldr false tJ,zaldr false jF];exact ge)
   refine⟨λ_=>lF,aU (listed.setIfInBounds j true) ik w' (by rw[zaldr false tJ];exact ge) (ajk ed ob hall) (λm qT aA tO v5 eA=>hfree m qT aA tO ?_ eA) (zalgg T (zalfi hC)) ao.1 lF ?_⟩
   ·exact atK
   ·rw[zalel _ _ hC];exact ao.2.2):=LG h;exact aup):=LG h;exact aAZ
def uc {dy:Oper}{n:Nat}{listed:Array Bool}{a:Act}{w:LK}(i:Nat)(v:LY)(ak:ops[i]? = some dy)(hy:YieldsIf P ops S dy v a)(eb:S w)
  (h:PS P bU ops Q S b n (listed.setIfInBounds i true) (a.put dy.dst v) w) (c':∀ c a w,Q (.panic c) (a.put dy.dst v) w->Q (.panic c) a w:=by exact λ_ _ _ h=>h)
  (W:Region.noSelect ops=true:=by kernel_rfl) (an:Region.free bU ops listed i=true:=by kernel_rfl) (T:(Region.ready bU ops listed).contains i=true:=by kernel_rfl)
  (jF:i≠b:=by decide) (hw:amU bU ops ops.size b i=true:=by kernel_rfl) (ed:akr bU ops listed=true:=by kernel_rfl) (ge:listed.getD b false=false:=by kernel_rfl):PS P bU ops Q S b (n+1) listed a w:=
 apf ak (zalfe W) c' jF hw n listed a w ge (amV ed) (zalfy ak an) (by simpa using T) hy eb h
inductive PK (Nm:LW->Prop):Nat->Tr->Prop
 | name {s} (h:Nm s):PK Nm 0 (.mk 23 s 0 [])
 | str (s:LW):PK Nm 0 (.mk 18 s 0 [])
 | num (n:Int):PK Nm 0 (.mk 17 LH n [])
 | lit {kd} (N:kd=19\/kd=20\/kd=21\/kd=22):PK Nm 0 (.mk kd LH 0 [])
 | av3 {s t} (h:Nm s) (aH:PK Nm 0 t):PK Nm 0 (.mk 36 s 0 [t])
 | call {t ts} (aH:PK Nm 0 t) (W:∀ u ∈ ts,PK Nm 0 u) (ab:ts.length<=8):PK Nm 0 (.mk 35 LH 0 (t::ts))
 | one {kd t} (N:kd=32\/kd=33\/kd=34) (aH:PK Nm 0 t):PK Nm 0 (.mk kd LH 0 [t])
 | two {kd a b} (N:25<=kd/\kd<=31) (aa:PK Nm 0 a) (D:PK Nm 0 b):PK Nm 0 (.mk kd LH 0 [a,b])
 | asg {a b} (N:a.kd=23\/a.kd=36) (aa:PK Nm 0 a) (D:PK Nm 0 b):PK Nm 0 (.mk 24 LH 0 [a,b])
 | obj {ps} (W:∀ u ∈ ps,PK Nm 2 u) (ab:ps.length<=8):PK Nm 0 (.mk 38 LH 0 ps)
 | lam {s p b} (h:s=LH\/Nm s) (ae:PK Nm 5 p) (D:PK Nm 4 b):PK Nm 0 (.mk 37 s 0 [p,b])
 | prop {s v} (h:Nm s) (a0:PK Nm 0 v):PK Nm 2 (.mk 39 s 0 [v])
 | par {s} (h:Nm s):PK Nm 6 (.mk 23 s 0 [])
 | ar8 {ps} (W:∀ u ∈ ps,PK Nm 6 u) (ab:ps.length<=8):PK Nm 5 (.mk 40 LH 0 ps)
 | blk {ts} (W:∀ u ∈ ts,PK Nm 1 u):PK Nm 3 (.mk 6 LH 0 ts)
 | body {tx ts} (aH:tx=LH\/tx=Nq) (W:∀ u ∈ ts,PK Nm 1 u):PK Nm 4 (.mk 6 tx 0 ts)
 | decl {kd s v} (N:kd=2\/kd=3\/kd=4) (h:Nm s) (a0:∀ u ∈ v,PK Nm 0 u) (ab:v.length<=1) (am:kd=4->v.length=1):PK Nm 1 (.mk kd s 0 v)
 | func {s p b} (h:Nm s) (ae:PK Nm 5 p) (D:PK Nm 4 b):PK Nm 1 (.mk 5 s 0 [p,b])
 | apg {t} (h:PK Nm 3 t):PK Nm 1 t
 | sif {v s} (a0:PK Nm 0 v) (W:PK Nm 1 s):PK Nm 1 (.mk 7 LH 0 [v,s])
 | av4 {v s e} (a0:PK Nm 0 v) (W:PK Nm 1 s) (he:PK Nm 1 e):PK Nm 1 (.mk 7 LH 0 [v,s,e])
 | loop {kd v s} (N:kd=8\/kd=9) (a0:PK Nm 0 v) (W:PK Nm 1 s):PK Nm 1 (.mk kd LH 0 [v,s])
 | give {kd v} (N:kd=10\/kd=11) (a0:∀ u ∈ v,PK Nm 0 u) (ab:v.length<=1) (am:kd=11->v.length=1):PK Nm 1 (.mk kd LH 0 v)
 | atm {b c f} (D:PK Nm 3 b) (am:∀ u ∈ c,PK Nm 7 u) (an:∀ u ∈ f,PK Nm 8 u) (ab:c.length<=1/\f.length<=1/\0<c.length+f.length):PK Nm 1 (.mk 12 LH 0 (b::(c++f)))
 | cat {s b} (h:Nm s) (D:PK Nm 3 b):PK Nm 7 (.mk 13 s 0 [b])
 | fin {x} (D:PK Nm 3 x):PK Nm 8 (.mk 14 LH 0 [x])
 | empty:PK Nm 1 (.mk 16 LH 0 [])
 | expr {v} (a0:PK Nm 0 v):PK Nm 1 (.mk 15 LH 0 [v])
 | prog {tx ts} (aH:tx=LH\/tx=Nq) (W:∀ u ∈ ts,PK Nm 1 u):PK Nm 9 (.mk 1 tx 0 ts)
def ahC (kd:Int)(n:Int)(ts:List Tr):∃ tx,(tx=LH\/tx=Nq)/\Qg (.mk kd LH n ts)=.mk kd tx n ts:=by
 unfold Qg
 split
 ·rename_i h;cases h;split
  ·exact⟨_,zalal rfl,rfl⟩
  ·exact⟨_,zalad rfl,rfl⟩
 ·exact⟨_,zalad rfl,rfl⟩
def PK.av5 {Nm:LW->Prop}{t:Tr}(h:PK Nm 3 t):PK Nm 4 (Qg t):=by
 cases h with
 | blk W=>obtain⟨tx,E,O⟩:=ahC 6 0 _;rw[O];exact .body E W
def V7 {k:Int}{x:LW}{s:Sg}(h:SA k x=some s):s ∈ YU/\s.parts=k:=by
 unfold SA at h;have E:=zaldu.1 h;exact⟨zalbc E.1,by simpa using E.2⟩
def abN (q:Nat)(k:Int):Bool:=match q with
 | 0=>k==2||k==3||k==4
 | 4=>k==7
 | 5=>k==8||k==9
 | 6=>k==10||k==11
 | _=>true
section
variable {l:List Tk}
def NmL (l:List Tk)(s:LW):Prop:=∃ i,(MJ l i).kd=1/\(MJ l i).tx=s
def Vk {i j:Nat}{s:LW}(h:nameP l i=.ok s j):NmL l s:=by
 unfold nameP at h
 split at h
 ·rename_i E;cases h;exact⟨i,E,rfl⟩
 ·
  cases h
def av6 {q i:Nat}(h:Np PG (fx l i)=some q):abN q (Oq (MJ l i).tx)=true:=by
 unfold Np at h
 cases an:PG.find? (λe=>decide (fx l i=e.1)) with
 | none=>rw[an] at h;cases h
 | some e=>
  rw[an] at h;have E:=zalbc an;have O:fx l i=e.1:=by simpa using zaldw an
  have ao:∀ e ∈ PG,abN e.2 (Oq e.1)=true/\e.1≠LH:=by decide +kernel
  have aM:(MJ l i).tx=e.1:=by
   unfold fx at O
   split at O
   ·exact O
   ·exact absurd O.symm (ao e E).2
  cases h;rw[aM];exact(ao e E).1
abbrev Kh (l:List Tk)(c:Nat)(r:PR Tr):Prop:=∀ t j,r=.ok t j->PK (NmL l) c t
def SK {c:Nat}{f:Nat->Nat->PR Tr}{d i:Nat}(h:Kh l c (f (d+1) i)):Kh l c (MO l f d i):=by
 unfold MO
 split
 ·intro t j e;cases e
 ·exact h
def ajO {P:Tr->Prop}{au:List Tr}{u:Tr}(aa:∀ x ∈ au,P x)(aS:P u):∀ x ∈ au++[u],P x:=by
 intro x af
 rcases zalat.1 af with h|h
 ·exact aa x h
 ·rw[zalaf.1 h];exact aS
def ahD {c:Nat}{shut:LW}{begins:Nat->Bool}{part:Nat->PR Tr}(D:∀ i t j,part i=.ok t j->begins i=true)(ae:∀ i,Kh l c (part i)):∀ k au i t j,(∀ x ∈ au,PK (NmL l) c x)->au.length<=8->O5 l shut begins part k au i=.ok t j->(∀ x ∈ t,PK (NmL l) c x)/\t.length<=8:=by
 intro k
 induction k with
 | zero=>intro au i t j _ _ h;cases h
 | succ k aU=>
  intro au i t j aa ab h;unfold O5 at h
  split at h
  ·
   cases h
  ·rename_i av
   obtain⟨u,az,E,h⟩:=binds h;have aS:=ajO aa (ae i u az E);have gx:(au++[u]).length<=8:=by
    have:au.length≠8:=λe=>av ⟨e,D _ _ _ E⟩;simp;omega
   split at h
   ·
    cases h;exact⟨aS,gx⟩
   ·obtain⟨_,aX,O,h⟩:=binds h;exact aU _ _ _ _ aS gx h
def aeW {c:Nat}{opn shut:LW}{begins:Nat->Bool}{part:Nat->PR Tr}(D:∀ i t j,part i=.ok t j->begins i=true)(ae:∀ i,Kh l c (part i)){k i j:Nat}{t:List Tr}(h:TP l opn shut begins part k i=.ok t j):(∀ x ∈ t,PK (NmL l) c x)/\t.length<=8:=by
 unfold TP at h;obtain⟨_,az,E,h⟩:=binds h
 split at h
 ·
  cases h;exact⟨λ_ h=>(by cases h),by simp⟩
 ·exact ahD D ae _ _ _ _ _ (λ_ h=>by cases h) MP h
def Z4 {i j:Nat}{s:LW}(h:nameP l i=.ok s j):isName l i=true:=by
 unfold nameP at h
 split at h
 ·rename_i E;unfold isName;rw[E];rfl
 ·
  cases h
structure FKh (l:List Tk)(F:OQ):Prop where
 st:∀ d i,Kh l 1 (F.st d i)
 vl:∀ d i,Kh l 0 (F.vl d i)
 pr:∀ b d i,Kh l 0 (F.pr b d i)
 sg:∀ d i,Kh l 0 (F.sg d i)
 bg:∀ d i t j,F.vl d i=.ok t j->isVal l i=true
 bp:∀ b d i t j,F.pr b d i=.ok t j->isVal l i=true
 bs:∀ d i t j,F.sg d i=.ok t j->isVal l i=true
variable {F:OQ} (ai:FKh l F)
include ai
def aeX {d:Nat}:∀ k au i t j,(∀ x ∈ au,PK (NmL l) 1 x)->NM l F d k au i=.ok t j->∀ x ∈ t,PK (NmL l) 1 x:=by
 intro k
 induction k with
 | zero=>intro au i t j _ h;cases h
 | succ k aU=>
  intro au i t j aa h;unfold NM at h;exact ay5
def Xm {d i:Nat}:Kh l 3 (MV l F d i):=by
 intro t j h;unfold MV at h;obtain⟨_,az,E,h⟩:=binds h;obtain⟨ts,aX,O,h⟩:=binds h;cases h;exact .blk (aeX ai _ _ _ _ _ (λ_ h=>by cases h) O)
omit ai in
theorem amW {i:Nat}:Kh l 5 (Qc l F i):=by
 intro t j h;unfold Qc at h;obtain⟨ts,az,E,h⟩:=binds h;cases h;have:=aeW (c:=6) (λi t j h=>by unfold Qw at h;obtain⟨_,_,E,_⟩:=binds h;exact Z4 E) (λi t j h=>by unfold Qw at h;obtain⟨_,_,E,h⟩:=binds h;cases h;exact .par (Vk E)) E
 exact .ar8 this.1 this.2
def abO (d i:Nat):Kh l 0 (Px l F d i):=by
 have A{G}(h:G:=by
 cases h;exact SK (ai.vl _ _) _ _ O):=LG h;exact atn
def amX (d i:Nat):Kh l 0 (RP l F d i):=by
 intro t j h;unfold RP at h;obtain⟨ts,az,E,h⟩:=binds h;cases h;have:=aeW (c:=2) (λi t j h=>by unfold Rq at h;obtain⟨_,_,E,_⟩:=binds h;exact Z4 E) (λi t j h=>by
  unfold Rq at h;obtain⟨_,_,E,h⟩:=binds h;obtain⟨_,_,_,h⟩:=binds h;obtain⟨_,_,ao,h⟩:=binds h;cases h;exact .prop (Vk E) (SK (ai.vl _ _) _ _ ao)) E
 exact .obj this.1 this.2
def aeY {kd:Int}{s:LW}{d i j:Nat}{t:Tr}(h:PI l F kd s d i=.ok t j):∃ p b,t=.mk kd s 0 [p,b]/\PK (NmL l) 5 p/\PK (NmL l) 4 b:=by
 unfold PI at h;obtain⟨ps,az,E,h⟩:=binds h;obtain⟨b,aX,O,h⟩:=binds h;cases h;exact⟨_,_,rfl,amW _ _ E,(Xm ai _ _ O).av5⟩
def amY (d i:Nat):Kh l 0 (RQ l F d i):=by
 intro t j h;unfold RQ at h;obtain⟨_,az,E,h⟩:=binds h
 split at h
 ·obtain⟨s,aX,O,h⟩:=binds h;obtain⟨p,b,rfl,ae,D⟩:=aeY ai h;exact .lam (zalal (Vk O)) ae D
 ·obtain⟨p,b,rfl,ae,D⟩:=aeY ai h;exact .lam (zalad rfl) ae D
def aph (d i:Nat):Kh l 0 (Qx l F d i):=by
 unfold Qx
 split
 ·exact abO ai d i
 ·exact amX ai d i
 ·exact amY ai d i
 ·split
  ·rename_i du;intro t j h;cases h
   have O:∀ s ∈ YU,s.parts=0->s.kd=19\/s.kd=20\/s.kd=21\/s.kd=22:=by decide +kernel
   exact .lit (O _ (V7 du).1 (V7 du).2)
  ·split
   ·rename_i E;intro t j h;cases h;exact .name ⟨i,E,rfl⟩
   ·split
    ·intro t j h;cases h;exact .str _
    ·split
     ·intro t j h;cases h;exact .num _
     ·intro t j h;cases h
omit ai in
theorem apj {d i j:Nat}{t:Tr}(h:Qx l F d i=.ok t j):isVal l i=true:=by
 unfold isVal;unfold Qx at h
 cases N:Np PV (fx l i) with
 | some q=>simp
 | none=>
  rw[N] at h;simp only at h
  cases W:SA 0 (fx l i) with
  | some s=>
   have A{G}(h:G:=by
   rw[ao];simp):=LG h;exact aBv
  | none=>
   rw[W] at h;simp only at h
   split at h
   ·rename_i E;simp[E]
   ·split at h
    ·rename_i E;simp[E]
    ·split at h
     ·rename_i E;simp[E]
     ·
      cases h
def aeZ {d:Nat}:∀ k u i t j,PK (NmL l) 0 u->Py l F d k u i=.ok t j->PK (NmL l) 0 t:=by
 intro k
 induction k with
 | zero=>intro u i t j _ h;cases h
 | succ k aU=>
  intro u i t j aS h;unfold Py at h
  split at h
  ·obtain⟨s,az,E,h⟩:=binds h;exact aU _ _ _ _ (.av3 (Vk E) aS) h
  ·split at h
   ·obtain⟨ts,az,E,h⟩:=binds h;have:=aeW (c:=0) (λi t j h=>by
     unfold MO at h
     split at h
     ·
      cases h
     ·exact ai.bg _ _ _ _ h) (λi=>SK (ai.vl _ _)) E
    exact aU _ _ _ _ (.call aS this.1 this.2) h
   ·
    cases h;exact aS
def amZ (d i:Nat):Kh l 0 (QS l F d i):=by
 unfold QS
 split
 ·rename_i du
  intro t j h;obtain⟨u,az,E,h⟩:=binds h;cases h;have O:∀ s ∈ YU,s.parts=1->s.kd=32\/s.kd=33\/s.kd=34:=by decide +kernel
  exact .one (O _ (V7 du).1 (V7 du).2) (SK (ai.sg _ _) u _ E)
 ·intro t j h;unfold Rt at h;obtain⟨u,az,E,h⟩:=binds h;exact aeZ ai _ _ _ _ _ (aph ai d i u az E) h
omit ai in
theorem am0 (d i:Nat)(t:Tr)(j:Nat)(h:QS l F d i=.ok t j):isVal l i=true:=by
 unfold QS at h
 cases W:SA 1 (fx l i) with
 | some s=>
  have A{G}(h:G:=by
  unfold isVal;rw[ao];simp):=LG h;exact aBv
 | none=>
  rw[W] at h;simp only at h;unfold Rt at h;obtain⟨u,az,E,_⟩:=binds h;exact apj E
def ahE {b:Int}{d:Nat}:∀ k u i t j,PK (NmL l) 0 u->OY l F b d k u i=.ok t j->PK (NmL l) 0 t:=by
 intro k
 induction k with
 | zero=>intro u i t j _ h;cases h
 | succ k aU=>
  intro u i t j aS h;unfold OY at h
  split at h
  ·
   cases h;exact aS
  ·rename_i du
   split at h
   ·
    cases h;exact aS
   ·obtain⟨v,az,E,h⟩:=binds h;have O:∀ s ∈ YU,s.parts=2->25<=s.kd/\s.kd<=31:=by decide +kernel
    exact aU _ _ _ _ (.two (O _ (V7 du).1 (V7 du).2) aS (ai.pr _ _ _ v az E)) h
def ar9 (b:Int)(d i:Nat):Kh l 0 (UO l F b d i):=by
 intro t j h;unfold UO at h;obtain⟨u,az,E,h⟩:=binds h;exact ahE ai _ _ _ _ _ (ai.sg _ _ u az E) h
def apk (d i:Nat):Kh l 0 (Ru l F d i):=by
 have A{G}(h:G:=by
 split at h
 ·split at h
  ·rename_i N
   obtain⟨v,aX,O,h⟩:=binds h;cases h;exact .asg N aW (SK (ai.vl _ _) v _ O)
  ·
   cases h
 ·
  cases h;exact aW):=LG h;exact ato
def asa (d q i:Nat)(ac:abN q (Oq (MJ l i).tx)=true):Kh l 1 (VH l F d q i):=by
 intro t j h;unfold VH at h
 split at h
 ·have N:Oq (MJ l i).tx=2\/Oq (MJ l i).tx=3\/Oq (MJ l i).tx=4:=by simpa[abN,or_assoc] using ac
  unfold UA at h;obtain⟨s,az,E,h⟩:=binds h
  split at h
  ·
   cases h
  ·rename_i av
   split at h
   ·obtain⟨v,aX,O,h⟩:=binds h;obtain⟨_,ca,ao,h⟩:=binds h;cases h;have a4:=SK (ai.vl _ _) v _ O;exact .decl N (Vk E) (λu aS=>by rw[zalaf.1 aS];exact a4) MP MP
   ·rename_i af
    obtain⟨_,ca,ao,h⟩:=binds h;cases h;exact .decl N (Vk E) (λu aS=>by cases aS) MP (λe=>absurd ⟨e,af⟩ av)
 ·unfold VF at h;obtain⟨_,az,E,h⟩:=binds h;obtain⟨s,aX,O,h⟩:=binds h;obtain⟨p,b,rfl,ae,D⟩:=aeY ai h;exact .func (Vk O) ae D
 ·exact .apg (Xm ai _ _ h)
 ·obtain⟨_,ca,ao,h⟩:=binds h;cases h;exact .empty
 ·have N:Oq (MJ l i).tx=7:=by simpa[abN] using ac
  unfold Qp at h;rw[N] at h;have A{G}(h:G:=by
  have aW:=abO ai d _ v az E;have a4:=SK (ai.st _ _) s _ O
  split at h
  ·obtain⟨e9,ca,ao,h⟩:=binds h;cases h;exact .av4 aW a4 (SK (ai.st _ _) e9 _ ao)
  ·
   cases h;exact .sif aW a4):=LG h;exact ak7
 ·have N:Oq (MJ l i).tx=8\/Oq (MJ l i).tx=9:=by simpa[abN] using ac
  unfold Pj at h;have A{G}(h:G:=by
  cases h;exact .loop N (abO ai d _ v az E) (SK (ai.st _ _) s _ O)):=LG h;exact ak7
 ·have N:Oq (MJ l i).tx=10\/Oq (MJ l i).tx=11:=by simpa[abN] using ac
  unfold Qm at h
  split at h
  ·have A{G}(h:G:=by
   cases h;have aW:=SK (ai.vl _ _) v _ E;exact .give N (λu aS=>by rw[zalaf.1 aS];exact aW) MP MP):=LG h;exact anM
  ·rename_i av
   obtain⟨_,aX,O,h⟩:=binds h;cases h;exact .give N (λu aS=>by cases aS) MP (λe=>absurd (zalad e) av)
 ·have A{G}(h:G:=by
  have a4:(∀ u ∈ c,PK (NmL l) 7 u)/\c.length<=1:=by
   unfold QX at O
   split at O
   ·have A{G}(h:G:=by
    cases O;exact⟨λu aS=>by rw[zalaf.1 aS];exact .cat (Vk dn) (Xm ai _ _ iM),by simp⟩):=LG h;exact atp
   ·
    cases O;exact⟨λu aS=>(by cases aS),by simp⟩
  have bO:(∀ u ∈ f,PK (NmL l) 8 u)/\f.length<=1:=by
   unfold Oh at ao
   split at ao
   ·obtain⟨cw,e0,iM,ao⟩:=binds ao;cases ao;exact⟨λu aS=>by rw[zalaf.1 aS];exact .fin (Xm ai _ _ iM),by simp⟩
   ·
    cases ao;exact⟨λu aS=>(by cases aS),by simp⟩
  split at h
  ·
   cases h
  ·rename_i av
   cases h;exact .atm (Xm ai _ _ E) a4.1 bO.1 ⟨a4.2,bO.2,by omega⟩):=LG h;exact atq
def ae0 (d i:Nat):Kh l 1 (O1 l F d i):=by
 unfold O1
 split
 ·rename_i ac;exact asa ai d _ i (av6 ac)
 ·intro t j h;unfold VG at h;have A{G}(h:G:=by
  cases h;exact .expr (SK (ai.vl _ _) v _ E)):=LG h;exact anM
omit ai in
theorem av7:∀ k,FKh l (fns l k):=by
 intro k
 induction k with
 | zero=>exact⟨λ_ _ _ _ h=>by (cases h),λ_ _ _ _ h=>by (cases h),λ_ _ _ _ _ h=>by (cases h),λ_ _ _ _ h=>by (cases h),λ_ _ _ _ h=>by (cases h),λ_ _ _ _ _ h=>by (cases h),λ_ _ _ _ h=>by (cases h)⟩
 | succ k aU=>exact⟨ae0 aU,apk aU,ar9 aU,amZ aU,λd i t j h=>by
   change Ru l (fns l k) d i=_ at h;unfold Ru at h;obtain⟨u,az,E,_⟩:=binds h;exact aU.bp _ _ _ _ _ E,λb d i t j h=>by
   change UO l (fns l k) b d i=_ at h;unfold UO at h;obtain⟨u,az,E,_⟩:=binds h;exact aU.bs _ _ _ _ E,am0⟩
def ahF:∀ k au i t j,(∀ x ∈ au,PK (NmL l) 1 x)->Oa l F k au i=.ok t j->∀ x ∈ t,PK (NmL l) 1 x:=by
 intro k
 induction k with
 | zero=>intro au i t j _ h;cases h
 | succ k aU=>
  intro au i t j aa h;unfold Oa at h;exact ay5
def asb:Kh l 9 (PZ l F):=by
 intro t j h;unfold PZ at h;obtain⟨ts,az,E,h⟩:=binds h;cases h;obtain⟨tx,O,ao⟩:=ahC 1 0 ts;rw[ao];exact .prog O (ahF ai _ _ _ _ _ (λ_ h=>by cases h) E)
end
def anW {aj signs:List LW}{s:LW}{t:Tr}(h:UM aj signs s=.ok t):∃ l,Pn aj signs s (MH O8 s 0) []=.ok l/\PK (NmL l) 9 t:=by
 unfold UM at h
 split at h
 ·
  cases h
 ·split at h
  ·
   cases h
  ·rename_i l ab
   refine⟨l,ab,?_⟩
   cases ae:PZ l (fns l KK) with
   | out=>rw[ae] at h;cases h
   | bad er p=>rw[ae] at h;cases h
   | ok gl j=>
    rw[ae] at h;simp only at h
    split at h
    ·
     cases h
    ·
     cases h;exact asb (av7 _) _ _ ae
section
variable {Nm:LW->Prop} {c:Nat} {t:Tr} (h:PK Nm c t)
include Nm c t h
def agy:∀ k ∈ t.kids,∃ lv,PK Nm lv k:=by
 induction h with
 | apg h aU=>exact aU
 | name h=>intro k N;cases N
 | str s=>intro k N;cases N
 | num n=>intro k N;cases N
 | lit N=>intro k N;cases N
 | av3 h aH=>intro k N;rw[zalaf.1 N];exact⟨_,aH⟩
 | call aH W ab=>
  intro k N
  rcases zalas.1 N with rfl|N
  ·exact⟨_,aH⟩
  ·exact⟨_,W k N⟩
 | one N aH=>intro k N;rw[zalaf.1 N];exact⟨_,aH⟩
 | two N aa D=>
  exact azh
 | asg N aa D=>
  exact azh
 | obj W ab=>exact λk N=>⟨_,W k N⟩
 | lam h ae D=>
  exact azg
 | prop h a0=>intro k N;rw[zalaf.1 N];exact⟨_,a0⟩
 | par h=>intro k N;cases N
 | ar8 W ab=>exact λk N=>⟨_,W k N⟩
 | blk W=>exact λk N=>⟨_,W k N⟩
 | body aH W=>exact λk N=>⟨_,W k N⟩
 | decl N h a0 ab am=>exact λk N=>⟨_,a0 k N⟩
 | func h ae D=>
  exact azg
 | sif a0 W=>
  exact azf
 | av4 a0 W he=>
  intro k N
  rcases zalas.1 N with rfl|N
  ·exact⟨_,a0⟩
  ·rcases zalas.1 N with rfl|N
   ·exact⟨_,W⟩
   ·rw[zalaf.1 N];exact⟨_,he⟩
 | loop N a0 W=>
  exact azf
 | give N a0 ab am=>exact λk N=>⟨_,a0 k N⟩
 | atm D am an ab=>
  intro k N
  rcases zalas.1 N with rfl|N
  ·exact⟨_,D⟩
  ·rcases zalat.1 N with N|N
   ·exact⟨_,am k N⟩
   ·exact⟨_,an k N⟩
 | cat h D=>intro k N;rw[zalaf.1 N];exact⟨_,D⟩
 | fin D=>intro k N;rw[zalaf.1 N];exact⟨_,D⟩
 | empty=>intro k N;cases N
 | expr a0=>intro k N;rw[zalaf.1 N];exact⟨_,a0⟩
 | prog aH W=>exact λk N=>⟨_,W k N⟩
def aed (an:MF t=true):∃ p b,t.kids=[p,b]/\PK Nm 5 p/\PK Nm 4 b:=by
 induction h with
 | apg h aU=>exact aU an
 | lam h ae D=>exact⟨_,_,rfl,ae,D⟩
 | func h ae D=>exact⟨_,_,rfl,ae,D⟩
 | lit N=>rcases N with rfl|rfl|rfl|rfl <;> cases an
 | one N aH=>rcases N with rfl|rfl|rfl <;> cases an
 | two N aa D=>
  unfold MF at an;simp[Tr.kd] at an;omega
 | decl N h a0 ab am=>rcases N with rfl|rfl|rfl <;> cases an
 | loop N a0 W=>rcases N with rfl|rfl <;> cases an
 | give N a0 ab am=>rcases N with rfl|rfl <;> cases an
 | _=>cases an
end
def ajW {Nm:LW->Prop}{t:Tr}(h:PK Nm 5 t\/PK Nm 6 t):MF t=false/\∀ k ∈ t.kids,PK Nm 5 k\/PK Nm 6 k:=by
 rcases h with h|h
 ·
  cases h with
  | ar8 W ab=>exact⟨rfl,λk N=>zalal (W k N)⟩
 ·
  cases h with
  | par h=>exact⟨rfl,λk N=>by cases N⟩
def WS (t:Tr):Prop:=∃ (Nm:LW->Prop) (c:Nat),PK Nm c t
def WS.part {a k:Ad}(h:WS a.tr)(N:k ∈ a.ks):WS k.tr:=by
 obtain⟨Nm,c,h⟩:=h;obtain⟨lv,cH⟩:=agy h k.tr (by rw[a.NC.2.2];exact zalcj N)
 exact⟨Nm,lv,cH⟩
def ahG {Nm:LW->Prop}{c:Nat}{t:Tr}(h:PK Nm c t)(an:t.kd=9):∃ x y,t.kids=[x,y]:=by
 induction h with
 | apg h aU=>exact aU an
 | loop N a0 W=>exact⟨_,_,rfl⟩
 | lit N=>rcases N with rfl|rfl|rfl|rfl <;> cases an
 | one N aH=>rcases N with rfl|rfl|rfl <;> cases an
 | two N aa D=>simp only[Tr.kd] at an;omega
 | decl N h a0 ab am=>rcases N with rfl|rfl|rfl <;> cases an
 | give N a0 ab am=>rcases N with rfl|rfl <;> cases an
 | _=>cases an
def WS.two {a:Ad}(h:WS a.tr)(N:a.kd=9):∃ x y,a.ks=[x,y]:=by
 obtain⟨Nm,c,h⟩:=h;obtain⟨x,y,e⟩:=ahG h (by rw[a.NC.1];exact N)
 exact ayW
end
abbrev nd0:Obj:=MB 0 LH 0 (.slice none 0 0)
structure Stn (c:PC)(w:LK)(i:Nat)(L:LK):Prop where
 ps:Ps c L i 0 (-1)
 nd:L.heap[w.heap.size]? = some nd0
 ap:Ap c.P w.heap.size w L
section
variable {c:PC} {w:LK}
include c w
def Stn.new {i:Nat}(h:Ps c w i 0 (-1)):Stn c w i (w.alloc nd0):=⟨h.alloc _,LP _ _,(Ap.refl c.P w.heap.size w).alloc Nh _⟩
def Stn.below {i:Nat}{L bJ:LK}(h:Stn c w i L)(D:LX L bJ):Stn c w i bJ:=⟨h.ps.later D,(D.block _ (lt_of_heap h.nd)).trans h.nd,h.ap.next (Ap.of D)⟩
def Stn.on {i j:Nat}{L bJ:LK}(h:Stn c w i L)(fT:c.P<w.heap.size)(ae:Ps c bJ j 0 (-1))(aa:Ap c.P L.heap.size L bJ):Stn c w j bJ:=⟨ae,(aa.block _ (lt_of_heap h.nd) LM).trans h.nd,h.ap.next aa⟩
end
def aaw {B aR:Nat}{L:LK}{kd z:Int}{tx:LW}{u:LY}{ps:List Nat}{ks:List Tr}(bA:B<=aR)(D:L.heap[aR]? = some (MB kd tx z u))(T:L.ownsRow B 22 1 u ps.length (ps.map LC))(N:LU (λb=>B<=b/\b≠aR) L ks ps):NV B L (.mk kd tx z ks) (LC aR):=by
 refine⟨aR,rfl,?_⟩;rw[Nj];exact⟨bA,u,ps,D,⟨Qr T,λg hg=>(Me T g hg).2⟩,N⟩
def Zr {B aR kB n:Nat}{bn X:LK}{kd z:Int}{tx:LW}{ks:List Tr}{ps:List Nat}(xP:B<=aR)(aN:aR<kB)(aB:∀ b,b≠aR->X.heap[b]? = bn.heap[b]?)(b5:X.heap.size=bn.heap.size)(bw:kB<=bn.heap.size)
  (aI:X.heap[aR]? = some (MB kd tx z (.slice (some (LD bn.heap.size 0)) n n))) (N:LU (λb=>kB<=b) bn ks ps) (av:n=ps.length) (bl:Array LY) (am:bl.toList=ps.map LC) (ab:ps.length<=maxLen):NV B (X.alloc (.cells bl 22)) (.mk kd tx z ks) (LC aR):=by
 have A{G}(h:G:=by
 refine aaw xP (by rw[zalaa _ _ _ LM];exact aI) ay ?_
 have W:Pq (λb=>kB<=b) bn (X.alloc (.cells bl 22)):=λb D ab=>by rw[zalaa _ _ _ LM];exact aB b (by have:kB<=b:=D;omega)
 exact LU.mono (λb D _=>by have:kB<=b:=D;exact⟨by omega,by omega⟩) _ _ (LU.later W _ _ N)):=LG h;exact aBG
def set2 (bn:LK)(aR:Nat)(a b:LY):∀ k,k≠aR->((bn.setCell (LD aR 0) a).setCell (LD aR 3) b).heap[k]? = bn.heap[k]?:=λk N=>by rw[zalap _ _ _ k (by first|exact N|exact zalfi N),zalap _ _ _ k (by first|exact N|exact zalfi N)]
def set1 (bn:LK)(aR:Nat)(b:LY):∀ k,k≠aR->(bn.setCell (LD aR 3) b).heap[k]? = bn.heap[k]?:=λk N=>by rw[zalap _ _ _ k (by first|exact N|exact zalfi N)]
def YO {B:Nat}{L:LK}:L.ownsRow B 22 1 QJ ([]:List Nat).length (([]:List Nat).map LC):=⟨rfl,zalad ⟨rfl,rfl⟩⟩
section
variable {c:PC} {F:OQ} (ai:ZW c F) (aN:∃ k,VW c.l k F) (U:ZK F) (w:LK) (d i:Nat) (r:PR Tr) (aD:d<=30)
include c F ai aN U w d i r aD
def amH (an:fx c.l i=Nc)(W:r=MV c.l F d i)(ay:r≠.out)(h:Ps c w i 0 (-1)) :
  MC 111 #[NW c,LJ (d:Int)] w (Oj c w (NV w.heap.size) ZN r):=by
 have bb:=hide ay;have bN:=hide ai;have e4:=hide aN;have hr:=hide U;have tC:decide ((30:Int)<(d:Int))=false:=zalaw LM;have kN:=hide (Stn.new h);have am:=NP c (w.alloc nd0) i Nc MK kN.out.ps;rw[zalaz an] at am;have ag:=hide am;clear h;go_enter func111,ntmps111;go_wp2_with fail;refine NJ ?_;rintro e w1 ⟨rfl,D⟩;have f':=hide (kN.out.below D);clear D;have ag:=hide (PL bN.out e4.out hr.out false w1 d i r aD (by rw[W];rfl) ay f'.out.ps)
 clear ay W aN;go_wp2_with fail;refine NJ ?_;intro e wz ae
 cases r with
 | out=>exact absurd rfl bb.out
 | bad er pl=>
  obtain⟨⟨v,rfl,q,rfl⟩,cv,he,aa⟩:=ae;have bk:=hide cv;have bS:=hide (f'.out.ap.next aa);exact avm
 | ok t j=>
  obtain⟨⟨v,rfl,q,rfl,av⟩,cv,aa⟩:=ae;have bk:=hide cv;have bS:=hide (f'.out.ap.next aa);have b3:=hide (Nj.mono (λb D _=>zalan f'.out.ap.size D) _ _ av:Nj (λb=>w.heap.size<=b) wz t q);exact avj
def amI (an:fx c.l i=Nb)(W:r=.ok (.mk 16 LH 0 []) (i+1))(ay:r≠.out)(h:Ps c w i 0 (-1)) :
  MC 111 #[NW c,LJ (d:Int)] w (Oj c w (NV w.heap.size) ZN r):=by
 have a1:=hide h.SB;have dl:=hide h.base.size;have bN:=hide ai;have e4:=hide aN;have br{G}(h:G:=by
 have A{G}(h:G:=by
 have ag:=hide (OG c w1 i Nb MK an f'.out.ps);go_wp2_with fail;refine NJ ?_;rintro e w2 ⟨rfl,ae,aa⟩;have dw:=hide (f'.out.on a1.out ae aa);subst W;have aI:=dw.out.nd;obtain⟨c0,c1,c2,c3,dx⟩:=node_cells aI;have lx:=dx 0;have ey:=lt_of_heap aI;have aV:=hide aI;clear aI;go_wp2;go_ret;refine⟨⟨_,rfl,aaw Nh (by rw[heap_set aV.out];rfl) YO LU.nil⟩,?_,?_⟩
 ·exact dw.out.ps.ap ((zalbd w.heap.size w2).setCell (p:=(LD w.heap.size 0)) Nh _) dl.out
 ·exact dw.out.ap.setCell (p:=(LD w.heap.size 0)) (zalad Nh) _):=LG h;exact zsm):=LG h;exact ztn
def ao6 (an:fx c.l i=MI)(W:r=(nameP c.l (i+1)).bind λs aX=>P7 c.l F 5 s d aX)(ay:r≠.out)(h:Ps c w i 0 (-1)) :
  MC 111 #[NW c,LJ (d:Int)] w (Oj c w (NV w.heap.size) ZN r):=by
 have a1:=hide h.SB;have bb:=hide ay;have bN:=hide ai;have e4:=hide aN;have hr:=hide U;have br{G}(h:G:=by
 have e1:¬ fx c.l i=Nb:=by rw[an];decide
 have A{G}(h:G:=by
 clear D;have ag:=hide (OZ c w1 i Nb MK e1 f'.out.ps);go_wp2_with fail;refine NJ ?_;rintro e w2 ⟨rfl,D⟩;have dw:=hide (f'.out.below D);clear D;have ag:=hide (OG c w2 i MI MK an dw.out.ps);go_wp2_with fail;refine NJ ?_;rintro e aq ⟨rfl,ae,aa⟩;have iJ:=hide (dw.out.on a1.out ae aa);have aG:=hide W;have ag:=hide (RJ c aq (i+1) iJ.out.ps);clear ay W aN;go_wp2_with fail;refine NJ ?_;intro e gm ae
 cases T:nameP c.l (i+1) with
 | out=>rw[T] at aG;exact absurd aG.out bb.out
 | bad er pl=>
  rw[T] at ae aG;have ac:r=.bad er pl:=Lu aG;subst ac;obtain⟨⟨v,rfl,s,rfl⟩,⟨j,cv⟩,he,aa⟩:=ae;have bS:=hide (iJ.out.ap.next aa);have ag:=hide (acC c gm j er pl 5 (d:Int) s he cv);clear cv T;go_wp2_with fail;refine NJ ?_;rintro e wz ⟨⟨v,rfl,q,rfl⟩,bE,_,cI⟩;have cU:=hide bE;have bR:=hide (bS.out.next cI);clear bE;exact ave
 | ok s j=>
  rw[T] at ae aG;have ac:r=P7 c.l F 5 s d j:=Lu aG;obtain⟨⟨v,rfl,rfl⟩,cv,aa⟩:=ae;have nQ:=hide (iJ.out.on a1.out cv aa);have ag:=hide (Vt bN.out e4.out hr.out gm 5 s d j r aD ac bb.out cv);clear cv T ac;go_wp2_with fail;refine NJ ?_;intro e wz ae
  cases r with
  | out=>exact absurd rfl bb.out
  | bad er pl=>
   obtain⟨⟨v,rfl,q,rfl⟩,cv,he,aa⟩:=ae;have bk:=hide cv;have bS:=hide (nQ.out.ap.next aa);exact avm
  | ok t j=>
   obtain⟨⟨v,rfl,q,rfl,av⟩,cv,aa⟩:=ae;have bk:=hide cv;have bS:=hide (nQ.out.ap.next aa);have b3:=hide (Nj.mono (λb D _=>zalan nQ.out.ap.size D) _ _ av:Nj (λb=>w.heap.size<=b) wz t q);exact avj):=LG h;exact zsm):=LG h;exact ztn
def amJ (an:fx c.l i=Ut)(W:r=(MO c.l F.vl d (i+1)).bind λv az=>(MG c.l Nb az).bind λ_ aX=>.ok (.mk 11 LH 0 [v]) aX)(ay:r≠.out)(h:Ps c w i 0 (-1)) :
  MC 111 #[NW c,LJ (d:Int)] w (Oj c w (NV w.heap.size) ZN r):=by
 have A{G}(h:G:=by
 have A{G}(h:G:=by
 have A{G}(h:G:=by
 have pv:¬ fx c.l i=QO:=by rw[an];decide
 have A{G}(h:G:=by
 have A{G}(h:G:=by
 have A{G}(h:G:=by
 have ag:=hide (OG c zH i Ut MK an p2.out.ps);go_wp2_with fail;refine NJ ?_;rintro e un ⟨rfl,ae,aa⟩;have kO:=hide (p2.out.on a1.out ae aa);have aG:=hide W;clear ay W aN
 cases T:MO c.l F.vl d (i+1) with
 | out=>rw[T] at aG;exact absurd aG.out bb.out
 | bad er pl=>
  have ag:=hide (bN.out.vl un d (i+1) _ aD T.symm (by nofun) kO.out.ps);have A{G}(h:G:=by
  refine NJ ?_;rintro e cs ⟨⟨v,rfl,q,rfl⟩,⟨j,cv⟩,he,aa⟩;have A{G}(h:G:=by
  have A{G}(h:G:=by
  have bv:=kO.out.ap.next aa;have aV:Hid (Below w.heap.size cs (((cs.setCell (LD w.heap.size 0) (LJ 11)).setCell (LD w.heap.size 3) (.slice (some (LD cs.heap.size 0)) 1 1)).alloc (.cells #[LC q] 22))):=(((zalbd w.heap.size cs).setCell (p:=(LD w.heap.size 0)) Nh _).setCell (p:=(LD w.heap.size 3)) Nh _).alloc OM _;exact avx):=LG h;exact XZ):=LG h;exact aqZ):=LG h;exact aqT
 | ok t j=>
  have ag:=hide (bN.out.vl un d (i+1) _ aD T.symm (by nofun) kO.out.ps);rw[T] at aG;have ac:r=(MG c.l Nb j).bind λ_ aX=>.ok (.mk 11 LH 0 [t]) aX:=Lu aG;have A{G}(h:G:=by
  have A{G}(h:G:=by
  have A{G}(h:G:=by
  have bv:=kO.out.ap.next aa;have aV:Hid (Below w.heap.size cs (((cs.setCell (LD w.heap.size 0) (LJ 11)).setCell (LD w.heap.size 3) (.slice (some (LD cs.heap.size 0)) 1 1)).alloc (.cells #[LC q] 22))):=(((zalbd w.heap.size cs).setCell (p:=(LD w.heap.size 0)) Nh _).setCell (p:=(LD w.heap.size 3)) Nh _).alloc OM _;have bS:=hide (bv.trans (Ap.of aV.out));have bk:=hide (cv.ap aV.out dl.out)
  have b3:Hid (NV w.heap.size (((cs.setCell (LD w.heap.size 0) (LJ 11)).setCell (LD w.heap.size 3) (.slice (some (LD cs.heap.size 0)) 1 1)).alloc (.cells #[LC q] 22)) (.mk 11 LH 0 [t]) (LC w.heap.size)):=Zr Nh (lt_of_heap kO.out.nd) (set2 cs w.heap.size _ _) MP aa.size (by rw[heap_set (heap_set aI _)];rfl) (LU.cons av LU.nil) rfl #[LC q] rfl (by simp[maxLen])
  have A{G}(h:G:=by
  cases bG:MG c.l Nb j with
  | out=>rw[bG] at bY;exact absurd bY.out bb.out
  | bad er pl=>
   exact arn
  | ok x a8=>
   rw[bG] at ae bY;have ac:r=.ok (.mk 11 LH 0 [t]) a8:=Lu bY;exact aro):=LG h;exact auS):=LG h;exact XZ):=LG h;exact aqZ):=LG h;exact auR):=LG h;exact aCo):=LG h;exact at1):=LG h;exact zsb):=LG h;exact aBa):=LG h;exact afY):=LG h;exact af2
def ao7 (jm:¬ fx c.l i=Nc)(e1:¬ fx c.l i=Nb)(e2:¬ fx c.l i=MI)(fE:¬ fx c.l i=tIf)(jI:¬ fx c.l i=QN)(iz:¬ fx c.l i=QU)(kr:¬ fx c.l i=Uu)(mz:¬ fx c.l i=Oo)(oo:¬ fx c.l i=Ov)(pw:¬ fx c.l i=MS)(pv:¬ fx c.l i=QO)(qS:¬ fx c.l i=Ut)(W:r=(MO c.l F.vl d i).bind λv az=>(MG c.l Nb az).bind λ_ aX=>.ok (.mk 15 LH 0 [v]) aX)(ay:r≠.out)(h:Ps c w i 0 (-1)) :
  MC 111 #[NW c,LJ (d:Int)] w (Oj c w (NV w.heap.size) ZN r):=by
 have A{G}(h:G:=by
 have A{G}(h:G:=by
 have A{G}(h:G:=by
 have A{G}(h:G:=by
 have ag:=hide (OZ c zH i Ut MK qS p2.out.ps);go_wp2_with fail;refine NJ ?_;rintro e un ⟨rfl,D⟩;have kO:=hide (p2.out.below D);have aG:=hide W;clear ay W aN
 cases T:MO c.l F.vl d i with
 | out=>rw[T] at aG;exact absurd aG.out bb.out
 | bad er pl=>
  have ag:=hide (bN.out.vl un d i _ aD T.symm (by nofun) kO.out.ps);have A{G}(h:G:=by
  refine NJ ?_;rintro e cs ⟨⟨v,rfl,q,rfl⟩,⟨j,cv⟩,he,aa⟩;have A{G}(h:G:=by
  have A{G}(h:G:=by
  have bv:=kO.out.ap.next aa;have aV:Hid (Below w.heap.size cs (((cs.setCell (LD w.heap.size 0) (LJ 15)).setCell (LD w.heap.size 3) (.slice (some (LD cs.heap.size 0)) 1 1)).alloc (.cells #[LC q] 22))):=(((zalbd w.heap.size cs).setCell (p:=(LD w.heap.size 0)) Nh _).setCell (p:=(LD w.heap.size 3)) Nh _).alloc OM _;exact avx):=LG h;exact XZ):=LG h;exact aqZ):=LG h;exact aqT
 | ok t j=>
  have ag:=hide (bN.out.vl un d i _ aD T.symm (by nofun) kO.out.ps);rw[T] at aG;have ac:r=(MG c.l Nb j).bind λ_ aX=>.ok (.mk 15 LH 0 [t]) aX:=Lu aG;have A{G}(h:G:=by
  have A{G}(h:G:=by
  have A{G}(h:G:=by
  have bv:=kO.out.ap.next aa;have aV:Hid (Below w.heap.size cs (((cs.setCell (LD w.heap.size 0) (LJ 15)).setCell (LD w.heap.size 3) (.slice (some (LD cs.heap.size 0)) 1 1)).alloc (.cells #[LC q] 22))):=(((zalbd w.heap.size cs).setCell (p:=(LD w.heap.size 0)) Nh _).setCell (p:=(LD w.heap.size 3)) Nh _).alloc OM _;have bS:=hide (bv.trans (Ap.of aV.out));have bk:=hide (cv.ap aV.out dl.out)
  have b3:Hid (NV w.heap.size (((cs.setCell (LD w.heap.size 0) (LJ 15)).setCell (LD w.heap.size 3) (.slice (some (LD cs.heap.size 0)) 1 1)).alloc (.cells #[LC q] 22)) (.mk 15 LH 0 [t]) (LC w.heap.size)):=Zr Nh (lt_of_heap kO.out.nd) (set2 cs w.heap.size _ _) MP aa.size (by rw[heap_set (heap_set aI _)];rfl) (LU.cons av LU.nil) rfl #[LC q] rfl (by simp[maxLen])
  have A{G}(h:G:=by
  cases bG:MG c.l Nb j with
  | out=>rw[bG] at bY;exact absurd bY.out bb.out
  | bad er pl=>
   exact arn
  | ok x a8=>
   rw[bG] at ae bY;have ac:r=.ok (.mk 15 LH 0 [t]) a8:=Lu bY;exact aro):=LG h;exact auS):=LG h;exact XZ):=LG h;exact aqZ):=LG h;exact auR):=LG h;exact aCo):=LG h;exact at1):=LG h;exact zsb):=LG h;exact az2
end
def ajR {B aR kB n:Nat}{bn X:LK}{kd z:Int}{tx:LW}{ks:List Tr}{ps:List Nat}(xP:B<=aR)(aN:aR<kB)(aB:∀ b,b≠aR->X.heap[b]? = bn.heap[b]?)(b5:X.heap.size=bn.heap.size)(bw:kB<=bn.heap.size)
  (aI:X.heap[aR]? = some (MB kd tx z (.slice (some (LD bn.heap.size 0)) n n))) (N:LU (λb=>kB<=b) bn ks ps) (av:n=ps.length) (bl:Array LY) (am:bl.toList=ps.map LC) (ab:ps.length<=maxLen):Open B (X.alloc (.cells bl 22)) (.mk kd tx z ks) aR (.slice (some (LD bn.heap.size 0)) n n) ps:=by
 have A{G}(h:G:=by
 refine⟨xP,by rw[zalaa _ _ _ LM];exact aI,ay,?_,?_⟩
 ·intro e;simp only[Value.ownBlock,zalbw] at e;omega
 ·have W:Pq (λb=>kB<=b/\b<bn.heap.size) bn (X.alloc (.cells bl 22)):=λb D ab=>by rw[zalaa _ _ _ LM];exact aB b (by have:kB<=b:=D.1;omega)
  have E:=LU.mono (J:=λb=>kB<=b/\b<bn.heap.size) (λb D ab=>⟨D,ab⟩) _ _ N;exact LU.mono (λb D _=>by
   have O:kB<=b/\b<bn.heap.size:=D;refine⟨by omega,by omega,λe=>?_⟩;simp only[Value.ownBlock,zalbw] at e;omega) _ _ (LU.later W _ _ E)):=LG h;exact aBG
def Open.nv {B:Nat}{w:LK}{t:Tr}{p:Nat}{u:LY}{ps:List Nat}(h:Open B w t p u ps):NV B w t (LC p):=h.ev.nv
def Open.stay {R B:Nat}{w w':LK}{t:Tr}{p:Nat}{u:LY}{ps:List Nat}(h:Open B w t p u ps)(aa:Ap R w.heap.size w w')(bA:R<B):Open B w' t p u ps:=
 ⟨h.low,by rw[aa.block p (lt_of_heap h.blk) (by have:=h.low;omega)];exact h.blk,L8 (I:=λb=>B<=b) (Pq.Tq aa bA λ_ h=>h) (λg hg=>(Me h.row g hg).2) h.row,h.own,LU.later (Pq.Tq aa bA λ_ h=>h.1) _ _ h.kids⟩
def Open.grows {B:Nat}{w1 w2 aq:LK}{t:Tr}{p:Nat}{u v:LY}{ps:List Nat}(h:Open B w1 t p u ps)(D:Below B w1 w2)(bA:B<=w2.heap.size)(cS:w2.grownBy aq u.ownBlock):Below B w1 (aq.setCell (LD p 3) v):=
 (D.grown cS bA (λk N=>(Me h.row k N).2)).setCell (p:=(LD p 3)) h.low _
def Open.push {B:Nat}{w2 aq:LK}{t x:Tr}{p q g cap n:Nat}{u:LY}{ps:List Nat}(h:Open B w2 t p u ps)(af:LU (λb=>B<=b/\b≠p/\u.ownBlock≠some b) w2 (t.kids++[x]) (ps++[q]))(av:n=t.kids.length+1)
  (hown:aq.ownsRow B 22 1 (.slice (some (LD g 0)) n cap) n (ps.map LC++[LC q])) (cS:w2.grownBy aq u.ownBlock) (hg:u.ownBlock=some g\/g=w2.heap.size) :
  EV B (aq.setCell (LD p 3) (.slice (some (LD g 0)) n cap)) (.mk t.kd t.tx t.n (t.kids++[x])) (LC p):=
 aeb h.low h.blk h.own af (by rw[zalam];exact hown) (by rw[av];simp[LU.length _ _ h.kids]) cS hg
def Open.kb {R B:Nat}{w w1:LK}{t:Tr}{p:Nat}{u:LY}{ps:List Nat}(h:Open B w t p u ps)(aa:Ap R w.heap.size w w1)(a7:R<B):LU (λb=>(B<=b/\b≠p/\u.ownBlock≠some b)/\b<w.heap.size) w1 t.kids ps:=
 LU.later (Pq.Tq aa a7 λ_ h=>h.1.1) _ _ (LU.mono (λ_ D ab=>⟨D,ab⟩) _ _ h.kids)
def Open.Za {B Z:Nat}{w w1:LK}{t:Tr}{p:Nat}{u:LY}{ps:List Nat}(h:Open B w t p u ps)(bA:B<=w.heap.size)(qo:w.heap.size<=Z){ci:List Tr}{bf:List Nat}(av:LU (λb=>Z<=b) w1 ci bf)(N:LU (λb=>(B<=b/\b≠p/\u.ownBlock≠some b)/\b<w.heap.size) w1 t.kids ps) :
  LU (λb=>B<=b/\b≠p/\u.ownBlock≠some b) w1 (t.kids++ci) (ps++bf):=
 LU.append (M:=w.heap.size) _ _ (LU.mono (λb D _=>by
  have E:Z<=b:=D;have O:=lt_of_heap h.blk;exact⟨⟨by omega,by omega,λe=>by have:=(Me h.row b e).1;omega⟩,by omega⟩) _ _ av) N
def Open.alloc {B:Nat}{w:LK}{t:Tr}{p:Nat}{u:LY}{ps:List Nat}(h:Open B w t p u ps)(o:Obj):Open B (w.alloc o) t p u ps:=
 ⟨h.low,by rw[zalaa _ _ _ (lt_of_heap h.blk)];exact h.blk,h.row.alloc _,h.own,LU.later (λb _ ab=>zalaa w _ b ab) _ _ h.kids⟩
def LU.alloc {I:Nat->Prop}{w:LK}{ts:List Tr}{ps:List Nat}(h:LU I w ts ps)(o:Obj):LU I (w.alloc o) ts ps:=LU.later (λb _ ab=>zalaa w _ b ab) _ _ h
def Open.acU {B:Nat}{w1 aq:LK}{t x:Tr}{p q g cap n:Nat}{u:LY}{ps:List Nat}(h:Open B w1 t p u ps)(af:LU (λb=>B<=b/\b≠p/\u.ownBlock≠some b) w1 (t.kids++[x]) (ps++[q]))(av:n=t.kids.length+1)
  (hown:aq.ownsRow B 22 1 (.slice (some (LD g 0)) n cap) n (ps.map LC++[LC q])) (cS:(w1.alloc (.cells #[LC q] 22)).grownBy aq u.ownBlock) (hg:u.ownBlock=some g\/g=w1.heap.size+1) :
  EV B (aq.setCell (LD p 3) (.slice (some (LD g 0)) n cap)) (.mk t.kd t.tx t.n (t.kids++[x])) (LC p):=
 (h.alloc _).push (LU.alloc af _) av hown cS (hg.imp id λe=>by simp[e])
def Open.asA {B aR:Nat}{w:LK}{t:Tr}{kd n:Int}{tx:LW}{v:LY}(h:EV B w t (LC aR))(D:w.heap[aR]? = some (MB kd tx n v)):∃ ps,Open B w t aR v ps:=by
 obtain⟨p,u,ps,he,ay⟩:=h.opens;have E:aR=p:=by simpa[LC] using he
 subst E;have O:=ay.blk;rw[D] at O;have ao:v=u:=by
  have aM:=O;simp at aM;exact aM.2.2.2
 subst ao;exact⟨ps,ay⟩
structure SN (c:PC)(w:LK)(Z:Nat)(t:Tr)(u:LY)(bf:List Nat)(x:Tr)(j:Nat)(ax:LK)(bu:Nat):Prop where
 ap:Ap c.P w.heap.size w ax
 ps:Ps c ax j 0 (-1)
 op:Open w.heap.size ax t w.heap.size u bf
 nd:LU (λb=>Z<=b) ax [x] [bu]
 sz:Z<=ax.heap.size
 kb:LU (λb=>(w.heap.size<=b/\b≠w.heap.size/\u.ownBlock≠some b)/\b<Z) ax t.kids bf
structure QT (c:PC)(w:LK)(t:Tr)(u:LY)(bf:List Nat)(er pl:Int)(ax:LK)(bu:Nat):Prop where
 ap:Ap c.P w.heap.size w ax
 ps:∃ j,Ps c ax j er pl
 op:Open w.heap.size ax t w.heap.size u bf
 he:er≠0
def aa5:∀ ts:List Tr,VT ts=ts.any Yo
 | []=>by rw[VT];rfl
 | t::ts=>by rw[VT,aa5 ts,List.any_cons]
def ae1 {G:Prop}(h:G:=by
 go_wp2_with fail;refine Y5 ?_;rintro e w2 ⟨rfl,rfl⟩;go_wp2_with fail
 go_loopw [43] (λi wr=>∃ k:Nat,k<=ks.length/\i=LJ k/\((ks.take k).any λx=>Yo x.tr)=false/\wr=w2) (λi _=>ks.length - (intOf i).toNat)
 case atStart=>exact⟨0,zalae _,rfl,rfl,rfl⟩
 case round=>
  obtain⟨k,cq,rfl,hany,hw⟩:=hrel;obtain rfl:w2=wr:=hw.symm;have q0:=hide hany;clear hw hany
  by_cases aC:k<ks.length
  ·have eY:(k:Int)<(ks.length:Int):=LM;obtain⟨g,dI,de,dU⟩:=Lu uD k aC;cases dI;have ag:=hide (Lu i4 ks[k] (zalao aC));have co:Hid (((ks.take (k+1)).any λx=>Yo x.tr)=Yo (ks[k]).tr):=by
    show _=_
    rw[zalac aC,zaleq,q0.out];simp
   have Ex:Hid (Yo (ks[k]).tr=true->R=true):=λh=>by
    rw[bo.out,zaldd];exact⟨ks[k],zalao aC,h⟩
   generalize (ks[k]).p=q at *
   generalize Yo (ks[k]).tr=b at *
   clear c0 FV
   cases b with
   | true=>
    have qm:R=true:=Lu Ex rfl;subst qm;go_wp2_with fail;refine NJ ?_;rintro e aq ⟨rfl,rfl⟩;go_wp2;go_ret;exact⟨rfl,rfl⟩
   | false=>
    go_wp2_with fail;refine NJ ?_;rintro e aq ⟨rfl,rfl⟩;go_wp2
    go_roundw
    case rel=>exact⟨k+1,by omega,by go_num,co.out,by first|rfl|trivial⟩
    case measure=>simp[intOf];omega
  ·have cA:k=ks.length:=LM;subst cA;have tv:R=false:=by rw[bo.out,<-q0.out,zalaq]
   subst tv;go_wp2;go_ret;exact⟨rfl,rfl⟩):G:=h
def aiw {I:Nat->Prop}:∀ (m:Nat) (a:Ad),a.cnt<=m->a.cnt<=20000->∀ w:LK,MZ I w a->a.tr.ill=0 ->
  MC 29 #[LC a.p] w λe w'=>e=MN (L9 (Yo a.tr))/\w'=w:=by
 intro m
 induction m with
 | zero=>intro a aa;have:=Ud a;omega
 | succ m aU=>
  intro a aa am w aH ak;obtain⟨_,bF,c0,_,v,FV,hrow⟩:=aH.cells;obtain⟨aW,_,bO⟩:=a.NC;have bN:=hide (QL a.tr a.p w aH.nat.nt);have h5:=OA a;have ex:a.ks.length<=20000:=by have:=P8 a.ks;omega
  have i4:Hid (∀ k ∈ a.ks,MC 29 #[LC k.p] w λe w'=>e=MN (L9 (Yo k.tr))/\w'=w):=λk N=>by
   have E:k.cnt<=Ad.cnts a.ks:=by
    have key:∀ al:List Ad,k ∈ al->k.cnt<=Ad.cnts al:=ayS
    exact key _ N
   exact aU k LM LM w (aH.parts k N) (Ot ak k N)
  have lH:Yo a.tr=(ceT a.tr||(if MF a.tr then false else (a.ks.map Ad.tr).any Yo)):=by rw[atf,aa5,bO]
  have fV:ceT a.tr=(a.kd==35&&(match a.ks.map Ad.tr with|k::_=>k.kd==23&&decide (k.tx=ZA) | []=>false)):=by unfold ceT;rw[aW,bO];rfl
  have vH:=afm ak;have fa:=hide hrow;obtain⟨uj,wo,tT⟩:=NH hrow.1;rw[zalag] at tT;subst tT;have uD:Hid (∀ k (N:k<a.ks.length),∃ g,uj=some (LD g 0)/\g<w.heap.size/\w.cell? (LD g k)=some (LC (a.ks[k]).p)):=λk N=>ayy
  have EP:=hide aH.parts;rw[lH];have qx:MF a.tr=true->(a.kd==35)=false:=λh=>by
   unfold MF at h;rw[aW,zaldh,zalbz,zalbz] at h
   rcases h with h|h <;> rw[h] <;> rfl
  have B9:((a.ks.map Ad.tr).any Yo)=a.ks.any λx=>Yo x.tr:=by rw[List.any_map];rfl
  rw[B9];obtain⟨R,a7⟩:∃ R,R=a.ks.any λx=>Yo x.tr:=⟨_,rfl⟩;rw[<-a7];have bo:=hide a7
  generalize m0:ceT a.tr=eK at fV ⊢
  clear m0 lH a7 B9
  cases an:MF a.tr with
  | true=>
   rw[an] at bN;have lD:=qx an;rw[lD,zalei] at fV;subst fV
   generalize a.kd=kd at c0 lD
   generalize a.p=p at *
   clear qx vH an aW bO;go_enter func29,ntmps29;go_wp2_with fail;refine Y5 ?_;rintro e w2 ⟨rfl,rfl⟩;go_wp2;go_ret;exact⟨rfl,rfl⟩
  | false=>
   rw[an] at bN
   cases lD:(a.kd==35) with
   | false=>
    rw[lD,zalei] at fV;subst fV;rw[zalbn];refine aln ?_
    generalize a.kd=kd at c0 lD
    generalize a.p=p at *
    generalize a.ks=ks at *
    clear qx vH an aW bO;go_enter func29,ntmps29;exact ae1
   | true=>
    rw[lD,zaleo] at fV;have av:=vH (by simpa using lD)
    cases bd:a.ks with
    | nil=>exact absurd bd av
    | cons a9 KG=>
     rw[bd] at fV;obtain⟨fN,HF,qA,ct⟩:=Lu uD 0 (by rw[bd];simp)
     have bv:=Lu EP a9 (by rw[bd];simp)
     have vK:(a.ks[0]'(by rw[bd];simp)).p=a9.p:=by simp[bd]
     rw[vK] at ct;obtain⟨_,eZ,k0,Ie,_⟩:=bv.cells;obtain⟨f1,gp,_⟩:=a9.NC;simp only[zalbb] at fV;rw[f1,gp] at fV;have hlen0:(0:Int)<((a.ks.length:Nat):Int):=by rw[bd];simp
     subst HF
     generalize a.kd=kd at c0 lD
     generalize a9.kd=jl at k0 fV
     generalize a9.tx=wj at Ie fV
     generalize a9.p=bC at *
     generalize a.p=p at *
     clear bd vK av
     generalize a.ks=ks at *
     clear qx vH an aW bO f1 gp
     cases hx:(jl==23) with
     | false=>
      rw[hx,zalei] at fV;subst fV;rw[zalbn];refine aln ?_;go_enter func29,ntmps29;exact ae1
     | true=>
      by_cases af:wj=ZA
      ·have a4:=RX (b:=ZA) rfl af;rw[hx,zalaz af] at fV;subst fV;clear af;go_enter func29,ntmps29;go_wp2;go_ret;exact⟨rfl,rfl⟩
      ·have a4:=RY (b:=ZA) rfl af;rw[hx,zalaw af] at fV;subst fV;rw[Bool.and_false,zalbn];refine aln ?_;clear af;go_enter func29,ntmps29;exact ae1
def ZF (t:Tr)(p:Nat)(w:LK)(h:VA w t p):MC 64 #[LC p] w λe w'=>e=MN (L9 (decide (t.tx=Nq)))/\w'=w:=by
 obtain⟨bF,_,c1,_⟩:=h.cells;clear h
 generalize t.tx=tx at c1
 by_cases af:tx=Nq
 ·have a4:=RX (b:=Nq) rfl af;rw[zalaz af];clear af;go_enter func64,ntmps64;go_wp2;go_ret;exact⟨rfl,rfl⟩
 ·have a4:=RY (b:=Nq) rfl af;rw[zalaw af];clear af;go_enter func64,ntmps64;go_wp2;go_ret;exact⟨rfl,rfl⟩
def ae2 {I:Nat->Prop}(t:Ad)(w:LK)(aH:MZ I w t)(aD:t.N9.Nodup)(am:t.cnt<=90000)(cz:∀ p ∈ t.N9,Cl w p) :
  MC 69 #[LC t.p] w λe w'=>(∃ aw,e=MN (.map (some aw))/\w.heap.size<=aw/\w'.heap[aw]? = some (.map (N7 (Ro t.N9)) t.N9.length))/\LX w w':=by
 have d9:LX w (w.alloc (.map #[] 0)):=Qn;have bS:=hide (abf (I:=λb=>b<w.heap.size) t.cnt t Nh (w.alloc (.map #[] 0)) (MZ.later (λb D _=>d9.block b D) _ (MZ.mono (λb _ ab=>ab) _ aH)) am);have jK:=hide cz;have f2:=hide aD;have ej:t.N9.length=t.cnt:=t.Qk;have tM:t.N9.length<=90000:=LM;have r5:=mkMap 44
 generalize t.N9=aK at *
 generalize t.p=p at *
 clear aD am ej cz;go_enter func69,ntmps69;go_wp2_with fail;refine cm bS.out ?_;rintro e w1 ⟨⟨v,rfl,a0⟩,bz⟩;have lJ:w1.heap[w.heap.size]? = some (.map #[] 0):=by
  rw[bz.block w.heap.size MP];exact LP _ _
 have ba:Hid (LX w w1):=d9.trans (bz.mono d9.size);have eh:=hide a0;have hZ:=hide lJ;obtain⟨va,ck,rfl⟩:=NH a0;clear lJ r5;have eB:=ba.out.size;go_wp2_with fail
 go_loopw [10] (λi wr=>∃ k:Nat,k<=aK.length/\i=LJ k/\wr.heap[w.heap.size]? = some (.map (N7 (Ro (aK.take k))) k)/\Ap w.heap.size w1.heap.size w1 wr) (λi _=>aK.length - (intOf i).toNat)
 case atStart=>exact⟨0,zalae _,rfl,hZ.out,Ap.of O4⟩
 case round=>
  obtain⟨k,N,rfl,aA,dq⟩:=hrel;have f4:=hide aA;have i1:=hide dq;have dV:=dq.size;clear aA
  by_cases aC:k<aK.length
  ·obtain⟨g,cap,hg,hcell⟩:=OB eh.out LM;simp only[zalcb] at hg;obtain⟨rfl,_,rfl⟩:=hg;have dU:=hcell k aC;have g2:=Me eh.out g rfl;have yn:wr.cell? (LD g k)=some (LC aK[k]):=by
    rw[zalar (w:=w1) (a:=(LD g k)) (i1.out.block g g2.1 (by have:=g2.2;simp at this;omega))]
    exact dU
   have de:g<wr.heap.size:=by have:=g2.1;omega
   have eY:(k:Int)<(aK.length:Int):=LM;have ed:∀ x ∈ aK,Cl wr x:=λx af=>by
    obtain⟨bl,eD,E⟩:=Lu jK x af;have j3:=lt_of_heap E;refine⟨bl,eD,?_⟩;rw[i1.out.block x LM LM,ba.out.block x j3];exact E
   have iU:(Ro (aK.take k)).length=k:=by rw[YE,zalbe];omega
   have CD:wr.heap[w.heap.size]? = some (.map (N7 (Ro (aK.take k))) (Ro (aK.take k)).length):=by rw[iU];exact Lu f4
   have hnot:aK[k] ∉ aK.take k:=λhmem=>by
    obtain⟨j,aT,yE⟩:=zalcf.1 hmem;rw[zalbe] at aT;rw[zalhf] at yE;have:=(zalga (h₀:=by omega) (h₁:=aC) f2.out).1 yE;omega
   have pj:=aa9 w.heap.size (Ro (aK.take k)) aK[k] (LJ (k:Int)) wr CD (ed _ (zalao aC)) (λe he=>ed _ (List.mem_of_mem_take (Uh he))) (ac2 hnot);have lN:Ro (aK.take k)++[(aK[k],LJ (k:Int))]=Ro (aK.take (k+1)):=by
    rw[zalac aC,ac1]
    congr 4
    rw[zalbe];omega
   rw[lN,iU] at pj;have sI:Hid ((NS wr w.heap.size (.map (N7 (Ro (aK.take (k+1)))) (k+1))).heap[w.heap.size]? = some (.map (N7 (Ro (aK.take (k+1)))) (k+1))):=by
    show _=_
    exact TY (lt_of_heap f4.out)
   generalize aK[k]=x at *
   clear hcell dU ed CD hnot lN;go_wp2
   go_roundw
   case rel=>exact⟨k+1,by omega,by go_num,sI.out,i1.out.trans (ac3 _ _)⟩
   case measure=>simp[intOf];omega
  ·have cA:k=aK.length:=LM;subst cA;go_wp2;go_ret;have E:=Lu f4;rw[zalaq] at E;refine⟨⟨_,rfl,Nh,E⟩,?_⟩;have bA:=Lu ba;have bv:=Lu i1;exact⟨bv.os.trans bA.os,bv.tape.trans bA.tape,bv.output.trans bA.output,zalan bA.size bv.size,λx af=>(bv.block x LM LM).trans (bA.block x af)⟩
def ash:(prog.info? 116).map (λi=>(i.zero,i.size,i.bytes))=some (some (.agg #[LJ 0,QJ,L9 false]),3,40):=by kernel_rfl
def Qj {w:LK}{B C n:Nat}{v:LY}{bQ:List LY}(h:w.ownsRow B 116 3 v n bQ)(am:C<=B):w.ownsRow C 116 3 v n bQ:=ax3
def adw (B:Nat)(X:LK)(h:B<=X.heap.size):(X.alloc (.cells #[] 116)).ownsRow B 116 3 (.slice (some (LD X.heap.size 0)) 0 0) 0 []:=
 ⟨rfl,zalal ⟨X.heap.size,0,#[],rfl,h,LP _ _,Nh,by decide,rfl,rfl⟩⟩
def abR {B n:Nat}{X:LK}{g cap:Nat}{bQ:List LY}(h:X.ownsRow B 116 3 (.slice (some (LD g 0)) n cap) n bQ):∀ j u,bQ[j]? = some u->X.cell? (((LD g 0):Addr).add j)=some u:=λj u aT=>by
 have ab:j<n * 3:=by rw[<-h.1];exact(zalcy.1 aT).1
 have aM:((LD g 0):Addr).add j=(LD g j):=by unfold Addr.add;split <;> simp_all
 rw[aM,h.cellAt j ab];exact aT
section
variable (o:Int) (dF:Option Addr) (nl dG:Nat) (b:Bool)
include o dF nl dG b
def aa7:∀ u ∈ [Value.int .i64 o,.slice dF nl dG,L9 b],u.oneCell'=true:=by
 intro u aS;simp only[zalas,zalcw,zalfb] at aS
 rcases aS with rfl|rfl|rfl <;> rfl
def put_any (v:LY)(n:Nat)(bQ:List LY)(hW:Nat)(w:LK)(am:w.cell? (LD hW 0)=some v)(hown:w.ownsRow 0 116 3 v n bQ)(av:0<n)(gy:n<=50000)(af:∀ u ∈ bQ,u.oneCell'=true) :
  MC 71 #[.agg #[LJ o,.slice dF nl dG,L9 b],Mc hW 0] w λe w'=>
   (∃ b0,e=MN b0/\w'.ownsRow w.heap.size 116 3 b0 (n+1) (bQ++[LJ o,.slice dF nl dG,L9 b]))/\LX w w':=by
 obtain⟨a6,b4,bL,bM,bP⟩:=zalbl ash;have bb:=hide hown;have cy:=hide af;obtain⟨g,cap,rfl,_,_⟩:=hown.form av;have jG:hW<w.heap.size:=cell_lt am;have d9:LX w (w.alloc (.cells #[LJ o,.slice dF nl dG,L9 b] 116)):=Qn;obtain⟨w0,hU⟩:∃ w0,w0=w.alloc (.cells #[LJ o,.slice dF nl dG,L9 b] 116):=⟨_,rfl⟩;have CT:w0.heap[w.heap.size]? = some (NK #[LJ o,.slice dF nl dG,L9 b] 116):=by rw[hU];exact LP _ _
 have hd:=Md d9 am;rw[<-hU] at d9 hd;have hI:=hide d9;have cO:=hide CT;have j6:=hide hd;clear af;go_enter func71,ntmps71;go_wp2_with fail;rw[<-hU];have aE:LX w0 w0.drew:=O4.drew;have ph:w0.heap.size=w.heap.size+1:=by rw[hU];simp
 refine MR 6 (λX=>LX w0 X) Nw ?_;obtain⟨X,aB⟩:∃ X,X=w0.drew:=⟨_,rfl⟩;have GJ:X.heap.size=w0.heap.size:=by rw[aB];rfl
 rw[<-aB] at aE ⊢;clear aB hU CT hd;have kN:=hide ph;clear ph GJ;have hcell:w0.cell? (LD w.heap.size 0)=some (LJ o)/\w0.cell? (LD w.heap.size 1)=some (.slice dF nl dG)/\w0.cell? (LD w.heap.size 2)=some (L9 b):=by
  refine⟨?_,?_,?_⟩ <;> rw[cell_of cO.out] <;> rfl
 have jK:=hide hcell;clear hcell;have ri:Hid (∀ Y,LX w0 Y->Y.ownsRow 0 116 3 (.slice (some (LD g 0)) n cap) n bQ):=λY dC=>
  L8 (I:=λ_=>True) (λb _ ab=>dC.block b ab) (λ_ _=>trivial) (L8 (I:=λ_=>True) (λb _ ab=>hI.out.block b ab) (λ_ _=>trivial) bb.out)
 refine ug 1 (.slice (some (LD g 0)) n cap) rfl (zalad ⟨by kernel_rfl,λY dC=>by have aJ:=Md dC j6.out;go_simp⟩) aE ?_
 refine ug 3 (.agg #[LJ o,.slice dF nl dG,L9 b]) rfl (zalad ⟨by kernel_rfl,λY dC=>by have aJ:=Md dC jK.out.1;have E:=Md dC jK.out.2.1;have O:=Md dC jK.out.2.2;go_simp⟩) aE ?_
 refine uq2 0 4 (λK U=>?_) (λK U=>?_)
 ·go_simp;have a3:(X.alloc (.cells #[] 116)).ownsRow w0.heap.size 116 3 (.slice (some (LD X.heap.size 0)) 0 0) 0 []:=adw _ X aE.size;have cP:LX w0 (X.alloc (.cells #[] 116)):=aE.alloc aE.size _;refine ad2 ?_;clear U K;obtain⟨mj,dI⟩:∃ mj,mj=X.heap.size:=⟨_,rfl⟩;obtain⟨Y,dC⟩:∃ Y,Y=X.alloc (.cells #[] 116):=⟨_,rfl⟩;have xj:Hid (mj<Y.heap.size/\w0.heap.size<=mj):=by
   show _/\_
   rw[dC,dI];exact⟨by simp,aE.size⟩
  rw[<-dC] at a3 cP ⊢;rw[<-dI] at a3 ⊢;clear dC dI;refine uq2 2 4 (λK U=>?_) (λK U=>?_)
  ·refine step_append_lies _ rfl _ _ 114 rfl w0.heap.size 116 a6 (.agg #[LJ 0,QJ,L9 false]) 3 40 zalfq b4 bL bM bP rfl MK _ _ _ rfl a3 (LD g 0) n cap bQ rfl (Lu ri _ cP).1 (abR (Lu ri _ cP)) cy.out av (by unfold maxLen;omega) LM cP.size _ rfl ?_
   intro fc c1 i6 hrow1 qB gd _;simp only[zalda,zalbq] at hrow1 ⊢;have eN:LX w0 i6:=cP.trans ((zalbd w0.heap.size _).grown qB cP.size (λk N=>(Me a3 k N).2));refine U.out _ _ (λ_=>eN) ?_;clear U K gd;refine Qh 4 λK U=>?_;go_simp;have aN:(i6.alloc (.cells #[LJ o,.slice dF nl dG,L9 b] 116)).heap[i6.heap.size]? = some (NK #[LJ o,.slice dF nl dG,L9 b] 116):=LP _ _;have eo:LX w0 (i6.alloc (.cells #[LJ o,.slice dF nl dG,L9 b] 116)):=eN.alloc eN.size _
   have hrow2:=hrow1.alloc (.cells #[LJ o,.slice dF nl dG,L9 b] 116);refine alD ?_;clear U K;obtain⟨ga,m4⟩:∃ ga,ga=i6.heap.size:=⟨_,rfl⟩;obtain⟨jR,kh⟩:∃ jR,jR=i6.alloc (.cells #[LJ o,.slice dF nl dG,L9 b] 116):=⟨_,rfl⟩;rw[<-kh] at aN eo hrow2 ⊢;rw[<-m4] at aN ⊢;clear kh m4;refine Qh 5 λK U=>?_
   refine step_append_lies _ rfl _ _ 114 rfl w0.heap.size 116 a6 (.agg #[LJ 0,QJ,L9 false]) 3 40 zalfq b4 bL bM bP rfl MK _ _ _ rfl hrow2 (LD ga 0) 1 1 [LJ o,.slice dF nl dG,L9 b] rfl rfl (World.news_of_block aN) (aa7 o dF nl dG b) MK (by unfold maxLen;omega) LM eo.size _ rfl ?_
   intro xz c5 s9 CZ hgr5 r1 _;have dK:LX w0 s9:=eo.trans ((zalbd w0.heap.size _).grown hgr5 eo.size (λk N=>(Me hrow2 k N).2));exact aCZ
  ·go_simp;have aN:(Y.alloc (.cells #[LJ o,.slice dF nl dG,L9 b] 116)).heap[Y.heap.size]? = some (NK #[LJ o,.slice dF nl dG,L9 b] 116):=LP _ _;have eo:LX w0 (Y.alloc (.cells #[LJ o,.slice dF nl dG,L9 b] 116)):=cP.alloc cP.size _;have xQ:=a3.alloc (.cells #[LJ o,.slice dF nl dG,L9 b] 116);refine alD ?_;clear U K;obtain⟨ga,m4⟩:∃ ga,ga=Y.heap.size:=⟨_,rfl⟩;obtain⟨jR,kh⟩:∃ jR,jR=Y.alloc (.cells #[LJ o,.slice dF nl dG,L9 b] 116):=⟨_,rfl⟩
   have hgn1:ga<jR.heap.size/\ga≠mj:=by rw[kh,m4];exact⟨by simp,by have:=xj.out.1;omega⟩
   rw[<-kh] at aN eo xQ ⊢;rw[<-m4] at aN ⊢;have l5:=hide hgn1;clear kh m4 hgn1;refine Qh 2 λK U=>?_;refine step_append_lies _ rfl _ _ 114 rfl w0.heap.size 116 a6 (.agg #[LJ 0,QJ,L9 false]) 3 40 zalfq b4 bL bM bP rfl MK _ _ _ rfl xQ (LD g 0) n cap bQ rfl (Lu ri _ eo).1 (abR (Lu ri _ eo)) cy.out av (by unfold maxLen;omega) LM eo.size _ rfl ?_
   intro fc c1 i6 hrow1 qB gd _;simp only[zalda,zalbq] at hrow1 ⊢;have tH:World.grownBy jR i6 (some mj):=qB;have fe:LX w0 i6:=eo.trans ((zalbd w0.heap.size _).grown qB eo.size (λk N=>(Me xQ k N).2));have BW:i6.heap[ga]? = some (NK #[LJ o,.slice dF nl dG,L9 b] 116):=(tH.block ga l5.out.1 (by simpa using l5.out.2)).trans aN;refine ah9 ?_;clear U K gd aN;exact aCY
 ·go_simp;have aN:(X.alloc (.cells #[LJ o,.slice dF nl dG,L9 b] 116)).heap[X.heap.size]? = some (NK #[LJ o,.slice dF nl dG,L9 b] 116):=LP _ _;have cP:LX w0 (X.alloc (.cells #[LJ o,.slice dF nl dG,L9 b] 116)):=aE.alloc aE.size _;refine ad2 ?_;clear U K;obtain⟨ga,m4⟩:∃ ga,ga=X.heap.size:=⟨_,rfl⟩;obtain⟨Y,dC⟩:∃ Y,Y=X.alloc (.cells #[LJ o,.slice dF nl dG,L9 b] 116):=⟨_,rfl⟩;have hgn1:ga<Y.heap.size:=by rw[dC,m4];simp
  rw[<-dC] at aN cP ⊢;rw[<-m4] at aN ⊢;have l5:=hide hgn1;clear dC m4 hgn1;refine Qh 0 λK U=>?_;go_simp;have a3:(Y.alloc (.cells #[] 116)).ownsRow w0.heap.size 116 3 (.slice (some (LD Y.heap.size 0)) 0 0) 0 []:=adw _ Y cP.size;have eN:LX w0 (Y.alloc (.cells #[] 116)):=cP.alloc cP.size _;have xV:(Y.alloc (.cells #[] 116)).heap[ga]? = some (NK #[LJ o,.slice dF nl dG,L9 b] 116):=(zalaa Y _ ga l5.out).trans aN;refine U.out _ _ (λ_=>eN) ?_;clear U K;obtain⟨mj,dI⟩:∃ mj,mj=Y.heap.size:=⟨_,rfl⟩
  obtain⟨jR,kh⟩:∃ jR,jR=Y.alloc (.cells #[] 116):=⟨_,rfl⟩;have d':ga<jR.heap.size/\ga≠mj:=by rw[kh,dI];exact⟨by simp;have:=Lu l5;omega,by have:=Lu l5;omega⟩
  rw[<-kh] at a3 eN xV ⊢;rw[<-dI] at a3 ⊢;have kK:=hide d';clear kh dI aN d';refine Qh 2 λK U=>?_;refine step_append_lies _ rfl _ _ 114 rfl w0.heap.size 116 a6 (.agg #[LJ 0,QJ,L9 false]) 3 40 zalfq b4 bL bM bP rfl MK _ _ _ rfl a3 (LD g 0) n cap bQ rfl (Lu ri _ eN).1 (abR (Lu ri _ eN)) cy.out av (by unfold maxLen;omega) LM eN.size _ rfl ?_
  intro fc c1 i6 hrow1 qB gd _;simp only[zalda,zalbq] at hrow1 ⊢;have tH:World.grownBy jR i6 (some mj):=qB;have fe:LX w0 i6:=eN.trans ((zalbd w0.heap.size _).grown qB eN.size (λk N=>(Me a3 k N).2));have BW:i6.heap[ga]? = some (NK #[LJ o,.slice dF nl dG,L9 b] 116):=(tH.block ga kK.out.1 (by simpa using kK.out.2)).trans xV;refine ah9 ?_;clear U K gd xV;exact aCY
end
def aal (t pr b6:Tr)(no:Nat)(ch:List Sc)(st:Bool):List Sc:=
 ⟨no,(NI (pr.kids.map Tr.tx)++[Nr])++namesT b6 true,VT b6.kids && !(st||decide (b6.tx=Nq))⟩::(if t.kd==37 && !decide (t.tx=LH) then ⟨no,[t.tx],false⟩::ch else ch)
def rl:Nat->Tr->Nat->List Sc->Bool->List Us
 | 0,_,_,_,_=>[]
 | m+1,t,no,ch,st=>
  if t.kd=23 then [((no:Int),(Qb ch t.tx true).1,(Qb ch t.tx true).2)]
  else if t.kd=9 then match t.kids with
   | k0::a9::_=>rl m k0 (no+1) ch st++rl m a9 (no+1+k0.count) (⟨0,[],true⟩::ch) st
   | _=>[]
  else if t.kd=13 then Rh (rl m) t.kids (no+1) (⟨no,[t.tx],false⟩::ch) st
  else if t.kd=6 then Rh (rl m) t.kids (no+1) (⟨no,namesT t false,false⟩::ch) st
  else if t.kd=5\/t.kd=37 then match t.kids with
   | pr::b6::_=>Rh (rl m) b6.kids (no+1+pr.count+1) (aal t pr b6 no ch st) (st||decide (b6.tx=Nq))
   | _=>[]
  else Rh (rl m) t.kids (no+1) ch st
def Zv:∀ (m:Nat) (t:Tr) (no:Nat) (ch:List Sc) (st:Bool),(rl m t no ch st).length<=t.count
 | 0,_,_,_,_=>zalae _
 | m+1,t,no,ch,st=>by
  have aU:=Xv (f:=rl m) (Zv m);have am:=Ou t;rw[rl]
  split
  ·rw[zalbm];omega
  split
  ·split
   ·rename_i k0 a9 ks N
    rw[N,L6,L6] at am;have E:=Zv m k0 (no+1) ch st;have O:=Zv m a9 (no+1+k0.count) (⟨0,[],true⟩::ch) st;rw[zalab];omega
   ·exact zalae _
  split
  ·have:=aU t.kids (no+1) (⟨no,[t.tx],false⟩::ch) st;omega
  split
  ·have:=aU t.kids (no+1) (⟨no,namesT t false,false⟩::ch) st;omega
  split
  ·split
   ·rename_i pr b6 ks N
    rw[N,L6,L6] at am;have E:=aU b6.kids (no+1+pr.count+1) (aal t pr b6 no ch st) (st||decide (b6.tx=Nq));have O:=Ou b6;omega
   ·exact zalae _
  ·have:=aU t.kids (no+1) ch st;omega
abbrev wkV (aI be aZ:Nat):LY:=.func (.func 70) #[] #[MX aI,MX be,MX aZ]
structure Sz (I:Nat->Prop)(aI aw be aZ:Nat)(aK:List Nat)(ah:List Us)(w:LK):Prop where
 num:w.heap[aI]? = some (NK #[.map (some aw)] 44)
 map:w.heap[aw]? = some (.map (N7 (Ro aK)) aK.length)
 wlk:w.heap[aZ]? = some (NK #[wkV aI be aZ] 113)
 out:∃ v,w.heap[be]? = some (NK #[v] 52)/\w.ownsRow 0 57 3 v ah.length (Ph ah)/\(∀ b,I b->v.ownBlock≠some b)/\v.ownBlock≠some be
 inb:I aI/\I aw/\I aZ
 ne:∀ b,I b->b<w.heap.size/\b≠be
 cl:∀ p ∈ aK,I p/\Cl w p
 nd:aK.Nodup
section
variable {I:Nat->Prop} {aI aw be aZ:Nat} {aK:List Nat} {ah:List Us} {w w':LK} (h:Sz I aI aw be aZ aK ah w) (D:LX w w')
include I aI aw be aZ aK ah w w' h D
def Sz.later:Sz I aI aw be aZ aK ah w':=by
 obtain⟨E,O,ao,⟨v,a9,bD,b8,e0⟩,bw,h6,h7,dp⟩:=h;exact⟨by rw[D.block aI (lt_of_heap E)];exact E,by rw[D.block aw (lt_of_heap O)];exact O,by rw[D.block aZ (lt_of_heap ao)];exact ao,⟨v,by rw[D.block be (lt_of_heap a9)];exact a9,L8 (I:=λ_=>True) (Below.stay D) (λ_ _=>trivial) bD,b8,e0⟩,bw,λb eG=>⟨zalau (h6 b eG).1 D.size,(h6 b eG).2⟩,λp ae=>⟨(h7 p ae).1,Cl.fm (Fm.of D) (h7 p ae).1 (h7 p ae).2⟩,dp⟩
def Sz.more:Sz (λb=>I b\/(w.heap.size<=b/\b<w'.heap.size)) aI aw be aZ aK ah w':=by
 obtain⟨E,O,ao,⟨v,a9,bD,b8,e0⟩,bw,h6,h7,dp⟩:=h.later D;obtain⟨_,_,_,⟨b0,bH,a8,eI,lQ⟩,_⟩:=h;have a0:b0=v:=by
  rw[D.block be (lt_of_heap bH),bH] at a9;simpa using a9
 subst a0;refine⟨E,O,ao,⟨b0,a9,bD,λb eG e=>?_,e0⟩,⟨zalad bw.1,zalad bw.2.1,zalad bw.2.2⟩,λb eG=>?_,λp ae=>⟨zalad (h7 p ae).1,(h7 p ae).2⟩,dp⟩
 ·rcases eG with eG|eG
  ·exact b8 b eG e
  ·have:=(Me a8 b e).1;omega
 ·rcases eG with eG|eG
  ·exact h6 b eG
  ·have:=lt_of_heap bH;exact⟨eG.2,by omega⟩
end
def Sz.less {I J:Nat->Prop}{aI aw be aZ:Nat}{aK:List Nat}{ah ij:List Us}{w w':LK}(h:Sz J aI aw be aZ aK ij w')(aJ:Sz I aI aw be aZ aK ah w)(cz:∀ b,I b->J b):Sz I aI aw be aZ aK ij w':=by
 obtain⟨E,O,ao,⟨v,a9,bD,b8,e0⟩,bw,h6,h7,dp⟩:=h;exact⟨E,O,ao,⟨v,a9,bD,λb D=>b8 b (cz b D),e0⟩,aJ.inb,λb D=>h6 b (cz b D),λp ae=>⟨(aJ.cl p ae).1,(h7 p ae).2⟩,dp⟩
def rgCells (ps:List (LY × Sc)):List LY:=ps.flatMap λx=>[LJ x.2.own,x.1,L9 x.2.opn]
def ahJ (a b:List (LY × Sc)):rgCells (a++b)=rgCells a++rgCells b:=List.flatMap_append
def abS:∀ (ps:List (LY × Sc)) (k:Nat) (N:k<ps.length),(rgCells ps)[3 * k]? = some (LJ (ps[k]).2.own)/\(rgCells ps)[3 * k+1]? = some (ps[k]).1/\(rgCells ps)[3 * k+2]? = some (L9 (ps[k]).2.opn)
 | [],_,N=>by cases N
 | u::l,0,_=>⟨rfl,rfl,rfl⟩
 | u::l,k+1,N=>by
  have h:=abS l k (by simpa using N);have e:rgCells (u::l)=LJ u.2.own::u.1::L9 u.2.opn::rgCells l:=rfl;have s':3 * (k+1)=3 * k+1+1+1:=LM;have fM:3 * (k+1)+1=3 * k+1+1+1+1:=LM;have fS:3 * (k+1)+2=3 * k+2+1+1+1:=LM;rw[e,fM,fS,s'];simp only[List.getElem?_cons_succ,zalev];exact h
def RR (I:Nat->Prop)(w:LK)(v:LY)(ps:List (LY × Sc)):Prop:=
 w.ownsRow 0 116 3 v ps.length (rgCells ps)/\(∀ g,v.ownBlock=some g->I g)/\∀ x ∈ ps,Na 0 w x.1 x.2.nms/\(∀ g,x.1.ownBlock=some g->I g)/\x.2.nms.length<=90000
def RR.later {I:Nat->Prop}{w w':LK}{v:LY}{ps:List (LY × Sc)}(h:RR I w v ps)(W:Pq I w w'):RR I w' v ps:=
 ⟨L8 W h.2.1 h.1,h.2.1,λx af=>⟨L8 W (h.2.2 x af).2.1 (h.2.2 x af).1,(h.2.2 x af).2⟩⟩
def RR.mono {I J:Nat->Prop}{w:LK}{v:LY}{ps:List (LY × Sc)}(h:RR I w v ps)(c7:∀ b,I b->J b):RR J w v ps:=
 ⟨h.1,λg hg=>c7 g (h.2.1 g hg),λx af=>⟨(h.2.2 x af).1,λg hg=>c7 g ((h.2.2 x af).2.1 g hg),(h.2.2 x af).2.2⟩⟩
def RR.ones {I:Nat->Prop}{w:LK}{v:LY}{ps:List (LY × Sc)}(h:RR I w v ps):∀ u ∈ rgCells ps,u.oneCell'=true:=by
 intro u aS;obtain⟨x,af,aS⟩:=List.mem_flatMap.1 aS;simp only[zalas,zalcw,zalfb] at aS
 rcases aS with rfl|rfl|rfl
 ·rfl
 ·obtain⟨a,c,e⟩:=LZ (h.2.2 x af).1;rw[e];rfl
 ·rfl
def WalkC (m:Nat):Prop:=∀ (a:Ad),a.cnt<=m->∀ (I:Nat->Prop) (aI aw be aZ:Nat) (aK aL post:List Nat) (ah:List Us) (v:LY) (ps:List (LY × Sc)) (st:Bool) (w:LK),
 aK=aL++(a.N9++post)->Sz I aI aw be aZ aK ah w->MZ I w a->a.tr.ill=0->WS a.tr->RR I w v ps->0<ps.length->ps.length+a.cnt<=20000->ah.length+a.cnt<=20000 ->
 MC 70 #[LC a.p,v,L9 st,MX aI,MX be,MX aZ] w λe w'=>e=MN (.tuple #[])/\Sz I aI aw be aZ aK (ah++rl m a.tr aL.length ((ps.map Prod.snd).reverse) st) w'/\Fm I w w'
