import Derived.Test.YticfnaiehdpbmaaGreatDoorAg7
import Derived.ChangeAlike
import Derived.Deep.DrawnRows
set_option maxRecDepth 100000
set_option maxHeartbeats 8000000
set_option linter.unusedVariables false
namespace Go.Proofs.YticfnaiehdpbmaaGreatDoor
open Go.RowKit Go.Proofs.Tryz
def Vp (t:Tk):List NP:=[Nr t.kd,ND t.tx,Nr t.n,Nr (t.pl:Int)]
def Qh (l:List Tk):List NP:=l.flatMap Vp
theorem XV (l:List Tk)(t:Tk):Qh (l++[t])=Qh l++Vp t:=by simp[Qh]
def ai5 (r:TR)(w:Ny)(e:Ending)(w':Ny):Prop:=
 match r with
 | .ok l=>∃ v,e=NU (.tuple #[v,.nilIface])/\w'.ownsRow w.heap.size 144 4 v l.length (Qh l)/\NJ w w'
 | .bad er p=>∃ b,e=NU (.tuple #[.slice none 0 0,.iface 150 (NM b 0)])/\w'.heap[b]? = some (Og #[Nr er,Nr (p:Int)] 152)/\w.heap.size<=b/\NJ w w'
theorem awh:(prog.info? 144).map (fun i=>(i.zero,i.size,i.bytes))=some (some Xn,4,40):=by kernel_rfl
theorem aic {wr ao:Ny}{B:Nat}{v:NP}{n:Nat}{xs:List NP}(D:NJ wr ao)(h:wr.ownsRow B 144 4 v n xs):ao.ownsRow B 144 4 v n xs:=by
 obtain⟨hl,h0|⟨g,cap,cl,ap,rd,hh,U⟩⟩:=h
 ·exact⟨hl,Or.inl h0⟩
 ·exact⟨hl,Or.inr ⟨g,cap,cl,ap,rd,by rw[D.block g (Array.getElem?_eq_some_iff.1 hh).1];exact hh,U⟩⟩
theorem alc {w:Ny}{B B':Nat}{v:NP}{n:Nat}{xs:List NP}(D:B'<=B)(h:w.ownsRow B 144 4 v n xs):w.ownsRow B' 144 4 v n xs:=by
 obtain⟨hl,h0|⟨g,cap,cl,ap,rd,U⟩⟩:=h
 ·exact⟨hl,Or.inl h0⟩
 ·exact⟨hl,Or.inr ⟨g,cap,cl,ap,by omega,U⟩⟩
theorem acY {B:Nat}{el k2 w1:Ny}{v:NP}{n:Nat}{xs:List NP}(aZ:Below B el k2)(c9:B<=k2.heap.size)(hown:k2.ownsRow B 144 4 v n xs)(hg:k2.grownBy w1 v.ownBlock) :
  Below B el w1:=aZ.grown hg c9 (fun k E=>by
  obtain⟨_,⟨rfl,_⟩|⟨g,cap,cl,rfl,rd,_⟩⟩:=hown
  ·simp[Value.ownBlock] at E
  ·simp[Value.ownBlock] at E;omega)
theorem af5 (s:NR)(w:Ny)(ae:3000<s.size) :
  NK 33 #[ND s] w fun e w'=>e=NU (.tuple #[PG,.iface 34 (Nr 4)])/\w'=w:=by
 go_enter func33,ntmps33
 go_wp2
 go_ret2
 exact⟨rfl,rfl⟩
theorem ahW (bf bH:List NR)(s:NR)(w:Ny)(ae:s.size<=3000)(dz:Lists bf bH w)(lN:∀ g ∈ bH,1<=g.size) :
  NK 33 #[ND s] w (ai5 (Tf bf bH s (Oo QN s 0) []) w):=by
 obtain⟨i0,ay,dH,b6,cq⟩:=info_parts awh;obtain⟨r,U⟩:∃ r,Tf bf bH s (Oo QN s 0) []=r:=⟨_,rfl⟩;have dk:=hide U;rw[U];have FN:=hide lN;clear U lN;go_enter func33,ntmps33;go_wp2_with fail;refine(acM _ _).mono ?_;rintro av w1 ⟨x,rfl,ac,hbel⟩;have dS:=(ac.congr aqL);go_wp2_with fail;refine(Xm s 0 x QN w1 (by unfold maxLen;omega) (Nat.zero_le _) dS).mono ?_
 rintro bC w2 ⟨rfl,rfl⟩;have nW:=RZ QN s 0 (Nat.zero_le _);obtain⟨aW,al⟩:∃ aW,Oo QN s 0=aW:=⟨_,rfl⟩;rw[al] at nW ⊢;have bj:Hid (Tf bf bH s aW []=r):=by show _=_;rw[<-al];exact Ns dk
 clear al;go_wp2_with fail
 go_loopw [5,6,7,8,9] (fun v i _ _ _ wr=>∃ (j:Nat) (be:List Tk),j<=s.size/\be.length<=j/\i=Nr j/\Tf bf bH s j be=r/\wr.ownsRow w2.heap.size 144 4 v be.length (Qh be)/\NJ w2 wr/\w2.heap.size<=wr.heap.size) (fun _ i _ _ _ _=>s.size - (intOf i).toNat)
 case atStart=>exact⟨aW,[],nW,by simp,rfl,bj.out,World.ownsRow_nil _ _ _ _,P8,OH⟩
 case round=>
  obtain⟨j,be,aT,mY,rfl,au,hown,aZ,c9⟩:=hrel;have dw:=hide au;clear au;have Dx:=(dz.later hbel).later aZ
  by_cases aQ:j<s.size
  ·
   cases a8:UR bf bH s j with
   | tok kd tx n e=>
    have D:=YL bf bH s j kd n tx e aQ FN.out a8;have hB:=hide ((QJ bf bH s j be kd n tx e aQ a8 D.1).symm.trans dw.out);have hW:=hide a8;obtain⟨b4,aE⟩:=D;clear a8;go_wp2_with fail;have hread:=agu bf bH s j wr ae aQ Dx;rw[hW.out] at hread;refine cm hread ?_;rintro ey ao ⟨rfl,bm⟩;have Dq:=aZ.trans (bm.mono c9);have ef:=Dq;have Co:=(aic bm hown);have hsz3:w2.heap.size<=ao.heap.size:=Dq.size
    go_wp2_with (at_builtin;refine wpList_append_own _ rfl _ _ 88 rfl w2.heap.size 144 i0 Xn 4 40 underlying88 ay dH b6 cq rfl NH _ _ _ rfl ((Co.alloc _).alloc _) (Nv (ao.heap.size+1) 0) 1 1 [Nr kd,ND tx,Nr n,Nr (j:Int)] rfl rfl ?c1 ?c2 ?c3 ?c4 ?c5 ?_)
    case c1=>
     exact aBw
    case c2=>
     intro u aO;simp only[List.mem_cons,List.not_mem_nil,or_false] at aO
     rcases aO with rfl|rfl|rfl|rfl <;> rfl
    case c3=>unfold maxLen;omega
    case c4=>omega
    case c5=>simp;omega
    intro v' b' hown' hgrow _;have zO:=acY ((ef.alloc hsz3 _).alloc Qa _) Qa ((Co.alloc _).alloc _) hgrow;have iY:=zO;have y7:b'.ownsRow w2.heap.size 144 4 v' (be++[Tk.mk kd tx n j]).length (Qh (be++[Tk.mk kd tx n j])):=by
     show World.ownsRow _ _ _ _ _ _ _
     rw[XV,List.length_append];exact hown'
    have rd:=Ug QN s e;have h5:=RZ QN s e aE;obtain⟨hY,tP⟩:∃ hY,Oo QN s e=hY:=⟨_,rfl⟩;rw[tP] at rd h5;have B0:=hide tP;clear tP;go_wp2_with fail;have hpast:=Xm s e x QN b' (by unfold maxLen;omega) aE (dS.later iY)
    rw[B0.out] at hpast;refine hpast.mono ?_;rintro vi b9 ⟨rfl,rfl⟩;go_wp2_with fail
    go_roundw
    case rel=>exact⟨hY,be++[Tk.mk kd tx n j],h5,by simp;omega,rfl,by have:=Ns hB;rw[B0.out] at this;exact this,y7,iY,iY.size⟩
    case measure=>simp[intOf];omega
   | bad er p=>
    have ag:r=.bad er p:=by rw[<-dw.out,YX bf bH s j be er p aQ a8]
    have hW:=hide a8;clear a8;subst ag;go_wp2_with fail;have hread:=agu bf bH s j wr ae aQ Dx;rw[hW.out] at hread;refine cm hread ?_;rintro ey ao ⟨b,rfl,D,jt,bm⟩;have ie:=hide D;have ef:=(aZ.trans (bm.mono c9));have hsz3:=Nat.le_trans c9 bm.size;have qt:=Nat.le_trans c9 jt;clear D;go_wp2_with fail
    go_ret2
    have dl:=hbel;refine⟨b,rfl,?_,Nat.le_trans dl.size qt,(dl.trans (ef.mono dl.size)).alloc (Nat.le_trans dl.size hsz3) _⟩;rw[Below.heap_alloc ao _ b (Array.getElem?_eq_some_iff.1 ie.out).1];exact Ns ie
  ·have ag:r=.ok (be++[Tk.mk 6 ⟨#[]⟩ 0 s.size]):=by rw[<-dw.out,Xu bf bH s j be aQ]
   subst ag
   go_wp2_with (at_builtin;refine wpList_append_own _ rfl _ _ 88 rfl w2.heap.size 144 i0 Xn 4 40 underlying88 ay dH b6 cq rfl NH _ _ _ rfl (hown.alloc _) (Nv wr.heap.size 0) 1 1 [Nr 6,OG,Nr 0,Nr (s.size:Int)] rfl rfl ?c1 ?c2 ?c3 ?c4 ?c5 ?_)
   case c1=>
    exact aBw
   case c2=>
    intro u aO;simp only[List.mem_cons,List.not_mem_nil,or_false] at aO
    rcases aO with rfl|rfl|rfl|rfl <;> rfl
   case c3=>unfold maxLen;omega
   case c4=>omega
   case c5=>simp;omega
   intro v' b' hown' hgrow _;have zO:=acY (aZ.alloc c9 _) Qa (hown.alloc _) hgrow;have iY:=zO;have y7:b'.ownsRow w2.heap.size 144 4 v' (be++[Tk.mk 6 ⟨#[]⟩ 0 s.size]).length (Qh (be++[Tk.mk 6 ⟨#[]⟩ 0 s.size])):=by
    show World.ownsRow _ _ _ _ _ _ _
    rw[XV,List.length_append];exact hown'
   go_wp2_with fail
   go_ret2
   have dl:=hbel;exact⟨v',rfl,alc dl.size y7,dl.trans (iY.mono dl.size)⟩
structure Ap (R B:Nat)(w w':Ny):Prop where
 os:w'.os=w.os
 tape:w'.tape=w.tape
 output:w'.output=w.output
 size:w.heap.size<=w'.heap.size
 block:∀ k,k<B->k≠R->w'.heap[k]? = w.heap[k]?
theorem Ap.refl (R B:Nat)(w:Ny):Ap R B w w:=⟨rfl,rfl,rfl,OH,fun _ _ _=>rfl⟩
theorem Ap.of {R B:Nat}{w w':Ny}(h:Below B w w'):Ap R B w w':=⟨h.os,h.tape,h.output,h.size,fun k E _=>h.block k E⟩
theorem Ap.trans {R B:Nat}{a b c:Ny}(h:Ap R B a b)(k:Ap R B b c):Ap R B a c:=
 ⟨k.os.trans h.os,k.tape.trans h.tape,k.output.trans h.output,Nat.le_trans h.size k.size,fun n aA U=>(k.block n aA U).trans (h.block n aA U)⟩
theorem Ap.mono {R B B':Nat}{w w':Ny}(h:Ap R B w w')(aZ:B'<=B):Ap R B' w w':=⟨h.os,h.tape,h.output,h.size,fun k E=>h.block k (Nat.lt_of_lt_of_le E aZ)⟩
theorem Ap.next {R:Nat}{a b c:Ny}(h:Ap R a.heap.size a b)(k:Ap R b.heap.size b c):Ap R a.heap.size a c:=h.trans (k.mono h.size)
section
variable {R B:Nat} {a w:Ny} (h:Ap R B a w)
include R B a w h
theorem Ap.drew:Ap R B a w.drew:=⟨h.os,h.tape,h.output,h.size,h.block⟩
theorem Ap.alloc (aZ:B<=w.heap.size)(o:Obj):Ap R B a (w.alloc o):=
 h.trans (Ap.of ((Below.refl B w).alloc aZ o))
theorem Ap.setCell {p:Addr}(al:B<=p.block\/p.block=R)(u:NP):Ap R B a (w.setCell p u):=
 ⟨h.os,h.tape,h.output,by simpa using h.size,fun k E U=>by rw[Below.heap_setCell w p u k Nw];exact h.block k E U⟩
end
theorem Ap.grown {R B:Nat}{a w w':Ny}{row:Option Nat}(h:Ap R B a w)(hg:w.grownBy w' row)(aZ:B<=w.heap.size)(U:∀ k,row=some k->B<=k):Ap R B a w':=
 h.trans (Ap.of ((Below.refl B w).grown hg aZ U))
section
variable {R B:Nat} {w w':Ny} (h:Ap R B w w') {p:Addr} (al:p.block<B) (U:p.block≠R)
include R B w w' h p al U
theorem Ap.cell:w'.cell? p=w.cell? p:=World.cell?_of_block (w:=w) (h.block p.block al U)
theorem Ap.frozen:w'.frozen? p=w.frozen? p:=World.frozen?_of_block (w:=w) (h.block p.block al U)
end
theorem Ap.below {R B:Nat}{w w':Ny}(h:Ap R B w w')(aZ:B<=R):Below B w w':=⟨h.os,h.tape,h.output,h.size,fun k E=>h.block k E Nw⟩
theorem lt_of_heap {w:Ny}{b:Nat}{o:Obj}(h:w.heap[b]? = some o):b<w.heap.size:=(Array.getElem?_eq_some_iff.1 h).1
abbrev OA (kd:Int)(tx:NR)(n:Int)(v:NP):Obj:=Og #[Nr kd,ND tx,Nr n,v] 40
abbrev Nu (p:Nat):NP:=NM p 0
def alg (I:Nat->Prop)(w:Ny)(v:NP)(ps:List Nat):Prop:=w.ownsRow 0 22 1 v ps.length (ps.map Nu)/\∀ g,v.ownBlock=some g->I g
mutual
def O7 (I:Nat->Prop)(w:Ny):Tr->Nat->Prop
 | .mk kd tx n ks,p=>I p/\∃ v ps,w.heap[p]? = some (OA kd tx n v)/\alg I w v ps/\NT (fun b=>I b/\b≠p) w ks ps
def NT (I:Nat->Prop)(w:Ny):List Tr->List Nat->Prop
 | [],ps=>ps=[]
 | t::am,ps=>∃ p eu M,ps=p::eu/\O7 (fun b=>I b/\b<M) w t p/\NT (fun b=>I b/\M<=b) w am eu
end
def TM (I:Nat->Prop)(w w':Ny):Prop:=∀ b,I b->b<w.heap.size->w'.heap[b]? = w.heap[b]?
theorem Qs {I:Nat->Prop}{w w':Ny}{B e sz:Nat}{v:NP}{n:Nat}{xs:List NP}(aw:TM I w w')(oB:∀ g,v.ownBlock=some g->I g)(h:w.ownsRow B e sz v n xs):w'.ownsRow B e sz v n xs:=by
 refine⟨h.1,?_⟩
 rcases h.2 with aA|⟨g,cap,cl,ap,D,hg,rest⟩
 ·exact Or.inl aA
 ·exact Or.inr ⟨g,cap,cl,ap,D,by rw[aw g (oB g (by rw[ap];rfl)) (lt_of_heap hg)];exact hg,rest⟩
mutual
theorem O7.later {I:Nat->Prop}{w w':Ny}(aw:TM I w w'):∀ (t:Tr) (p:Nat),O7 I w t p->O7 I w' t p
 | .mk kd tx n ks,p,h=>by
  rw[O7] at h ⊢;obtain⟨al,v,ps,D,U,E⟩:=h;exact⟨al,v,ps,by rw[aw p al (lt_of_heap D)];exact D,⟨Qs aw U.2 U.1,U.2⟩,NT.later (fun b D hl=>aw b D.1 hl) ks ps E⟩
theorem NT.later {I:Nat->Prop}{w w':Ny}(aw:TM I w w'):∀ (am:List Tr) (ps:List Nat),NT I w am ps->NT I w' am ps
 | [],ps,h=>by rw[NT] at h ⊢;exact h
 | t::am,ps,h=>by
  rw[NT] at h ⊢;obtain⟨p,eu,M,rfl,h1,O⟩:=h;exact⟨p,eu,M,rfl,O7.later (fun b D hl=>aw b D.1 hl) t p h1,NT.later (fun b D hl=>aw b D.1 hl) am eu O⟩
end
theorem O9 {w:Ny}{B e sz:Nat}{v:NP}{n:Nat}{xs:List NP}(h:w.ownsRow B e sz v n xs)(g:Nat)(hg:v.ownBlock=some g):g<w.heap.size/\B<=g:=by
 rcases h.2 with aA|⟨gX,cap,cl,ap,D,hh,rest⟩
 ·rw[aA.1] at hg;cases hg
 ·rw[ap] at hg;cases hg;exact⟨lt_of_heap hh,D⟩
mutual
theorem O7.mono {I J:Nat->Prop}{w:Ny}(kO:∀ b,I b->b<w.heap.size->J b):∀ (t:Tr) (p:Nat),O7 I w t p->O7 J w t p
 | .mk kd tx n ks,p,h=>by
  rw[O7] at h ⊢;obtain⟨al,v,ps,D,U,E⟩:=h;exact⟨kO p al (lt_of_heap D),v,ps,D,⟨U.1,fun g hg=>kO g (U.2 g hg) (O9 U.1 g hg).1⟩,NT.mono (fun b D hl=>⟨kO b D.1 hl,D.2⟩) ks ps E⟩
theorem NT.mono {I J:Nat->Prop}{w:Ny}(kO:∀ b,I b->b<w.heap.size->J b):∀ (am:List Tr) (ps:List Nat),NT I w am ps->NT J w am ps
 | [],ps,h=>by rw[NT] at h ⊢;exact h
 | t::am,ps,h=>by
  rw[NT] at h ⊢;obtain⟨p,eu,M,rfl,h1,O⟩:=h;exact⟨p,eu,M,rfl,O7.mono (fun b D hl=>⟨kO b D.1 hl,D.2⟩) t p h1,NT.mono (fun b D hl=>⟨kO b D.1 hl,D.2⟩) am eu O⟩
end
theorem NT.parts {I:Nat->Prop}{w:Ny}{t:Tr}{am:List Tr}{ps:List Nat}(h:NT I w (t::am) ps):∃ p eu,ps=p::eu/\O7 I w t p/\NT I w am eu:=by
 rw[NT] at h;obtain⟨p,eu,M,e,h1,O⟩:=h;exact⟨p,eu,e,O7.mono (fun b D _=>D.1) _ _ h1,NT.mono (fun b D _=>D.1) _ _ O⟩
theorem NT.length {I:Nat->Prop}{w:Ny}:∀ (am:List Tr) (ps:List Nat),NT I w am ps->ps.length=am.length
 | [],ps,h=>by rw[NT] at h;rw[h];rfl
 | t::am,ps,h=>by
  obtain⟨p,eu,rfl,h1,O⟩:=h.parts;simp[NT.length am eu O]
section
variable {I:Nat->Prop} {w:Ny}
include I w
theorem NT.nil:NT I w [] []:=by rw[NT]
theorem NT.pair {M:Nat}{t u:Tr}{p q:Nat}(h:O7 (fun b=>I b/\b<M) w t p)(O:O7 (fun b=>I b/\M<=b) w u q):NT I w [t,u] [p,q]:=by
 rw[NT];refine⟨p,[q],M,rfl,h,?_⟩;rw[NT];exact⟨q,[],w.heap.size,rfl,O7.mono (fun _ D hl=>⟨D,hl⟩) _ _ O,NT.nil⟩
theorem NT.cons {t:Tr}{p:Nat}(h:O7 I w t p)(_:NT I w [] []):NT I w [t] [p]:=by
 rw[NT];exact⟨p,[],w.heap.size,rfl,O7.mono (fun _ D hl=>⟨D,hl⟩) _ _ h,NT.nil⟩
end
theorem NT.append {M:Nat}{w:Ny}{gj:List Tr}{dR:List Nat}:∀ (am:List Tr) (ps:List Nat) {I:Nat->Prop},NT (fun b=>I b/\M<=b) w gj dR->NT (fun b=>I b/\b<M) w am ps->NT I w (am++gj) (ps++dR)
 | [],ps,I,aO,h=>by rw[NT] at h;subst h;exact NT.mono (fun b D _=>D.1) _ _ aO
 | t'::am,ps,I,aO,h=>by
  rw[NT] at h;obtain⟨cE,eu,N,rfl,h1,O⟩:=h
  show NT I w (t'::(am++gj)) (cE::(eu++dR))
  rw[NT];refine⟨cE,eu++dR,min N M,rfl,O7.mono (fun b D _=>⟨D.1.1,by have h1:=D.1.2;have O:=D.2;omega⟩) _ _ h1,NT.append am eu (NT.mono (fun b D _=>⟨⟨D.1,by have h1:=D.2;omega⟩,D.2⟩) _ _ aO) (NT.mono (fun b D _=>⟨⟨D.1.1,by have h1:=D.2;omega⟩,D.1.2⟩) _ _ O)⟩
def TN (I:Nat->Prop)(w:Ny):List Tr->List Nat->Prop
 | [],ps=>ps=[]
 | t::am,ps=>∃ p eu,ps=p::eu/\O7 I w t p/\TN I w am eu
theorem NT.nl {I:Nat->Prop}{w:Ny}:∀ (am:List Tr) (ps:List Nat),NT I w am ps->TN I w am ps
 | [],ps,h=>by rw[NT] at h;exact h
 | t::am,ps,h=>by
  obtain⟨p,eu,rfl,h1,O⟩:=h.parts;exact⟨p,eu,rfl,h1,NT.nl am eu O⟩
theorem TN.later {I:Nat->Prop}{w w':Ny}(aw:TM I w w'):∀ (am:List Tr) (ps:List Nat),TN I w am ps->TN I w' am ps
 | [],_,h=>h
 | _::am,_,⟨p,eu,e,h1,O⟩=>⟨p,eu,e,O7.later aw _ p h1,TN.later aw am eu O⟩
theorem TN.length {I:Nat->Prop}{w:Ny}:∀ (am:List Tr) (ps:List Nat),TN I w am ps->ps.length=am.length
 | [],_,h=>by rw[show _=_ from h];rfl
 | t::am,ps,h=>by
  obtain⟨p,eu,rfl,h1,O⟩:=h;simp[TN.length am eu O]
theorem TN.nil {I:Nat->Prop}{w:Ny}:TN I w [] []:=rfl
theorem TN.cons {I:Nat->Prop}{w:Ny}{t:Tr}{p:Nat}{am:List Tr}{ps:List Nat}(h:O7 I w t p)(O:TN I w am ps):TN I w (t::am) (p::ps):=⟨p,ps,rfl,h,O⟩
theorem TN.append {I:Nat->Prop}{w:Ny}{gj:List Tr}{dR:List Nat}(aO:TN I w gj dR):∀ (am:List Tr) (ps:List Nat),TN I w am ps->TN I w (am++gj) (ps++dR)
 | [],ps,h=>by rw[show ps=[] from h];exact aO
 | t'::am,ps,h=>by
  obtain⟨cE,eu,rfl,h1,O⟩:=h;exact TN.cons h1 (TN.append aO am eu O)
def NV (B:Nat)(w:Ny)(t:Tr)(v:NP):Prop:=∃ p,v=Nu p/\O7 (fun b=>B<=b) w t p
def EV (B:Nat)(w:Ny)(t:Tr)(v:NP):Prop:=
 ∃ p u ps,v=Nu p/\B<=p/\w.heap[p]? = some (OA t.kd t.tx t.n u)/\w.ownsRow B 22 1 u ps.length (ps.map Nu)/\u.ownBlock≠some p/\NT (fun b=>B<=b/\b≠p/\u.ownBlock≠some b) w t.kids ps
def KV (B:Nat)(w:Ny)(am:List Tr)(v:NP):Prop:=
 ∃ ps,w.ownsRow B 22 1 v ps.length (ps.map Nu)/\NT (fun b=>B<=b/\v.ownBlock≠some b) w am ps
theorem ajy {w:Ny}{B e sz:Nat}{v:NP}{n:Nat}{xs:List NP}(h:w.ownsRow B e sz v n xs):w.ownsRow 0 e sz v n xs:=by
 refine⟨h.1,?_⟩
 rcases h.2 with aA|⟨g,cap,cl,ap,D,rest⟩
 ·exact Or.inl aA
 ·exact Or.inr ⟨g,cap,cl,ap,Nat.zero_le _,rest⟩
theorem EV.nv {B:Nat}{w:Ny}{t:Tr}{v:NP}(h:EV B w t v):NV B w t v:=by
 obtain⟨p,u,ps,rfl,al,D,U,_,E⟩:=h
 cases t with
 | mk kd tx n ks=>
  refine⟨p,rfl,?_⟩;rw[O7];exact⟨al,u,ps,D,⟨ajy U,fun g hg=>(O9 U g hg).2⟩,NT.mono (fun b D _=>⟨D.1,D.2.1⟩) _ _ E⟩
theorem TM.Ws {R B:Nat}{I:Nat->Prop}{w w':Ny}(h:Ap R w.heap.size w w')(aZ:R<B)(oB:∀ b,I b->B<=b):TM I w w':=fun b D hl=>h.block b hl (by have:=oB b D;omega)
theorem NV.later {R B:Nat}{w w':Ny}{t:Tr}{v:NP}(h:NV B w t v)(aw:Ap R w.heap.size w w')(aZ:R<B):NV B w' t v:=by
 obtain⟨p,rfl,al⟩:=h;exact⟨p,rfl,O7.later (TM.Ws aw aZ fun _ h=>h) _ _ al⟩
theorem NV.mono {B B':Nat}{w:Ny}{t:Tr}{v:NP}(h:NV B w t v)(aZ:B'<=B):NV B' w t v:=by
 obtain⟨p,rfl,al⟩:=h;exact⟨p,rfl,O7.mono (fun b h _=>Nat.le_trans aZ h) _ _ al⟩
theorem EV.later {R B:Nat}{w w':Ny}{t:Tr}{v:NP}(h:EV B w t v)(aw:Ap R w.heap.size w w')(aZ:R<B):EV B w' t v:=by
 obtain⟨p,u,ps,rfl,al,D,U,aO,E⟩:=h;exact⟨p,u,ps,rfl,al,by rw[aw.block p (lt_of_heap D) Nw];exact D,Qs (I:=fun b=>B<=b) (TM.Ws aw aZ fun _ h=>h) (fun g hg=>(O9 U g hg).2) U,aO,NT.later (TM.Ws aw aZ fun _ h=>h.1) _ _ E⟩
theorem EV.mono {B B':Nat}{w:Ny}{t:Tr}{v:NP}(h:EV B w t v)(aZ:B'<=B):EV B' w t v:=by
 obtain⟨p,u,ps,rfl,al,D,U,aO,E⟩:=h;refine⟨p,u,ps,rfl,by omega,D,?_,aO,NT.mono (fun b h _=>⟨by omega,h.2⟩) _ _ E⟩;refine⟨U.1,?_⟩;exact awU
theorem KV.later {R B:Nat}{w w':Ny}{am:List Tr}{v:NP}(h:KV B w am v)(aw:Ap R w.heap.size w w')(aZ:R<B):KV B w' am v:=by
 obtain⟨ps,U,E⟩:=h;exact⟨ps,Qs (I:=fun b=>B<=b) (TM.Ws aw aZ fun _ h=>h) (fun g hg=>(O9 U g hg).2) U,NT.later (TM.Ws aw aZ fun _ h=>h.1) _ _ E⟩
theorem KV.nil (B:Nat)(w:Ny):KV B w [] PG:=⟨[],⟨rfl,Or.inl ⟨rfl,rfl⟩⟩,NT.nil⟩
theorem NG (w:Ny)(o:Obj):(w.alloc o).heap[w.heap.size]? = some o:=by simpa using heap_alloc_new w o
theorem EV.new {B:Nat}{w:Ny}{am:List Tr}{v:NP}(h:KV B w am v)(aZ:B<=w.heap.size)(kd:Int)(tx:NR)(n:Int) :
  EV B (w.alloc (OA kd tx n v)) (.mk kd tx n am) (Nu w.heap.size):=by
 obtain⟨ps,U,E⟩:=h;have ae:∀ I,TM I w (w.alloc (OA kd tx n v)):=fun I b _ hl=>Below.heap_alloc w _ b hl;refine⟨w.heap.size,v,ps,rfl,aZ,NG _ _,Qs (I:=fun _=>True) (ae _) (fun _ _=>trivial) U,fun h=>?_,NT.later (ae _) _ _ (NT.mono (fun b h hl=>⟨h.1,by omega,h.2⟩) _ _ E)⟩;exact absurd (O9 U _ h).1 Nw
theorem KV.row {B:Nat}{w:Ny}{am:List Tr}{ps:List Nat}(h:NT (fun b=>B<=b) w am ps)(aZ:B<=w.heap.size)(hl:ps.length<=maxLen)(cs:Array NP)(ai:cs.toList=ps.map Nu) :
  KV B (w.alloc (.cells cs 22)) am (.slice (some (Nv w.heap.size 0)) ps.length ps.length):=by
 have ae:∀ I,TM I w (w.alloc (.cells cs 22)):=fun I b _ hl=>Below.heap_alloc w _ b hl;have aJ:cs.size=ps.length:=by rw[<-Array.length_toList,ai,List.length_map]
 refine⟨ps,⟨by simp,Or.inr ⟨w.heap.size,ps.length,cs,rfl,aZ,NG _ _,OH,hl,by omega,?_⟩⟩,NT.later (ae _) _ _ (NT.mono (fun b h hl=>⟨h,fun e=>by simp only[Value.ownBlock,Option.some.injEq] at e;omega⟩) _ _ h)⟩
 rw[ai];exact List.take_of_length_le Oq
structure Ctx where
 R:Nat
 l:List Tk
 tb:Nat
 cap:Nat
 mS:Nat
 mT:Nat
 mV:Nat
 lo:Nat
def sgV (s:Sg):NP:=.agg #[ND s.tx,Nr s.kd,Nr s.parts,Nr s.str]
def mkE (e:(NR × NP) × Nat):MapEntry:={ key:=ND e.1.1,val:=e.1.2,born:=e.2 }
def mapOf (l:List (NR × NP)):Array MapEntry:=((l.zipIdx).map mkE).toArray
def aiq:Array MapEntry:=mapOf (sgs.map fun e=>(e.tx,sgV e))
def TP (R:Nat)(f:Nat):NP:=.func (.func f) #[NM R 0] #[]
def as4:Nat->Nat
 | 0=>147
 | 1=>148
 | 2=>149
 | 3=>150
 | 4=>151
 | 5=>152
 | 6=>153
 | _=>154
def aeE:Nat->Nat
 | 0=>155
 | 1=>156
 | _=>157
def aeF (R:Nat):Array MapEntry:=mapOf (SH.map fun e=>(e.1,TP R (as4 e.2)))
def air (R:Nat):Array MapEntry:=mapOf (Rf.map fun e=>(e.1,TP R (aeE e.2)))
def UD:Array NP:=(hds.flatMap fun e=>[ND e.1,Nr e.2]).toArray
def Ctx.tv (c:Ctx):NP:=.slice (some (Nv c.tb 0)) c.l.length c.cap
structure Base (c:Ctx)(w:Ny):Prop where
 ends:Ends c.l
 tokens:∃ cl,w.heap[c.tb]? = some (Og cl 144)/\c.l.length<=c.cap/\c.cap<=maxLen/\cl.size=c.cap * 4/\cl.toList.take (c.l.length * 4)=Qh c.l
 ntb:c.tb≠c.R
 signs:w.heap[c.mS]? = some (.map aiq 14)
 nS:c.mS≠c.R
 awV:w.heap[c.mT]? = some (.map (aeF c.R) 12)
 nT:c.mT≠c.R
 vals:w.heap[c.mV]? = some (.map (air c.R) 3)
 nV:c.mV≠c.R
 len:c.l.length<=3001
 heads:∃ t fr,w.heap[4]? = some (.cells UD t fr)
 nH:4≠c.R
 old:c.tb<c.lo/\c.mS<c.lo/\c.mT<c.lo/\c.mV<c.lo/\4<c.lo/\c.R<c.lo
 size:c.lo<=w.heap.size
theorem Base.later {c:Ctx}{B:Nat}{w w':Ny}(h:Base c w)(aw:Ap c.R B w w')(aZ:c.lo<=B):Base c w':=by
 obtain⟨h0,⟨cl,h1,HG⟩,O,ax,aU,bN,cA,j1,hI,hq,⟨t,fr,kN⟩,nF,hH,tD⟩:=h;exact⟨h0,⟨cl,by rw[aw.block _ Nw O];exact h1,HG⟩,O,by rw[aw.block _ Nw aU];exact ax,aU,by rw[aw.block _ Nw cA];exact bN,cA,by rw[aw.block _ Nw hI];exact j1,hI,hq,⟨t,fr,by rw[aw.block _ Nw nF];exact kN⟩,nF,hH,Nat.le_trans tD aw.size⟩
def awW (c:Ctx)(i d:Nat):Obj:=Og #[c.tv,Nr (i:Int),Nr (d:Int),.map (some c.mS),.map (some c.mT),.map (some c.mV)] 233
structure OU (c:Ctx)(w:Ny)(i d:Nat):Prop where
 base:Base c w
 blk:w.heap[c.R]? = some (awW c i d)
 lt:i<c.l.length
 deep:d<=30
theorem OU.later {c:Ctx}{w w':Ny}{i d:Nat}(h:OU c w i d)(aw:NJ w w'):OU c w' i d:=
 ⟨h.base.later (Ap.of aw) h.base.size,by rw[aw.block _ (lt_of_heap h.blk)];exact h.blk,h.lt,h.deep⟩
theorem OU.ap {c:Ctx}{B:Nat}{w w':Ny}{i d:Nat}(h:OU c w i d)(aw:Below B w w')(aZ:c.lo<=B):OU c w' i d:=
 ⟨h.base.later (Ap.of aw) aZ,by rw[aw.block _ (by have:=h.base.old;omega)];exact h.blk,h.lt,h.deep⟩
theorem OU.YV {c:Ctx}{w:Ny}{i d:Nat}(h:OU c w i d):c.R<w.heap.size:=lt_of_heap h.blk
section
variable {w:Ny} {b:Nat} {cs:Array NP} {t:TypeId}
include w b cs t
theorem cell_of {fr:Nat × Nat}(h:w.heap[b]? = some (.cells cs t fr))(o:Nat):w.cell? (Nv b o)=cs[o]?:=by
 simp[World.cell?,h]
theorem QM (h:w.heap[b]? = some (Og cs t))(o:Nat):w.frozen? (Nv b o)=false:=by
 simp[World.frozen?,h]
end
section
variable {c:Ctx} {w:Ny} {i d:Nat} (h:OU c w i d)
include c w i d h
theorem OU.c0:w.cell? (Nv c.R 0)=some c.tv:=by rw[cell_of h.blk];rfl
theorem OU.c1:w.cell? (Nv c.R 1)=some (Nr (i:Int)):=by rw[cell_of h.blk];rfl
theorem OU.c2:w.cell? (Nv c.R 2)=some (Nr (d:Int)):=by rw[cell_of h.blk];rfl
theorem OU.c3:w.cell? (Nv c.R 3)=some (.map (some c.mS)):=by rw[cell_of h.blk];rfl
theorem OU.c4:w.cell? (Nv c.R 4)=some (.map (some c.mT)):=by rw[cell_of h.blk];rfl
theorem OU.c5:w.cell? (Nv c.R 5)=some (.map (some c.mV)):=by rw[cell_of h.blk];rfl
theorem OU.fz (o:Nat):w.frozen? (Nv c.R o)=false:=QM h.blk o
end
theorem heap_set {w:Ny}{b o:Nat}{cs:Array NP}{t:TypeId}{fr:Nat × Nat}(h:w.heap[b]? = some (.cells cs t fr))(v:NP) :
  (w.setCell (Nv b o) v).heap[b]? = some (.cells (cs.setIfInBounds o v) t fr):=by
 obtain⟨hl,au⟩:=Array.getElem?_eq_some_iff.1 h;have gg:b<(w.setCell (Nv b o) v).heap.size:=by simpa[World.setCell] using hl
 rw[Array.getElem?_eq_some_iff];refine⟨gg,?_⟩;simp only[World.setCell,Array.getElem_modify_self,au];rfl
section
variable {c:Ctx} {w:Ny} {i d:Nat} (h:OU c w i d)
include c w i d h
theorem OU.go (j:Nat)(aT:j<c.l.length):OU c (w.setCell (Nv c.R 1) (Nr (j:Int))) j d:=
 ⟨h.base.later (Ap.setCell (R:=c.R) (Ap.refl _ _ _) (p:=(Nv c.R 1)) (Or.inr rfl) _) h.base.size,by rw[heap_set h.blk];rfl,aT,h.deep⟩
theorem OU.aDI (e:Nat)(au:e<=30):OU c (w.setCell (Nv c.R 2) (Nr (e:Int))) i e:=
 ⟨h.base.later (Ap.setCell (R:=c.R) (Ap.refl _ _ _) (p:=(Nv c.R 2)) (Or.inr rfl) _) h.base.size,by rw[heap_set h.blk];rfl,h.lt,au⟩
end
def YW (er:Int)(p:Nat):List PanicEntry:=[{ v:=.iface 148 (.agg #[Nr er,Nr (p:Int)]),recovered:=false }]
def Pm {α:Type}(c:Ctx)(w:Ny)(d:Nat)(V:Ny->α->NP->Prop)(r:PR α)(e:Ending)(w':Ny):Prop:=
 match r with
 | .ok x j=>(∃ v,e=NU v/\V w' x v)/\OU c w' j d/\Ap c.R w.heap.size w w'
 | .bad er p=>e=.panicked (YW er p)/\Ap c.R w.heap.size w w'
 | .out=>True
theorem aci {a b:NR}(h:a≠b):(a.toList==b.toList)=false:=by
 rw[beq_eq_false_iff_ne,ByteArray.toList_eq,ByteArray.toList_eq];exact fun e=>h (Go.WideShapes.bytes_inj e)
theorem asG {a b:NR}(h:a=b):(a.toList==b.toList)=true:=by rw[h];exact beq_self_eq_true _
section
variable {a b:NR} {l:List UInt8} (hl:b.data.toList=l)
include a b l hl
theorem Uw (h:a≠b):(a.toList==l)=false:=by
 rw[<-hl,<-ByteArray.toList_eq];exact aci h
theorem UW (h:a=b):(a.toList==l)=true:=by
 rw[<-hl,<-ByteArray.toList_eq];exact asG h
end
def tkV (t:Tk):NP:=.agg #[Nr t.kd,ND t.tx,Nr t.n,Nr (t.pl:Int)]
abbrev Ov (c:Ctx):NP:=NM c.R 0
theorem ajb:∀ (l:List Tk) (i j:Nat),i<l.length->j<4->(Qh l)[i * 4+j]? =(Vp (Ox l i))[j]?
 | [],i,j,h,_=>absurd h Oq
 | t::l,0,j,_,aT=>by
  simp only[Qh,List.flatMap_cons,Ox,List.getD_cons_zero,Nat.zero_mul,Nat.zero_add];rw[List.getElem?_append_left (by simp[Vp];omega)]
 | t::l,i+1,j,h,aT=>by
  have bR:=ajb l i j (by simpa using h) aT;simp only[Qh,List.flatMap_cons,Ox,List.getD_cons_succ] at bR ⊢;rw[List.getElem?_append_right (by simp[Vp];omega)]
  rw[show (i+1) * 4+j - (Vp t).length=i * 4+j by simp[Vp];omega]
  exact bR
theorem Base.tok {c:Ctx}{w:Ny}(h:Base c w)(i j:Nat)(ay:i<c.l.length)(aT:j<4):w.cell? (Nv c.tb (i * 4+j))=(Vp (Ox c.l i))[j]?:=by
 obtain⟨cl,D,h1,O,ax,aU⟩:=h.tokens;rw[cell_of D,<-ajb c.l i j ay aT,<-aU,List.getElem?_take_of_lt Nw,Array.getElem?_toList]
theorem Base.tlt {c:Ctx}{w:Ny}(h:Base c w):c.tb<w.heap.size:=by
 obtain⟨cl,D,_⟩:=h.tokens;exact lt_of_heap D
theorem QF (c:Ctx)(w:Ny)(i d:Nat)(h:OU c w i d) :
  NK 158 #[Ov c] w fun e w'=>e=NU (tkV (Ox c.l i))/\NJ w w':=by
 have h0:w.cell? (Nv c.R 0)=some (.slice (some (Nv c.tb 0)) c.l.length c.cap):=h.c0;have h1:=h.c1;have cR:=h.YV;have dA:=h.base.tlt;have aQ:(i:Int)<(c.l.length:Int):=by have:=h.lt;omega
 have ce:w.cell? (Nv c.tb (i * 4))=some (Nr (Ox c.l i).kd):=h.base.tok i 0 h.lt NH;have bV:w.cell? (Nv c.tb (i * 4+1))=some (ND (Ox c.l i).tx):=h.base.tok i 1 h.lt NH;have dB:w.cell? (Nv c.tb (i * 4+2))=some (Nr (Ox c.l i).n):=h.base.tok i 2 h.lt NH;have ir:w.cell? (Nv c.tb (i * 4+3))=some (Nr ((Ox c.l i).pl:Int)):=h.base.tok i 3 h.lt NH;clear h;go_enter func158,ntmps158;go_wp2_with fail
 go_region
 go_wp2_with fail;exact bodyPost_ret (v:=tkV (Ox c.l i)) (by simp[results,results158,go_sem,tkV]) rfl ⟨rfl,OM.drew⟩
theorem ajc {a b:NR}(h:a=b):Ending.returned (ND a)=NU (ND b):=by rw[h]
theorem QV (c:Ctx)(w:Ny)(i d:Nat)(h:OU c w i d) :
  NK 221 #[Ov c] w fun e w'=>e=NU (ND (fx c.l i))/\NJ w w':=by
 have eO:=(QF c w i d h);clear h
 cases O:(Ox c.l i).kd==2
 ·
  cases bN:(Ox c.l i).kd==5
  all_goals
   go_enter func221,ntmps221;go_wp2_with fail;refine cm eO ?_;rintro e w1 ⟨rfl,D⟩;have bM:=D;unfold tkV;go_wp2_with fail;go_ret;exact⟨ajc (by simp[fx,O,bN]),bM.alloc bM.size _⟩
 ·go_enter func221,ntmps221;go_wp2_with fail;refine cm eO ?_;rintro e w1 ⟨rfl,D⟩;have bM:=D;unfold tkV;go_wp2_with fail;go_ret;exact⟨ajc (by simp[fx,O]),bM.alloc bM.size _⟩
section
variable {α:Type} {c:Ctx} {w w':Ny} {d:Nat} {V:Ny->α->NP->Prop} {r:PR α}
include α c w w' d V r
theorem Pn {er:Int}{p:Nat}(U:r=.bad er p)(aw:Ap c.R w.heap.size w w') :
  Pm c w d V r (.panicked (YW er p)) w':=by rw[U];exact⟨rfl,aw⟩
theorem RG {x:α}{j:Nat}{v:NP}(U:r=.ok x j)(ap:V w' x v)(hd:OU c w' j d)(aw:Ap c.R w.heap.size w w') :
  Pm c w d V r (NU v) w':=by rw[U];exact⟨⟨v,rfl,ap⟩,hd,aw⟩
end
theorem aby (c:Ctx)(er:Int)(t:Tk)(w:Ny) :
  NK 279 #[Ov c,Nr er,tkV t] w fun e w'=>e=.panicked (YW er t.pl)/\NJ w w':=by
 unfold tkV;go_enter func279,ntmps279;go_wp2_with fail;exact⟨rfl,rfl,OM⟩
theorem TY (c:Ctx)(er:Int)(w:Ny)(i d:Nat)(h:OU c w i d) :
  NK 222 #[Ov c,Nr er] w fun e w'=>e=.panicked (YW er (Ox c.l i).pl)/\NJ w w':=by
 have eO:=(QF c w i d h);go_enter func222,ntmps222;go_wp2_with fail;refine cm eO ?_;rintro e w1 ⟨rfl,D⟩;have hR:=(aby c er (Ox c.l i) w1);go_wp2_with fail;refine cm hR ?_;rintro e w2 ⟨rfl,aE⟩;exact⟨rfl,rfl,D.trans (aE.mono D.size)⟩
theorem OU.go2 {c:Ctx}{w:Ny}{i d:Nat}(h:OU c w i d)(j:Nat)(aT:j<c.l.length){v:Int}(ap:v=(j:Int)):OU c (w.setCell (Nv c.R 1) (Nr v)) j d:=by
 subst ap;exact h.go j aT
theorem YP {c:Ctx}{w w1:Ny}(D:NJ w w1)(v:NP)(o:Nat):Ap c.R w.heap.size w (w1.setCell (Nv c.R o) v):=
 Ap.setCell (R:=c.R) (Ap.of D) (p:=(Nv c.R o)) (Or.inr rfl) _
section
variable (c:Ctx) (s:NR) (w:Ny) (i d:Nat) (h:OU c w i d)
include c s w i d h
theorem QU (ae:fx c.l i=s)(aA:s≠NC) :
  NK 223 #[Ov c,ND s] w fun e w'=>e=NU (NI true)/\OU c w' (i+1) d/\Ap c.R w.heap.size w w':=by
 have eO:=(QV c w i d h);have ay:i+1<c.l.length:=Vk h.base.ends h.lt ae aA;have dz:=h.base.len;subst ae;clear aA;go_enter func223,ntmps223;go_wp2_with fail;refine cm eO ?_;rintro e w1 ⟨rfl,D⟩;have bJ:=(h.later D);have h1:=bJ.c1;have aJ:=bJ.fz;go_wp2_with fail;go_ret;exact⟨rfl,bJ.go2 (i+1) ay Nw,YP D _ _⟩
theorem RH (ae:fx c.l i≠s) :
  NK 223 #[Ov c,ND s] w fun e w'=>e=NU (NI false)/\NJ w w':=by
 have eO:=(QV c w i d h);have nc:=aci ae;clear ae;go_enter func223,ntmps223;go_wp2_with fail;refine cm eO ?_;rintro e w1 ⟨rfl,D⟩;go_wp2_with fail;go_ret;exact⟨rfl,D⟩
end
abbrev UV:Ny->Unit->NP->Prop:=fun _ _ v=>v=.tuple #[]
theorem Oz (c:Ctx)(s:NR)(w:Ny)(i d:Nat)(h:OU c w i d)(aA:s≠NC) :
  NK 225 #[Ov c,ND s] w (Pm c w d UV (OD c.l s i)):=by
 by_cases ae:fx c.l i=s
 ·have eO:=(QU c s w i d h ae aA);have aV:OD c.l s i=.ok () (i+1):=by unfold OD;rw[if_pos ae]
  rw[aV];clear aA ae aV;go_enter func225,ntmps225;go_wp2_with fail;refine cm eO ?_;rintro e w1 ⟨rfl,U,aw⟩;have dk:=U;go_wp2_with fail
  go_end0
  exact RG rfl rfl dk aw
 ·have eO:=(RH c s w i d h ae);have aV:OD c.l s i=.bad 3 (Ox c.l i).pl:=by unfold OD;rw[if_neg ae];rfl
  rw[aV];have dk:=h;clear aA ae aV;go_enter func225,ntmps225;go_wp2_with fail;refine cm eO ?_;rintro e w1 ⟨rfl,D⟩;have hR:=(TY c 3 w1 i d (dk.later D));go_wp2_with fail;refine cm hR ?_;rintro e w2 ⟨rfl,aE⟩;exact⟨rfl,Pn rfl (Ap.of (D.trans (aE.mono D.size)))⟩
theorem aai (t:Tk)(W:Ny):(Instr.field 144 (.agg #[Nr t.kd,ND t.tx,Nr t.n,Nr (t.pl:Int)]) 0).run prog W=.ok (Nr t.kd) W:=by kernel_rfl
theorem ajg (t:Tk)(W:Ny):(Instr.field 144 (.agg #[Nr t.kd,ND t.tx,Nr t.n,Nr (t.pl:Int)]) 1).run prog W=.ok (ND t.tx) W:=by kernel_rfl
theorem Yc (c:Ctx)(w:Ny)(i d:Nat)(h:OU c w i d) :
  NK 228 #[Ov c] w fun e w'=>e=NU (NI (isName c.l i))/\NJ w w':=by
 have eO:=(QF c w i d h);go_enter func228,ntmps228;go_wp2_with fail;refine cm eO ?_;rintro e w1 ⟨rfl,D⟩;have fG:=aai (Ox c.l i);unfold tkV;go_wp2_with fail;go_ret;exact⟨rfl,D⟩
abbrev SV:Ny->NR->NP->Prop:=fun _ s v=>v=ND s
theorem name_any (c:Ctx)(w:Ny)(i d:Nat)(h:OU c w i d) :
  NK 220 #[Ov c] w (Pm c w d SV (nameP c.l i)):=by
 have dE:=(Yc c w i d h)
 by_cases ae:(Ox c.l i).kd=1
 ·have aV:nameP c.l i=.ok (Ox c.l i).tx (i+1):=by unfold nameP;rw[if_pos ae]
  have ay:i+1<c.l.length:=Ud h.base.ends h.lt (by rw[ae];decide)
  have dz:=h.base.len;have E:isName c.l i=true:=by unfold isName;rw[ae];rfl
  rw[aV];rw[E] at dE;have dk:=h;clear h ae aV E;go_enter func220,ntmps220;go_wp2_with fail;refine cm dE ?_;rintro e w1 ⟨rfl,D⟩;have bM:=D;have bJ:=(dk.later D);have eO:=(QF c w1 i d bJ);go_wp2_with fail;refine cm eO ?_;rintro e w2 ⟨rfl,D⟩;have cf:=(bM.trans (D.mono bM.size));have bj:=(bJ.later D);have h1:=bj.c1;have aJ:=bj.fz;have fG:=ajg (Ox c.l i);unfold tkV;go_wp2_with fail;go_ret;exact RG rfl rfl (bj.go2 (i+1) ay Nw) (YP cf _ _)
 ·have aV:nameP c.l i=.bad 3 (Ox c.l i).pl:=by unfold nameP;rw[if_neg ae];rfl
  have E:isName c.l i=false:=by unfold isName;exact beq_eq_false_iff_ne.2 ae
  rw[aV];rw[E] at dE;have dk:=h;clear h ae aV E;go_enter func220,ntmps220;go_wp2_with fail;refine cm dE ?_;rintro e w1 ⟨rfl,D⟩;have bM:=D;have hR:=(TY c 3 w1 i d (dk.later D));go_wp2_with fail;refine cm hR ?_;rintro e w2 ⟨rfl,aE⟩;exact⟨rfl,Pn rfl (Ap.of (bM.trans (aE.mono bM.size)))⟩
theorem OT (kd:Int)(tx:NR)(v:NP)(w:Ny)(ap:∃ a n cap,v=.slice a n cap) :
  NK 162 #[Nr kd,ND tx,v] w fun e w'=>e=NU (Nu w.heap.size)/\w'=w.alloc (OA kd tx 0 v):=by
 obtain⟨a,n,cap,rfl⟩:=ap;go_enter func162,ntmps162;go_wp2_with fail;go_ret;exact⟨rfl,rfl⟩
theorem akO (a b:NR):(a==b)=decide (a=b):=by
 by_cases h:a=b
 ·subst h;rw[decide_eq_true rfl]
  cases a with
  | mk a=>
   show (a==a)=true
   exact beq_self_eq_true _
 ·rw[decide_eq_false h]
  cases a with
  | mk a=>cases b with
   | mk b=>
    show (a==b)=false
    rw[beq_eq_false_iff_ne];exact fun e=>h (by rw[e])
theorem Zt (s:NR):∀ (l:List (NR × NP)) (n i:Nat),
  ∃ o,Instr.findNow .string (ND s) ((l.zipIdx n).map mkE) i=some o/\o.map (·.2)=(l.find? (fun e=>decide (s=e.1))).map (·.2)
 | [],n,i=>⟨none,rfl,rfl⟩
 | e::l,n,i=>by
  simp only[List.zipIdx_cons,List.map_cons,Instr.findNow,mkE,Instr.sameNow,akO,List.find?_cons]
  cases h:decide (s=e.1)
  ·simp only;exact Zt s l (n+1) (i+1)
  ·exact⟨some (i,e.2),rfl,rfl⟩
theorem Ya (T kB:TypeId)(m k:Nat)(l:List (NR × NP))(s:NR)(bE:NP)(W:Ny)(dA:prog.underlying T=some (.map 9 kB))(aV:W.heap[m]? = some (.map (mapOf l) k))(aJ:(zeroValue kB).run prog W=.ok bE W) :
  (Instr.lookup T (.map (some m)) (ND s) true).run prog W=.ok (.tuple #[((l.find? (fun e=>decide (s=e.1))).map (·.2)).getD bE,NI (l.find? (fun e=>decide (s=e.1))).isSome]) W:=by
 obtain⟨o,h1,O⟩:=Zt s l 0 0;have hq:=underlying9;have ax:(Instr.findKey 9 (ND s) (mapOf l).toList).run prog W=.ok o W:=by
  unfold Instr.findKey;rw[Sem.run_bind,run_underlying hq W];simp only[Result.andThen_ok,mapOf];rw[h1];rfl
 unfold Instr.lookup;rw[Sem.run_bind,run_underlying dA W];have eI:∀ b,(Instr.checkKey b 10000 9 (ND s)).run prog W=.ok () W:=by
  intro b;rw[Instr.checkKey,Sem.run_bind,run_underlying hq W];rfl
 have hg:(getObj m).run prog W=.ok (.map (mapOf l) k) W:=by simp[getObj,Sem.run,aV]
 simp only[Result.andThen_ok,Sem.run_bind,hg,Sem.run_pure,eI,ax]
 cases o with
 | none=>
  cases aG:l.find? (fun e=>decide (s=e.1)) with
  | none=>simp[aJ]
  | some x=>rw[aG] at O;simp at O
 | some y=>
  cases aG:l.find? (fun e=>decide (s=e.1)) with
  | none=>rw[aG] at O;simp at O
  | some x=>rw[aG] at O;simp at O;simp[O]
def anR:NP:=.agg #[OG,Nr 0,Nr 0,Nr 0]
def aqT (o:Option Sg):NP:=match o with|some s=>sgV s|none=>anR
theorem Wh (c:Ctx)(s:NR)(W:Ny)(h:W.heap[c.mS]? = some (.map aiq 14)) :
  (Instr.lookup 229 (.map (some c.mS)) (ND s) true).run prog W=.ok (.tuple #[aqT (Yp s),NI (Yp s).isSome]) W:=by
 rw[Ya 229 275 c.mS 14 _ s anR W underlying229 h OJ];unfold Yp;rw[List.find?_map];simp only[Function.comp_def]
 cases sgs.find? (fun e=>decide (s=e.tx)) <;> rfl
def aCU (R:Nat)(o:Option Nat):NP:=match o with|some q=>TP R (as4 q)|none=>.nilFunc
def aCV (R:Nat)(o:Option Nat):NP:=match o with|some q=>TP R (aeE q)|none=>.nilFunc
theorem acP (c:Ctx)(s:NR)(W:Ny)(h:W.heap[c.mT]? = some (.map (aeF c.R) 12)) :
  (Instr.lookup 231 (.map (some c.mT)) (ND s) true).run prog W=.ok (.tuple #[aCU c.R (PZ SH s),NI (PZ SH s).isSome]) W:=by
 rw[Ya 231 281 c.mT 12 _ s .nilFunc W underlying231 h OJ];unfold PZ;rw[List.find?_map];simp only[Function.comp_def]
 cases SH.find? (fun e=>decide (s=e.1)) <;> rfl
theorem acO (c:Ctx)(s:NR)(W:Ny)(h:W.heap[c.mV]? = some (.map (air c.R) 3)) :
  (Instr.lookup 231 (.map (some c.mV)) (ND s) true).run prog W=.ok (.tuple #[aCV c.R (PZ Rf s),NI (PZ Rf s).isSome]) W:=by
 rw[Ya 231 281 c.mV 3 _ s .nilFunc W underlying231 h OJ];unfold PZ;rw[List.find?_map];simp only[Function.comp_def]
 cases Rf.find? (fun e=>decide (s=e.1)) <;> rfl
theorem av7:UD.size=16:=by decide +kernel
theorem aDg (k:Nat)(E:k<8)(W:Ny):(Instr.index 285 (.agg UD) (Nr (k:Int))).run prog W=.ok (.agg #[ND (hds.getD k (NC,0)).1,Nr (hds.getD k (NC,0)).2]) W:=by
 have h:k=0\/k=1\/k=2\/k=3\/k=4\/k=5\/k=6\/k=7:=Nw
 rcases h with rfl|rfl|rfl|rfl|rfl|rfl|rfl|rfl <;> (show _=_;kernel_rfl)
theorem av8 {s:NR}{j:Nat}(aT:j<8)(h0:∀ q,q<j->s≠(hds.getD q (NC,0)).1)(h:s=(hds.getD j (NC,0)).1):PD s=(hds.getD j (NC,0)).2:=by
 have key:∀ (l:List (NR × Int)) (j:Nat),j<l.length->(∀ q,q<j->s≠(l.getD q (NC,0)).1)->s=(l.getD j (NC,0)).1->(PZ l s).getD 0=(l.getD j (NC,0)).2:=by
  intro l
  induction l with
  | nil=>intro j aT;exact absurd aT Oq
  | cons e l bR=>
   intro j aT h0 h;unfold PZ;rw[List.find?_cons]
   cases j with
   | zero=>
    simp only[List.getD_cons_zero] at h ⊢;rw[decide_eq_true h];rfl
   | succ j=>
    have:=h0 0 Nw;simp only[List.getD_cons_zero] at this;rw[decide_eq_false this];exact bR j (by simpa using aT) (fun q ag=>by simpa using h0 (q+1) Nw) (by simpa using h)
 exact key hds j (by simpa[hds] using aT) h0 h
theorem arA {s:NR}(h0:∀ q,q<8->s≠(hds.getD q (NC,0)).1):PD s=0:=by
 unfold PD PZ;have:hds.find? (fun e=>decide (s=e.1))=none:=by
  rw[List.find?_eq_none];intro e au;obtain⟨q,ag,rfl⟩:=List.getElem_of_mem au;have IV:q<8:=by simpa[hds] using ag
  have:=h0 q IV;rw[List.getD_eq_getElem?_getD,List.getElem?_eq_getElem ag] at this;simpa using this
 rw[this];rfl
theorem ad9 (s:NR)(w:Ny)(t:TypeId)(fr:Nat × Nat)(hg:w.heap[4]? = some (.cells UD t fr)) :
  NK 278 #[ND s] w fun e w'=>e=NU (Nr (PD s))/\NJ w w':=by
 have gU:=hide hg;obtain⟨cs,fF⟩:=xE UD;have oJ:∀ k:Nat,k<8->∀ W,(Instr.index 285 (.agg cs) (Nr (k:Int))).run prog W=.ok (.agg #[ND (hds.getD k (NC,0)).1,Nr (hds.getD k (NC,0)).2]) W:=by rw[fF];exact aDg
 have c9:cs.size=16:=by rw[fF];exact av7
 rw[<-fF] at gU;have rU:=hide oJ;have sa:=hide c9;clear hg oJ fF c9;go_enter func278,ntmps278
 go_wp2_with (refine wpList_load_row rfl 285 _ rfl 4 rfl t cs fr _ gU.out underlying285 rfl (by rw[sa.out];kernel_rfl) ?_)
 go_loopw [6] (fun i wr=>∃ j:Nat,j<=8/\i=Nr j/\(∀ q,q<j->s≠(hds.getD q (NC,0)).1)/\NJ w wr) (fun i _=>8 - (intOf i).toNat)
 case atStart=>exact⟨0,Nat.zero_le _,rfl,fun q ag=>absurd ag (Nat.not_lt_zero _),P8⟩
 case round=>
  obtain⟨j,aT,rfl,au,hbel⟩:=hrel;have dw:=hide au;clear au
  by_cases aQ:j<8
  ·have eI:=Ns rU j aQ;obtain⟨g,hg⟩:=xE ((hds.getD j (NC,0)).1);obtain⟨n,Cj⟩:=xH ((hds.getD j (NC,0)).2);rw[<-hg,<-Cj.out] at eI;have uF:=hide hg;clear hg
   by_cases al:g=s
   ·have D:=asG al;have HP:=hide al;clear al;go_wp2_with fail;go_ret;refine⟨aah ?_,hbel.alloc hbel.size _⟩;rw[av8 aQ dw.out (by rw[<-uF.out];exact HP.out.symm),Cj.out]
   ·have D:=aci al;have HP:=hide al;clear al;go_wp2_with fail
    go_roundw
    case rel=>exact⟨j+1,by omega,by go_num,fun q ag=>by (by_cases A1:q=j);(rw[A1,<-uF.out];exact fun e=>Ns HP e.symm);exact Ns dw q Nw,hbel.alloc hbel.size _⟩
    case measure=>simp[intOf];omega
  ·go_wp2_with fail;go_ret;exact⟨aah (arA (fun q ag=>Ns dw q Nw)).symm,hbel⟩
theorem Yw (c:Ctx)(w:Ny)(i d:Nat)(h:OU c w i d)(E:(Ox c.l i).kd≠6) :
  NK 219 #[Ov c] w fun e w'=>e=NU (Nr (PD (Ox c.l i).tx))/\OU c w' (i+1) d/\Ap c.R w.heap.size w w':=by
 have eO:=(QF c w i d h);have ay:i+1<c.l.length:=Ud h.base.ends h.lt E;have dz:=h.base.len;clear E;go_enter func219,ntmps219;go_wp2_with fail;refine cm eO ?_;rintro e w1 ⟨rfl,D⟩;have bM:=D;have bJ:=(h.later D);obtain⟨t,fr,aU⟩:=bJ.base.heads;have f2:=(ad9 (Ox c.l i).tx w1 t fr aU);have fG:=ajg (Ox c.l i);clear aU;unfold tkV;go_wp2_with fail;refine cm f2 ?_;rintro e w2 ⟨rfl,D⟩;have cf:=(bM.trans (D.mono bM.size));have bj:=(bJ.later D);have h1:=bj.c1;have aJ:=bj.fz;go_wp2_with fail;go_ret
 exact⟨rfl,bj.go2 (i+1) ay Nw,YP cf _ _⟩
def Does (c:Ctx)(f:Nat)(V:Nat->Ny->Tr->NP->Prop)(ng:Nat->Nat->PR Tr):Prop:=
 ∀ w d i r,ng d i=r->r≠.out->OU c w i d->NK f #[Ov c] w (Pm c w d (V w.heap.size) r)
theorem PU (R f:Nat)(W:Ny):(Instr.makeFunc (.func f) #[NM R 0] #[]).run prog W=.ok (TP R f) W:=rfl
theorem OU.asJ {c:Ctx}{w:Ny}{i d:Nat}(h:OU c w i d)(e:Nat)(au:e<=30){v:Int}(ap:v=(e:Int)):OU c (w.setCell (Nv c.R 2) (Nr v)) i e:=by
 subst ap;exact h.aDI e au
theorem Ye (c:Ctx)(f:Nat)(ng:Nat->Nat->PR Tr)(aG:Does c f NV ng)(js:UE f)
  (w:Ny) (d i:Nat) (r:PR Tr) (U:OL c.l ng d i=r) (aM:r≠.out) (h:OU c w i d):NK 159 #[Ov c,TP c.R f] w (Pm c w d (NV w.heap.size) r):=by
 have O:=h.c2;have aJ:=h.fz;have hd:=h.deep
 by_cases zL:d=30
 ·have hR:=(TY c 4 w i d h);subst zL;unfold OL at U;rw[if_pos rfl] at U;have ba:=hide U;clear U aM js hd;go_enter func159,ntmps159;go_wp2_with fail;refine cm hR ?_;rintro e w1 ⟨rfl,D⟩;exact⟨rfl,Pn ba.out.symm (Ap.of D)⟩
 ·unfold OL at U;rw[if_neg zL] at U;have Lf:((d:Int)==30)=false:=beq_eq_false_iff_ne.2 Nw;have ah:Hid _:=aG (w.setCell (Nv c.R 2) (Nr ((d:Int)+1))) (d+1) i r U aM (h.asJ (d+1) Nw Nw);have dr:=hide aM;have dN:=hide aJ;clear U aM;unfold TP;go_enter func159,ntmps159;go_wp2_with fail;refine cm ah.out ?_;intro e w1 al
  cases r with
  | out=>exact absurd rfl dr.out
  | bad er p=>
   obtain⟨rfl,aw⟩:=al;refine⟨rfl,Pn rfl ?_⟩;exact(YP (c:=c) (Below.refl _ w) _ 2).trans (by simpa using aw)
  | ok x j=>
   obtain⟨⟨v,rfl,ap⟩,a8,aw⟩:=al;have pT:=((YP (c:=c) (Below.refl _ w) (Nr ((d:Int)+1)) 2).trans (by simpa using aw));have d4:=a8.c2;have K7:=a8.fz;clear aJ O;go_wp2_with fail;go_ret;have ec:=fun v=>pT.trans (Ap.setCell (R:=c.R) (B:=w.heap.size) (Ap.refl _ _ _) (p:=(Nv c.R 2)) (Or.inr rfl) v);have aQ:=h.YV;refine RG rfl ?_ (a8.asJ d hd Nw) (ec _);exact NV.later (R:=c.R) (by simpa using ap) (Ap.setCell (R:=c.R) (Ap.refl _ _ _) (p:=(Nv c.R 2)) (Or.inr rfl) _) aQ
end Go.Proofs.YticfnaiehdpbmaaGreatDoor
