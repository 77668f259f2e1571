import Derived.Test.YtoimgcjbcbhclaaGreatDoorAz19
import Derived.Test.YtoimgcjbcbhclaaGreatDoorAz20
import Derived.Test.YtoimgcjbcbhclaaGreatDoorAz16
import Derived.Test.YtoimgcjbcbhclaaGreatDoorAz18
set_option maxRecDepth 100000
set_option maxHeartbeats 0
set_option linter.all false
namespace Go.Proofs.YtoimgcjbcbhclaaGreatDoor
open Go.RowKit Go.Proofs.Tryz
def al4 (a:Ad):(Nk a).map Ad.tr=declT a.tr:=by
 obtain⟨aW,a4,bO⟩:=a.NC;have an:∀ (f:Tr->Bool) (l:List Ad),(l.filter λk=>f k.tr).map Ad.tr=(l.map Ad.tr).filter f:=λf l=>by
  induction l with
  | nil=>rfl
  | cons x l aU=>rw[zalbg,zalbb,zalbg];split <;> simp_all
 have ab:∀ x:Ad,(OJ x).map Ad.tr=O0 x.tr:=λx=>by unfold OJ O0;rw[an,x.NC.2.2]
 have av:∀ x:Ad,(QW x).map Ad.tr=Tj x.tr:=λx=>by unfold QW Tj;rw[an,x.NC.2.2]
 unfold Nk declT;rw[aW]
 split
 ·exact ab a
 ·split
  ·rw[bO]
   match N:a.ks with
   | []=>rfl
   | [x]=>rfl
   | x::y::l=>
    simp only[zalbb,zaldm,zaled,zalam,zalba];rw[x.NC.2.2,aoq,av,ab]
  ·exact ays
def YB (a:Ad):(declT a.tr).length=(Nk a).length:=by rw[<-al4,zalag]
def Rl.sk {I:Nat->Prop}{B aI aw fm aZ cw:Nat}{aK:List Nat}{w w':LK}{v:LY}{ts:List Ad}(h:Rl I B w v ts)(ai:Fix I B aI aw fm aZ cw aK)(W:Sk fm cw w w'):Rl I B w' v ts:=by
 have ab:=ai.lts;exact⟨L8 (I:=λg=>B<=g) (λk N aC=>W.block k aC LM LM) (λg hg=>(Me h.1 g hg).2) h.1,OU.later (λk N aC=>W.block k aC (ai.own k N).2.1 (ai.own k N).2.2) _ h.2⟩
def TN (I:Nat->Prop)(B:Nat)(w:LK)(ah:List (Nat × Ad))(al:List (Int × LY)):Prop:=
 al.length=ah.length/\∀ j (E:j<ah.length) (O:j<al.length),(al[j]).1=((ah[j]).1:Int)/\∃ v,(al[j]).2=.agg #[LC (ah[j]).2.p,v]/\Rl I B w v (Nk (ah[j]).2)
def TN.sk {I:Nat->Prop}{B aI aw fm aZ cw:Nat}{aK:List Nat}{w w':LK}{ah:List (Nat × Ad)}{al:List (Int × LY)}(h:TN I B w ah al)(ai:Fix I B aI aw fm aZ cw aK)(W:Sk fm cw w w'):TN I B w' ah al:=by
 refine⟨h.1,λj E O=>?_⟩;obtain⟨a9,v,bD,b8⟩:=h.2 j E O;exact⟨a9,v,bD,b8.sk ai W⟩
section
variable {I:Nat->Prop} {B:Nat} {w:LK} {ah:List (Nat × Ad)} {al:List (Int × LY)} (h:TN I B w ah al) (i:Nat)
include I B w ah al h i
def TN.snoc (a:Ad)(v:LY)(a0:Rl I B w v (Nk a)):TN I B w (ah++[(i,a)]) (al++[((i:Int),.agg #[LC a.p,v])]):=aD6
def TN.new (ak:∀ e ∈ ah,e.1<i):al.find? (λe=>decide ((i:Int)=e.1))=none:=ayB
end
structure OWB (I:Nat->Prop)(B aI aw fm aZ cw:Nat)(aK:List Nat)(s:OSt)(w:LK):Prop where
 word:w.heap[aI]? = some (NK #[.map (some aw)] 44)
 nums:w.heap[aw]? = some (.map (N7 (Ro aK)) aK.length)
 cls:∀ p ∈ aK,Cl w p
 aiu:w.heap[aZ]? = some (NK #[.map (some fm)] 121)
 fmap:∃ al,w.heap[fm]? = some (.map (U6 al) al.length)/\TN I B w s.2.2 al
 ab2:w.heap[cw]? = some (NK #[Zb s.2.1] 22)
 sz:B<=w.heap.size
 lt:∀ e ∈ s.2.2,e.1<s.1
section
variable {I:Nat->Prop}
include I
def OWB.next {B aI aw fm aZ cw:Nat}{aK:List Nat}{i t4:Nat}{b eJ:Option Nat}{ah ij:List (Nat × Ad)}{w w':LK}(h:OWB I B aI aw fm aZ cw aK (i,b,ah) w)(ai:Fix I B aI aw fm aZ cw aK)(W:Sk fm cw w w')(m2:∃ al,w'.heap[fm]? = some (.map (U6 al) al.length)/\TN I B w' ij al)(dT:w'.heap[cw]? = some (NK #[Zb eJ] 22))(aC:∀ e ∈ ij,e.1<t4):OWB I B aI aw fm aZ cw aK (t4,eJ,ij) w':=aEb
def aec {B aI aw fm aZ cw:Nat}{aK aL post:List Nat}{i:Nat}{b:Option Nat}{ah:List (Nat × Ad)}{a:Ad}{w:LK}(ai:Fix I B aI aw fm aZ cw aK)(eS:OWB I B aI aw fm aZ cw aK (i,b,ah) w)(aH:MZ I w a)(bv:aK=aL++(a.p::post))(ak:aL.length=i)(o7:a.tr.ill=0)(am:a.cnt<=20000)(fJ:∀ q,OE b a=some q->q ∈ aK) :
  MC 129 #[LC a.p,Mc cw 0,Mc aZ 0,Mc aI 0] w λe w'=>e=MN (L9 true)/\OWB I B aI aw fm aZ cw aK (osF (i,b,ah) a).1 w'/\Sk fm cw w w':=by
 have A{G}(h:G:=by
 have tu:OWB I B aI aw fm aZ cw aK (i,OE b a,ah) w1:=ayP
 have mw:MZ I w1 a:=MZ.later (λk N ab=>qM.block k ab (ai.own k N).2.1 (ai.own k N).2.2) _ aH;have f2:=hide (ah5 mw (Xb o7) am)
 -- behind 'aiA
 have key:∀ (w2:LK) (v:LY),Rl I w1.heap.size w2 v (Nk a)->LX w1 w2->OWB I B aI aw fm aZ cw aK (i,OE b a,ah) w2/\Rl I B w2 v (Nk a)/\Sk fm cw w w2:=ayt
 have A{G}(h:G:=by
 cases iq:MF a.tr with
 | false=>
  rw[iq] at c9 jv;simp only[zalct,zalfg] at c9;subst c9;(try clear iq);exact aDD
 | true=>
  have A{G}(h:G:=by
  (try clear r6 o3 c9);exact aDD):=LG h;exact aAx):=LG h;exact aAy):=LG h;exact aAD
def afh (t:Ad)(w:LK)(aH:MZ I w t)(aD:t.N9.Nodup)(ak:t.tr.ill=0)(am:t.cnt<=20000) :
  MC 75 #[LC t.p] w λe w'=>(∃ fm al,e=MN (.map (some fm))/\w'.heap[fm]? = some (.map (U6 al) al.length)/\TN (λb=>b<w.heap.size) w.heap.size w' (Q5 t) al)/\LX w w':=by
 have b3:=hide (X6 t w aH aD LM);have key:∀ (w1:LK) (aw:Nat),w.heap.size<=aw->LX w w1->w1.heap[aw]? = some (.map (N7 (Ro t.N9)) t.N9.length) ->
   MC 31 #[LC t.p,.func (.func 129) #[] #[Mc (w1.heap.size+3) 0,Mc (w1.heap.size+2) 0,Mc w1.heap.size 0]] ((((w1.alloc (.cells #[.map (some aw)] 44)).alloc (.map #[] 0)).alloc (.cells #[.map (some (w1.heap.size+1))] 121)).alloc (.cells #[Pe] 22))
    λe w'=>e=MN (.tuple #[])/\w'.heap[w1.heap.size+2]? = some (NK #[.map (some (w1.heap.size+1))] 121)/\(∃ al,w'.heap[w1.heap.size+1]? = some (.map (U6 al) al.length)/\TN (λb=>b<w.heap.size) w.heap.size w' (Q5 t) al)/\LX w w':=by
  intro w1 aw lJ bz iR;obtain⟨w2,bW⟩:∃ w2,w2=(((w1.alloc (.cells #[.map (some aw)] 44)).alloc (.map #[] 0)).alloc (.cells #[.map (some (w1.heap.size+1))] 121)).alloc (.cells #[Pe] 22):=⟨_,rfl⟩;rw[<-bW];have a5:LX w1 w2:=by
   rw[bW];exact((Qn.alloc MP _).alloc (by simp <;> omega) _).alloc (by simp <;> omega) _
  have dV:w2.heap.size=w1.heap.size+4:=by rw[bW];simp
  have iw:=lt_of_heap iR;have aJ:w2.heap[w1.heap.size]? = some (NK #[.map (some aw)] 44):=by
   rw[bW,zalaa _ _ _ (by simp <;> omega),zalaa _ _ _ (by simp <;> omega),zalaa _ _ _ MP];exact LP _ _
  have E:w2.heap[w1.heap.size+1]? = some (.map #[] 0):=by
   rw[bW,zalaa _ _ _ (by simp <;> omega),zalaa _ _ _ MP];have:=LP (w1.alloc (.cells #[.map (some aw)] 44)) (.map #[] 0);simpa using this
  have O:w2.heap[w1.heap.size+2]? = some (NK #[.map (some (w1.heap.size+1))] 121):=by
   rw[bW,zalaa _ _ _ MP];have:=LP ((w1.alloc (.cells #[.map (some aw)] 44)).alloc (.map #[] 0)) (.cells #[.map (some (w1.heap.size+1))] 121);simpa using this
  have ao:w2.heap[w1.heap.size+3]? = some (NK #[Pe] 22):=by
   rw[bW];have:=LP (((w1.alloc (.cells #[.map (some aw)] 44)).alloc (.map #[] 0)).alloc (.cells #[.map (some (w1.heap.size+1))] 121)) (.cells #[Pe] 22);simpa using this
  have kX:LX w w2:=bz.trans (a5.mono bz.size);have gZ:MZ (λb=>b<w.heap.size) w2 t:=MZ.later (λb D _=>kX.block b D) _ (MZ.mono (λb _ ab=>ab) _ aH);have hall:=abd gZ;have ai:Fix (λb=>b<w.heap.size) (w1.heap.size+4) w1.heap.size aw (w1.heap.size+1) (w1.heap.size+2) (w1.heap.size+3) t.N9:=
   ⟨by omega,by omega,λb D=>by have:=bz.size;have h:b<w.heap.size:=D;omega,λp ae=>(hall p ae).1,aD⟩
  have eS:OWB (λb=>b<w.heap.size) (w1.heap.size+4) w1.heap.size aw (w1.heap.size+1) (w1.heap.size+2) (w1.heap.size+3) t.N9 (0,none,[]) w2:=
   ⟨aJ,by rw[a5.block aw iw];exact iR,λp ae=>(hall p ae).2,O,⟨[],E,rfl,λj aT=>by cases aT⟩,ao,by omega,λe he=>by cases he⟩
  have ag:=aop 129 (Mc (w1.heap.size+3) 0) (Mc (w1.heap.size+2) 0) (Mc w1.heap.size 0) (λb=>b<w.heap.size) (Sk (w1.heap.size+1) (w1.heap.size+3))
   (OWB (λb=>b<w.heap.size) (w1.heap.size+4) w1.heap.size aw (w1.heap.size+1) (w1.heap.size+2) (w1.heap.size+3) t.N9) osF (OP t.N9) aoo (λL=>by kernel_rfl)
   (λ_ _ _ h k=>h.trans k) (λw' nh h=>⟨λb D ab=>h.block b ab (by have:=(ai.own b D);omega) (by have:=(ai.own b D);omega),h.size⟩)
   (λs a ts h=>h.step)
   (λs a ts w' h cz bv=>by
    have eO:=h.body;obtain⟨⟨aL,ae,ab⟩,af,_⟩:=h;obtain⟨i,b,ah⟩:=s;rw[Ad.Nv,P9 a] at ae;exact aec (post:=Ad.Nv a.ks++Ad.Nv ts) ai cz bv (by rw[ae];simp) ab (af a MP).1 (af a MP).2 eO)
   t.cnt t Nh LM [] (0,none,[]) w2 ⟨⟨[],by rw[Ad.Nv,Ad.Nv];simp,rfl⟩,λx af=>by rw[zalaf.1 af];exact⟨ak,am⟩,λq ac=>by cases ac⟩ eS gZ
  refine ag.mono ?_;rintro e aq ⟨rfl,ql,_,g5⟩;obtain⟨al,aW,a4⟩:=ql.fmap;refine⟨rfl,ql.aiu,⟨al,aW,a4.1,λj E O=>?_⟩,⟨g5.os.trans kX.os,g5.tape.trans kX.tape,g5.output.trans kX.output,zalan kX.size g5.size,λk N=>?_⟩⟩
  ·obtain⟨a9,v,bD,b8⟩:=a4.2 j E O;exact⟨a9,v,bD,b8.low (by have:=bz.size;omega)⟩
  ·have aM:=bz.size;exact(g5.block k LM LM LM).trans (kX.block k N)
 exact aD1
def TN.find {B:Nat}{w:LK}{ah:List (Nat × Ad)}{al:List (Int × LY)}(h:TN I B w ah al)(k:Int) :
  (ah.find? (λe=>decide (k=(e.1:Int)))=none/\al.find? (λe=>decide (k=e.1))=none)\/∃ x y v,ah.find? (λe=>decide (k=(e.1:Int)))=some x/\al.find? (λe=>decide (k=e.1))=some y/\y.2=.agg #[LC x.2.p,v]/\Rl I B w v (Nk x.2):=by
 induction ah generalizing al with
 | nil=>
  have:al=[]:=zalbr.1 h.1;subst this;exact zalad ⟨rfl,rfl⟩
 | cons x ah aU=>
  match al,h with
  | [],h=>exact absurd h.1 MP
  | y::al,h=>
   have aJ:=h.2 0 MP MP;simp only[zaldn] at aJ;have aH:TN I B w ah al:=⟨by have:=h.1;simpa using this,λj E O=>by
    have:=h.2 (j+1) (by simpa using E) (by simpa using O);simpa using this⟩
   exact aD4
end
def ndA (l:List Ad)(a:Ad):List Ad × Bool:=(l++[a],true)
mutual
def aoj:∀ (a:Ad) (l:List Ad),wk ndA l a=l++a.all
 | .mk p kd tx n ks,l=>by
  rw[wk,Ad.all]
  show (if true=true then VP ndA (l++[Ad.mk p kd tx n ks]) ks else _)=_
  rw[zalak rfl,ajU ks];simp
def ajU:∀ (al:List Ad) (l:List Ad),VP ndA l al=l++Ad.PN al
 | [],l=>by rw[VP,Ad.PN,zalba]
 | a::al,l=>by rw[VP,Ad.PN,aoj a l,ajU al,zalax]
end
def agi {I:Nat->Prop}{b:Nat}{l:List Ad}{t:Ad}{w:LK}(cz:∀ x,I x->x<b)(e6:ab6 I b l w)(aH:MZ I w t)(ab:l.length<=90000) :
  MC 221 #[LC t.p,Mc b 0] w λe w'=>e=MN (L9 (ndA l t).2)/\ab6 I b (ndA l t).1 w'/\Ap b (b+1) w w':=by
 obtain⟨a6,b4,bL,bM,bP⟩:=zalbl info22;obtain⟨g3,bF,_,_,_⟩:=aH.cells;have A{G}(h:G:=by
 unfold ndA;simp only;have oI:=hide cz;(try clear cz);have A{G}(h:G:=by
 obtain⟨p,ae⟩:∃ p,p=t.p:=⟨_,rfl⟩;have bk:=hide ae;rw[<-ae] at bF g3 ⊢;obtain⟨n,av⟩:∃ n,n=l.length:=⟨_,rfl⟩;have pR:=hide av;rw[<-av] at eK cF bb aV g8 kK;(try clear D ae d' av);go_enter func221,ntmps221;have A{G}(h:G:=by
 have dd:=hide oV;(try clear fX bx g2);go_wp2;go_ret;exact⟨rfl,kQ.out,dd.out⟩):=LG h;exact az3):=LG h;exact aA8):=LG h;exact aA6
def aEo:TM 221:=λ_ _=>by kernel_rfl
def ahZ {I:Nat->Prop}(t:Ad)(w:LK)(aH:MZ I w t)(am:t.cnt<=20000) :
  MC 143 #[LC t.p] w λe w'=>(∃ u,e=MN u/\Rl I w.heap.size w' u t.all)/\LX w w':=by
 have A{G}(h:G:=by
 have e6:ab6 (λb=>I b/\b<w.heap.size) w.heap.size [] w2:=ay9
 have ag:=hide (ajx 221 (Mc w.heap.size 0) (λb=>I b/\b<w.heap.size) (Ap w.heap.size (w.heap.size+1)) (ab6 (λb=>I b/\b<w.heap.size) w.heap.size) ndA (λl ts=>l.length+Ad.cnts ts<=20000) aEo (λL=>by kernel_rfl)
  (λ_ _ _ h k=>h.trans k) (λw w' h=>⟨λb D _=>h.block b (zalew D.2) (zalgc D.2),h.size⟩)
  (λl t ts h=>by
   rw[Ad.cnts] at h;have E:=OA t;have O:(ndA l t).1.length<=l.length+1:=by unfold ndA;simp
   rw[Vw]
   split
   ·omega
   ·rw[Ad.cnts];omega)
  (λl t ts w' h cz bv=>agi (λ_ af=>af.2) cz bv LM)
  t.cnt t Nh LM [] [] w2 (by rw[Ad.cnts,Ad.cnts];simp;omega) e6
  (MZ.later (I:=λb=>I b/\b<w.heap.size) (λb D ab=>a5.block b D.2) _ (MZ.mono (λb D ab=>⟨D,ab⟩) _ aH)))
 rw[aoj,zalbq] at ag;rw[bW] at ag
 generalize t.all=ah at ag ⊢
 generalize t.p=p at ag ⊢
 (try clear am);go_enter func143,ntmps143;exact aDZ):=LG h;exact asZ
def ahH {I:Nat->Prop}{w:LK}{a:Ad}(h:MZ I w a):∃ dj cY,w.cell? (LD a.p 3)=some (.slice dj a.ks.length cY)/\w.ownsRow 0 22 1 (.slice dj a.ks.length cY) (a.ks.map Ad.p).length ((a.ks.map Ad.p).map LC)/\∀ g,(Value.slice dj a.ks.length cY).ownBlock=some g->I g:=by
 obtain⟨_,_,_,_,v,c3,T,ak⟩:=h.cells;obtain⟨dj,cY,a0⟩:=LZ T;rw[zalag] at a0;subst a0;exact⟨dj,cY,c3,T,ak⟩
def apn {I:Nat->Prop}{w:LK}{l:List Sc}{aQ:Option Addr}(h:VU I w (.pointer aQ) l):∀ eJ,Value.pointer aQ=MX eJ->eJ<w.heap.size:=by
 intro eJ e
 rcases h.form with h|⟨a',h,ab⟩
 ·rw[h] at e;cases e
 ·rw[h] at e;cases e;exact ab
def adu {t:Ad}(h:t.tr.ill=0)(N:need t.kd=2):∃ k0 a9 ks,t.ks=k0::a9::ks:=by
 have E:=(adF _ h).1;obtain⟨aW,_,bO⟩:=t.NC;rw[aW,bO,N,zalag] at E
 match bd:t.ks with
 | []=>rw[bd] at E;exact absurd E MK
 | [x]=>rw[bd] at E;simp at E
 | k0::a9::ks=>exact⟨k0,a9,ks,rfl⟩
def abQ {m:Nat}(aU:apm m){a:Ad}(aA:a.cnt<=m+1){I:Nat->Prop}{tb aw:Nat}{aK aL post:List Nat}{ah:List Us}{aQ:Option Addr}{ch:List Sc}{w:LK}(bv:aK=aL++(a.N9++post))(aO:TW I tb aw aK ah w)(aN:MZ I w a)(ak:a.tr.ill=0)(eR:VU I w (.pointer aQ) ch)(ab:ah.length+a.cnt<=20000){dj:Option Addr}{cY:Nat}
  (hrow:w.ownsRow 0 22 1 (.slice dj a.ks.length cY) (a.ks.map Ad.p).length ((a.ks.map Ad.p).map LC)) (hG:∀ g,(Value.slice dj a.ks.length cY).ownBlock=some g->I g) {s:Bool} {aR:List LW} (qk:aR.length<=100000) {X:LK} {b:Nat} {nv:LY} (aB:LX w X) (D:w.heap.size<=b) (N:X.heap[b]? = some (UN (aL.length:Nat) nv false (.pointer aQ))) (T:Na w.heap.size X nv aR) :
  MC 127 #[MX tb,.slice dj a.ks.length cY,Pv (MX b) s] X λe w'=>e=MN (.tuple #[])/\TW I tb aw aK (ah++Rh (tl m) a.tr.kids (aL.length+1) (⟨(aL.length:Nat),aR,false⟩::ch) s) w'/\Fm I w w':=by
 have c7:=aO.more aB;have bB:∀ J:Nat->Prop,Pq J w X:=λJ b _ ab=>aB.block b ab;have h5:=OA a;have h:=Xn aU a.ks (λk N=>by have:=UJ a.ks k N;omega) _ tb aw aK (aL++[a.p]) post ah (MX b) (⟨(aL.length:Nat),aR,false⟩::ch) s _ X
  (by rw[bv,P9];simp) c7 (λk N=>MZ.later (bB _) _ (MZ.mono (λb D _=>zalad D) _ (aN.parts k N))) (Ot ak)
  ⟨b,nv,.pointer aQ,rfl,zalal ⟨D,lt_of_heap N⟩,N,Qr T,λg hg=>zalal ⟨(Me T g hg).2,(Me T g hg).1⟩,qk,λeJ e=>by have:=apn eR eJ e;omega,VU.later (bB _) _ _ (VU.mono (λb D _=>zalad D) _ _ eR)⟩
  (L8 (I:=λ_=>True) (bB _) (λ_ _=>trivial) hrow) (λg hg=>zalad (hG g hg)) LM
 rw[zalab,zalbm,<-a.NC.2.2] at h;refine h.mono ?_;rintro e w' ⟨rfl,E,O⟩;exact⟨rfl,E.less aO (λb D=>zalad D),(Fm.of aB).trans (O.less λb D=>zalad D)⟩
def Vl {kd:Int}{k:Int}(h:¬ kd=k):(kd==k)=false:=zalaj.2 h
def agt:∀ m,apm m
 | 0=>λa aa=>by have:=Ud a;omega
 | m+1=>by
  have aU:=agt m;intro a aA I tb aw aK aL post ah v ch st w bv aO aN ak eR ab;obtain⟨aQ,rfl⟩:=eR.ptr;obtain⟨lE,bF,c0,c1,_⟩:=aN.cells;obtain⟨dj,cY,c3,hrow,hG⟩:=ahH aN;obtain⟨ky,gl,lX⟩:=a.NC;have h5:=OA a;have qD:∀ k ∈ a.ks,k.cnt<=m:=λk N=>by have:=UJ a.ks k N;omega
  have bB:∀ X,LX w X->MC 118 #[LC a.p] X λe w'=>e=MN (L9 (MW a.tr))/\w'=X:=λX aB=>ZB a.tr a.p X (VA.later (Nj.nt aN.nat) aB);have hnum:∀ X,LX w X->(Instr.lookup 44 (.map (some aw)) (LC a.p) false).run prog X=.ok (LJ (aL.length:Int)) X:=λX aB=>aO.num bv (Fm.of aB);have mQ:aK=(aL++[a.p])++(Ad.Nv a.ks++post):=by rw[bv,P9];simp
  have kids:∀ (X:LK) (ij:List Us) (s:Bool),TW I tb aw aK ij X->Fm I w X->ij.length+Ad.cnts a.ks<=20000->MC 127 #[MX tb,.slice dj a.ks.length cY,Pv (.pointer aQ) s] X λe w'=>e=MN (.tuple #[])/\TW I tb aw aK (ij++Rh (tl m) a.tr.kids (aL.length+1) ch s) w'/\Fm I w w':=by
   intro X ij s ce ai Hp;have h:=Xn aU a.ks qD I tb aw aK (aL++[a.p]) post ij (.pointer aQ) ch s _ X mQ ce (λk N=>MZ.later ai.stay _ (aN.parts k N)) (Ot ak) (VU.later ai.stay _ _ eR) (L8 ai.stay hG hrow) hG Hp;rw[zalab,zalbm,<-lX] at h;refine h.mono ?_;rintro e w' ⟨rfl,E,O⟩;exact⟨rfl,E,ai.trans O⟩
  rw[tl,ky,gl]
  by_cases pp:a.kd=23
  ·rw[zalak pp];rw[pp] at c0;refine aG6 w a.p tb aw aL.length aQ st (MW a.tr) dj a.ks.length cY a.tx _ _ I aK ah _ c0 c1 c3 lE LM aO (λX aB=>aO.num bv aB) bB (λX aB=>ape ch a.tx (.pointer aQ) X (VU.later (λb _ ab=>aB.block b ab) _ _ eR)) (λX ce ai=>?_);have h:=kids X _ (st||MW a.tr) ce ai (by rw[zalab,zalbm];omega)
   rw[zalax] at h;exact h
  rw[zalah pp]
  by_cases a9:a.kd=1
  ·rw[zalak a9];rw[a9] at c0;have gv:=Ad.ND a;have cA:=NG a.tr.kids;have yH:=Ou a.tr;refine tl1 w a.p tb aw aL.length aQ st (MW a.tr) dj a.ks.length cY ((O0 a.tr).map Tr.tx) _ c0 c3 aO.word.1 hnum (λX aB=>?_) bB (λX b nv aB D N T=>abQ aU aA bv aO aN ak eR ab hrow hG (by have:=Rk a.tr;rw[zalag];omega) aB D N T)
   refine(afF a.tr a.p X (VA.later (Nj.nt aN.nat) aB) LM).mono ?_;rintro e w' ⟨⟨u,rfl,aS⟩,D⟩;exact⟨⟨u,rfl,aaG (O0 a.tr) u w' aS (by have:=Rk a.tr;omega)⟩,D⟩
  rw[zalah a9]
  by_cases qP:a.kd=6
  ·rw[zalak qP];rw[qP] at c0;have gv:=Ad.ND a;exact tl6 w a.p tb aw aL.length aQ st (MW a.tr) dj a.ks.length cY (namesT a.tr false) _ c0 c3 aO.word.1 hnum (λX aB=>acI a.tr a.p false X (VA.later (Nj.nt aN.nat) aB) LM) bB (λX b nv aB D N T=>abQ aU aA bv aO aN ak eR ab hrow hG (by have:=Y0 a.tr false LM;omega) aB D N T)
  rw[zalah qP]
  by_cases wb:a.kd=13
  ·rw[zalak wb];rw[wb] at c0;exact aG5 w a.p tb aw aL.length aQ st (MW a.tr) dj a.ks.length cY a.tx _ c0 c3 aO.word.1 hnum c1 bB (λX b nv aB D N T=>abQ aU aA bv aO aN ak eR ab hrow hG MP aB D N T)
  rw[zalah wb]
  by_cases om:a.kd=9
  ·rw[zalak om];obtain⟨cn,bC,ks,bd⟩:=adu ak (by rw[om];decide)
   rw[om] at c0;obtain⟨g,cap,bO,_,ct,d1,tp⟩:=aN.anw bd;have m':cn ∈ a.ks:=by rw[bd];simp
   have bZ:bC ∈ a.ks:=by rw[bd];simp
   have db:Ad.cnts a.ks=cn.cnt+(bC.cnt+Ad.cnts ks):=by rw[bd,Ad.cnts,Ad.cnts]
   have o9:a.tr.kids=cn.tr::bC.tr::ks.map Ad.tr:=by rw[lX,bd];rfl
   rw[o9];have jB:aK=(aL++[a.p])++(cn.N9++(Ad.Nv (bC::ks)++post)):=by rw[mQ,bd,Ad.Nv];simp
   have gZ:aK=(aL++[a.p]++cn.N9)++(bC.N9++(Ad.Nv ks++post)):=by rw[jB,Ad.Nv];simp
   have gx:(aL++[a.p]++cn.N9).length=aL.length+1+cn.tr.count:=by rw[zalab,zalab,Ad.Qk,Ad.ND];rfl
   have iU:=WR m cn.tr (aL.length+1) ch (st||MW a.tr);have Ch:=Ad.ND cn;refine tl9 w a.p tb cn.p bC.p aQ st (MW a.tr) g _ cap I (λw'=>TW I tb aw aK (ah++tl m cn.tr (aL.length+1) ch (st||MW a.tr)) w'/\Fm I w w') _ c0 bO ct d1 LM lE tp bB (λX aB=>?_) (λX Y b c' qn D N=>?_)
   ·have W:∀ J:Nat->Prop,Pq J w X:=λJ b _ ab=>aB.block b ab;have h:=aU cn (qD cn m') _ tb aw aK (aL++[a.p]) _ ah (.pointer aQ) ch (st||MW a.tr) X jB (aO.more aB) (MZ.later (W _) _ (MZ.mono (λb D _=>zalad D) _ (aN.parts cn m'))) (Ot ak cn m') (VU.later (W _) _ _ (VU.mono (λb D _=>zalad D) _ _ eR)) LM;rw[zalab,zalbm] at h;refine h.mono ?_;rintro e w' ⟨rfl,E,O⟩;exact⟨rfl,O,E.less aO (λb D=>zalad D),(Fm.of aB).trans (O.less λb D=>zalad D)⟩
   ·obtain⟨ce,ai⟩:=c';have W:∀ J:Nat->Prop,Pq J X Y:=λJ b _ ab=>qn.block b ab;have BN:=VU.later ai.stay _ _ eR;have h:=aU bC (qD bC bZ) _ tb aw aK (aL++[a.p]++cn.N9) _ _ (MX b) (⟨0,[],true⟩::ch) (st||MW a.tr) Y gZ (ce.more qn) (MZ.later (W _) _ (MZ.mono (λb D _=>zalad D) _ (MZ.later ai.stay _ (aN.parts bC bZ)))) (Ot ak bC bZ)
     ⟨b,QJ,.pointer aQ,rfl,zalal ⟨D,lt_of_heap N⟩,N,Ql _ _,λg hg=>(by cases hg),zalae _,λeJ e=>by have:=apn BN eJ e;omega,VU.later (W _) _ _ (VU.mono (λb D _=>zalad D) _ _ BN)⟩ (by rw[zalab];omega)
    rw[gx,zalax] at h;refine h.mono ?_;rintro e w' ⟨rfl,E,O⟩;exact⟨rfl,E.less aO (λb D=>zalad D),ai.trans ((Fm.of qn).trans (O.less λb D=>zalad D))⟩
  rw[zalah om]
  by_cases pq:a.kd=5\/a.kd=37
  ·rw[zalak pq];obtain⟨pr,b6,ks,bd⟩:=adu ak (by rcases pq with k|k <;> rw[k] <;> decide);obtain⟨g,cap,bO,_,ct,d1,tp⟩:=aN.anw bd;have m':pr ∈ a.ks:=by rw[bd];simp
   have bZ:b6 ∈ a.ks:=by rw[bd];simp
   have bA:=aN.parts b6 bZ;obtain⟨rE,rF,dR,vF,GN⟩:=ahH bA;have db:Ad.cnts a.ks=pr.cnt+(b6.cnt+Ad.cnts ks):=by rw[bd,Ad.cnts,Ad.cnts]
   have qu:=OA b6;have o9:a.tr.kids=pr.tr::b6.tr::ks.map Ad.tr:=by rw[lX,bd];rfl
   rw[o9];have gZ:aK=(aL++[a.p]++pr.N9++[b6.p])++(Ad.Nv b6.ks++(Ad.Nv ks++post)):=by rw[mQ,bd,Ad.Nv,Ad.Nv,P9 b6];simp
   have gx:(aL++[a.p]++pr.N9++[b6.p]).length=aL.length+1+pr.tr.count+1:=by rw[zalab,zalab,zalab,Ad.Qk,Ad.ND];rfl
   refine tlF w a.p tb b6.p aQ st (MW a.tr) (st||MW a.tr||MW b6.tr) g _ cap a.kd rE b6.ks.length rF (λX Y b0=>VU (λb=>I b\/(X.heap.size<=b/\b<Y.heap.size)) Y b0 (ak2 a.tr pr.tr b6.tr aL.length ch (st||MW a.tr))) _ c0 bO d1 dR LM pq bB (λX aB=>?_) (λX Y b0 aB a7 qn=>?_)
   ·exact atj a pr b6 ks bd pq I tb aw aK aL post ah (.pointer aQ) ch (st||MW a.tr) X bv (aO.later aB) (MZ.later (λb _ ab=>aB.block b ab) _ aN) ak (VU.later (λb _ ab=>aB.block b ab) _ _ eR) LM
   ·have W:∀ J:Nat->Prop,Pq J w Y:=λJ b _ ab=>(qn.block b (zalau ab aB.size)).trans (aB.block b ab);have h:=Xn aU b6.ks (λk N=>by have:=UJ b6.ks k N;omega) _ tb aw aK (aL++[a.p]++pr.N9++[b6.p]) _ ah b0 _ (st||MW a.tr||MW b6.tr) _ Y gZ ((aO.later aB).more qn) (λk N=>MZ.later (W _) _ (MZ.mono (λb D _=>zalad D) _ (bA.parts k N))) (Ot (Ot ak b6 bZ)) a7 (L8 (I:=λ_=>True) (W _) (λ_ _=>trivial) vF) (λg hg=>zalad (GN g hg)) LM
    rw[gx,<-b6.NC.2.2] at h;refine h.mono ?_;rintro e w' ⟨rfl,E,O⟩;exact⟨rfl,E.less aO (λb D=>zalad D),(Fm.of aB).trans ((Fm.of qn).trans (O.less λb D=>zalad D))⟩
  rw[zalah pq]
  by_cases sk:a.kd=40
  ·rw[zalak sk];rw[sk] at c0;exact aG4 w a.p tb aQ st (MW a.tr) _ c0 bB (λX aB=>by rw[zalba];exact⟨aO.later aB,Fm.of aB⟩)
  rw[zalah sk];exact tlD w a.p tb aQ st (MW a.tr) a.kd dj a.ks.length cY _ c0 c3 (Vl pp) (Vl a9) (Vl qP) (Vl wb) (Vl om) (Vl λh=>pq (zalad h)) (Vl λh=>pq (zalal h)) (Vl sk) bB (λX aB=>kids X ah _ (aO.later aB) (Fm.of aB) LM)
mutual
def YF {I:Nat->Prop}{w:LK}:∀ {a:Ad},MZ I w a->∀ p ∈ a.N9,I p/\Cl w p
 | .mk q kd tx n ks,h=>by
  have ac:=h.cl;rw[MZ] at h;rw[Ad.N9];intro p ae
  rcases zalas.1 ae with rfl|ae
  ·exact⟨h.2.1,ac⟩
  ·exact ac4 h.2.2.2 p ae
def ac4 {I:Nat->Prop}{w:LK}:∀ {al:List Ad},OU I w al->∀ p ∈ Ad.Nv al,I p/\Cl w p
 | [],_=>by rw[Ad.Nv];intro p ae;cases ae
 | a::al,h=>by
  rw[OU] at h;rw[Ad.Nv];intro p ae
  rcases zalat.1 ae with ae|ae
  ·exact YF h.1 p ae
  ·exact ac4 h.2 p ae
end
def as3 {I:Nat->Prop}(t:Ad)(w:LK)(aH:MZ I w t)(aD:t.N9.Nodup)(ak:t.tr.ill=0)(am:t.cnt<=20000) :
  MC 26 #[LC t.p] w λe w'=>(∃ v,e=MN v/\w'.ownsRow 0 56 3 v (tl t.cnt t.tr 0 [] false).length (Ph (tl t.cnt t.tr 0 [] false)))/\LX w w':=by
 have b3:=hide (X6 t w aH aD LM);have key:∀ (w1:LK) (aw:Nat),w.heap.size<=aw->LX w w1->w1.heap[aw]? = some (.map (N7 (Ro t.N9)) t.N9.length) ->
   MC 68 #[MX w1.heap.size,LC t.p,Pv Pe false] (w1.alloc (.cells #[.map (some aw),QJ] 108)) λe w'=>e=MN (.tuple #[]) /\
    (∃ v,w'.heap[w1.heap.size]? = some (NK #[.map (some aw),v] 108)/\w'.ownsRow 0 56 3 v (tl t.cnt t.tr 0 [] false).length (Ph (tl t.cnt t.tr 0 [] false)))/\LX w w':=by
  intro w1 aw lJ bz iR;have a5:LX w1 (w1.alloc (.cells #[.map (some aw),QJ] 108)):=Qn;have W:∀ J:Nat->Prop,Pq J w (w1.alloc (.cells #[.map (some aw),QJ] 108)):=λJ b _ ab=>(a5.block b (zalau ab bz.size)).trans (bz.block b ab);have gZ:MZ (λb=>b<w1.heap.size) (w1.alloc (.cells #[.map (some aw),QJ] 108)) t:=MZ.later (W _) _ (MZ.mono (λb _ ab=>zalau ab bz.size) _ aH);have hall:∀ p ∈ t.N9,p<w1.heap.size/\Cl (w1.alloc (.cells #[.map (some aw),QJ] 108)) p:=YF gZ
  have ce:TW (λb=>b<w1.heap.size) w1.heap.size aw t.N9 [] (w1.alloc (.cells #[.map (some aw),QJ] 108)):=
   ⟨⟨QJ,LP _ _,⟨rfl,zalad ⟨rfl,rfl⟩⟩,λb _ e=>(by cases e),λe=>(by cases e)⟩,by rw[a5.block aw (lt_of_heap iR)];exact iR,lt_of_heap iR,λb D=>⟨zalau D a5.size,zalgc D⟩,hall,aD⟩
  refine(agt t.cnt t Nh _ w1.heap.size aw t.N9 [] [] [] Pe [] false _ MP ce gZ ak rfl OM).mono ?_;rintro e w' ⟨rfl,E,O⟩;obtain⟨⟨v,a9,bD,_⟩,_⟩:=E;rw[zalbq,zaldv] at bD;refine⟨rfl,⟨v,a9,bD⟩,⟨O.os.trans (a5.os.trans bz.os),O.tape.trans (a5.tape.trans bz.tape),O.output.trans (a5.output.trans bz.output),zalan bz.size (zalan a5.size O.size),λk N=>?_⟩⟩;have hl:k<w1.heap.size:=zalau N bz.size
  exact(O.stay k hl (zalau hl a5.size)).trans ((a5.block k hl).trans (bz.block k N))
 have dN:=hide key
 generalize tl t.cnt t.tr 0 [] false=ah at dN
 generalize t.p=p at b3 dN
 (try clear aD ak am key);go_enter func26,ntmps26;have A{G}(h:G:=by
 rintro e w2 ⟨rfl,⟨v,a0,T⟩,D⟩;have bo:=hide T;have aV:=hide D;have c1:w2.cell? (LD w1.heap.size 1)=some v:=by rw[cell_of a0];rfl
 have ab:=lt_of_heap a0;obtain⟨va,ck,rfl⟩:=LZ T;(try clear a0 D);go_wp2;go_ret;exact⟨⟨_,rfl,bo.out⟩,aV.out⟩):=LG h;exact aBO
def akP {p b:Nat}{tx name:LW}{w:LK}(bF:p<w.heap.size)(c1:w.cell? (LD p 1)=some (LQ tx))(c0:w.cell? (LD b 0)=some (LQ name))(b6:b<w.heap.size) :
  MC 145 #[LC p,Mc b 0] w λe w'=>e=MN (L9 (!(tx.toList==name.toList)))/\LX w w':=by
 cases h:(tx.toList==name.toList) with
 | true=>
  go_enter func145,ntmps145;go_wp2_with fail
  go_region
  go_wp2;go_ret;exact⟨rfl,O4.drew⟩
 | false=>
  go_enter func145,ntmps145;go_wp2_with fail
  go_region
  go_wp2;go_ret;exact⟨rfl,O4.drew⟩
def aw1:TM 145:=λ_ _=>by kernel_rfl
def Ap.as2 {R B:Nat}{a w w':LK}{row:Option Nat}(h:Ap R B a w)(hg:w.grownBy w' row)(bA:B<=w.heap.size)(T:∀ k,row=some k->B<=k\/k=R):Ap R B a w':=
 ⟨hg.os.trans h.os,hg.tape.trans h.tape,hg.output.trans h.output,zalan h.size hg.size,λk N Hn=>(hg.block k LM (λe=>by rcases T k e.symm with E|E <;> omega)).trans (h.block k N Hn)⟩
def ajy {w:LK}{v:LY}{ah:List Us}{e:TypeId}(h:w.ownsRow 0 e 3 v ah.length (Ph ah))(k:Nat)(N:k<ah.length):∃ g cap,v=.slice (some (LD g 0)) ah.length cap/\g<w.heap.size/\w.cell? (LD g (k * 3))=some (LJ (ah[k]).1)/\w.cell? (LD g (k * 3+1))=some (LJ (ah[k]).2.1)/\w.cell? (LD g (k * 3+2))=some (L9 (ah[k]).2.2):=by
 obtain⟨g,cap,rfl,_,_⟩:=h.form LM;have key:∀ j,j<3->w.cell? (LD g (k * 3+j))=(usC (ah[k]))[j]?:=by
  intro j aT;have E:=h.cellAt (k * 3+j) LM;rw[E];have O:ah=ah.take k++(ah[k]::ah.drop (k+1)):=by rw[<-zalbs N,zalcd]
  have ao:Ph ah=Ph (ah.take k)++(usC (ah[k])++Ph (ah.drop (k+1))):=by
   conv=>lhs;rw[O]
   rw[WQ];rfl
  have aM:(Ph (ah.take k)).length=k * 3:=by rw[afd,zalbe];omega
  rw[ao,zalds LM,aM,zalfu,zalfm (by simpa[usC] using aT)]
 refine⟨g,cap,rfl,(Me h g rfl).1,?_,?_,?_⟩
 ·have:=key 0 LM;simpa[usC] using this
 ·have:=key 1 LM;simpa[usC] using this
 ·have:=key 2 LM;simpa[usC] using this
def usN (t:Ad)(at':Int)(ah:List Us):List Ad:=(ah.filter λu=>u.2.1==at').map λu=>t.all.getD u.1.toNat t
def usA (t:Ad)(at':Int):List Ad:=usN t at' (tl t.cnt t.tr 0 [] false)
def afe (t:Ad)(at':Int)(ah:List Us)(k:Nat)(N:k<ah.length):usN t at' (ah.take (k+1))=usN t at' (ah.take k)++(if (ah[k]).2.1==at' then [t.all.getD (ah[k]).1.toNat t] else []):=by
 unfold usN;rw[zalac N,zalcg,zalam];simp only[zalbg,zalcu]
 split <;> rfl
def apN (t:Ad)(at':Int)(ah:List Us):(usN t at' ah).length<=ah.length:=by unfold usN;rw[zalag];exact zalci _ _
def aam {t:Ad}{at':Int}{ah:List Us}:∀ a ∈ usN t at' ah,a ∈ t.all:=by
 intro a aa;unfold usN at aa;obtain⟨u,_,rfl⟩:=zalcn.1 aa;rw[zalay]
 cases h:t.all[u.1.toNat]? with
 | none=>exact aff t
 | some x=>exact List.mem_of_getElem? h
def anl (q v:LY)(L:LK):(Instr.field 119 (.agg #[q,v]) 1).run prog L=.ok v L:=by kernel_rfl
def Z7 (t:Ad)(at':Int)(x:Ad)(name:LW):List Nat:=Si (λp=>!PD t name p) ((Nk x++usA t at').map Ad.p)
def afg {I:Nat->Prop}(t:Ad)(at':Int)(name:LW)(w:LK)(aH:MZ I w t)(aD:t.N9.Nodup)(ak:t.tr.ill=0)(am:t.cnt<=20000)
  (x:Nat × Ad) (af:Vb t at'=some x) (yq:(Nk x.2).length<=60000) (hpos:0<(Nk x.2).length) (k9:∀ a ∈ Nk x.2,a ∈ t.all) :
  MC 86 #[LC t.p,LJ at',LQ name] w λe w'=>(∃ v,e=MN v/\w'.ownsRow 0 22 1 v (Z7 t at' x.2 name).length ((Z7 t at' x.2 name).map LC))/\LX w w':=by
 obtain⟨a6,b4,bL,bM,bP⟩:=zalbl info22;obtain⟨w0,hU⟩:∃ w0,w0=w.alloc (.cells #[LQ name] 9):=⟨_,rfl⟩;have d9:LX w w0:=by rw[hU];exact Qn
 have hz0':w0.heap.size=w.heap.size+1:=by rw[hU];simp
 have oh:w0.heap[w.heap.size]? = some (NK #[LQ name] 9):=by rw[hU];exact LP _ _
 have A{G}(h:G:=by
 have aF:=hide (afh t w0 (n1 w0 d9) aD ak am);have b3:=hide (λ(L:LK) (D:LX w L)=>ahZ t L (n1 L D) am);have w9:=hide (λ(L:LK) (D:LX w L)=>as3 t L (n1 L D) aD ak am);have Ao:=hide (aaD t.cnt t.tr 0 [] false).2;have gc:t.all.length=t.tr.count:=by rw[VQ,Ad.Qk,Ad.ND]
 have Cg:t.tr.count=t.cnt:=t.ND;have nA:Hid ((tl t.cnt t.tr 0 [] false).length<=20000):=by
  show _<=_
  have h:=WR t.cnt t.tr 0 [] false;omega
 have jO:Hid (∀ (w1:LK) (fm:Nat) (al:List (Int × LY)),w1.heap[fm]? = some (.map (U6 al) al.length)->TN (λb=>b<w0.heap.size) w0.heap.size w1 (Q5 t) al ->
   ∃ (g n cap:Nat) (q:LY),(Instr.lookup 121 (.map (some fm)) (LJ at') false).run prog w1=.ok (.agg #[q,.slice (some (LD g 0)) n cap]) w1/\n=(Nk x.2).length/\w1.ownsRow w0.heap.size 22 1 (.slice (some (LD g 0)) n cap) n ((Nk x.2).map aP)):=by
  show ∀ (w1:LK) (fm:Nat) (al:List (Int × LY)),_->_->_
  intro w1 fm al aA he;have h8:=Yj 121 119 fm al.length al at' (.agg #[Pe,QJ]) w1 zalgx aA (ajz w1);unfold Vb at af
  rcases he.find at' with ⟨fM,fS⟩|⟨DA,y,v,fM,fS,en,mg⟩
  ·rw[fM] at af;cases af
  ·rw[fM] at af;cases af;obtain⟨g,cap,rfl,_,_⟩:=mg.1.form LM;rw[fS] at h8;simp only[zalgj,zalej,en] at h8;exact⟨g,_,cap,_,h8,rfl,mg.1⟩
 have uA:Hid (Z7 t at' x.2 name=Si (λp=>!PD t name p) ((Nk x.2++usA t at').map Ad.p)):=rfl;have AP:Hid (usA t at'=usN t at' (tl t.cnt t.tr 0 [] false)):=rfl;have DY:Hid (∀ a ∈ t.all,PD t name a.p=(a.tx.toList==name.toList)):=λa aa=>Vz aD name aa;have DO:=hide (λL (D:LX w L)=>Tv (n1 L D));have oR:=hide k9
 generalize Z7 t at' x.2 name=R at uA ⊢
 generalize Q5 t=IT at aF jO
 generalize tl t.cnt t.tr 0 [] false=ah at w9 Ao nA AP
 have Af:Hid (t.all.length=t.tr.count):=gc;have IP:Hid (Nk x.2=Nk x.2):=rfl
 generalize oW:Nk x.2=l4 at *
 generalize t.p=p at aF b3 w9 ⊢
 have fj:=hide oh;have hI:=hide d9;have jz:=hide hz0';rw[hU] at aF;have jr:=hide am;(try clear ak am n1 af oh hz0' gc Cg k9 oW);go_enter func86,ntmps86;go_wp2_with fail;refine cm aF.out ?_;rintro e w1 ⟨⟨fm,al,rfl,aA,he⟩,D⟩;rw[<-hU] at he D;obtain⟨g,n,cap,q,h8,av,hrow⟩:=Lu jO w1 fm al aA he;have ba:=hide (hI.out.trans (D.mono hI.out.size));have fC:=lt_of_heap aA;have yt:=anl q (.slice (some (LD g 0)) n cap) w1;have qA:=Me hrow g rfl;have fa:=hide hrow
 have ea:=hide ((D.block _ (by have:=Lu jz;omega)).trans fj.out)
 have dO:=hide (Lu b3 w1 ba.out);have sK:=hide av;(try clear aA D av);go_wp2_with fail;refine cm dO.out ?_;rintro e w2 ⟨⟨nv,rfl,vT,_⟩,a5⟩;have bj:=hide (ba.out.trans (a5.mono ba.out.size));have EX:=hide (Tz fa.out a5);have jP:=hide ((a5.block _ (lt_of_heap ea.out)).trans ea.out);have w6:=hide vT;obtain⟨dF,dG,rfl⟩:=LZ vT;have EN:=hide (Lu w9 w2 bj.out);have HI:=a5.size;(try clear a5);go_wp2_with fail;refine cm EN.out ?_;rintro e aq ⟨⟨Le,rfl,C9⟩,bx⟩;have bV:=hide (bj.out.trans (bx.mono bj.out.size))
 have vc:=hide (Tz EX.out bx);have ih:=hide ((bx.block _ (lt_of_heap jP.out)).trans jP.out);have w7:=hide (Tz w6.out bx);have AO:=hide C9;obtain⟨eq,uc,rfl⟩:=LZ C9;have Ku:=bx.size;go_wp2_with fail;have dc:aq.heap[g]?≠none:=by
  have h:=(Me vc.out g rfl).1;intro e;rw[Array.getElem?_eq_none_iff] at e;omega
 have d':∀ b,b<aq.heap.size->(∃ cj eD fr,aq.heap[b]? = some (.cells cj eD fr)/\eD≠22)->b≠g:=by
  rintro b _ ⟨cj,eD,fr,e,y'⟩ rfl
  rcases vc.out.2 with ⟨h,_⟩|⟨dJ,cap',cur',h,_,O,_⟩
  ·
   cases h
  ·simp only[zalcb,zalbw,zalft,zalhy] at h;rw[<-h.1,e] at O;simp at O;exact y' O.2.1
 have kK:=hide d';have Ka:=Me vc.out g rfl;have l9:Hid (0<n/\n<=60000):=⟨by have:=Lu sK;omega,by have:=Lu sK;omega⟩
 have qj:=Lu nA;have HH:=ba.out.size;(try clear d' dc)
 go_loopw [7,21] (λo i wr=>∃ (k:Nat) (ps:List Nat),k<=ah.length/\i=LJ k/\ps=(l4++usN t at' (ah.take k)).map Ad.p/\n<=ps.length/\ps.length<=n+k/\wr.ownsRow w0.heap.size 22 1 o ps.length (ps.map LC)/\Ap g aq.heap.size aq wr/\(∀ b,o.ownBlock=some b->b=g\/aq.heap.size<=b)) (λ_ i _=>ah.length - (intOf i).toNat)
 case atStart=>
  refine⟨0,l4.map Ad.p,zalae _,rfl,by simp[usN],by rw[zalag];exact zalge sK.out,by rw[zalag];have:=Lu sK;omega,?_,Ap.refl _ _ _,λb D=>?_⟩
  ·have h:=Lu vc;rw[zalag,zaley,<-sK.out];exact h
  ·
   cases D;exact zalad rfl
 case round=>
  obtain⟨k,ps,N,rfl,cF,eH,gy,hown,dq,fp⟩:=hrel;have nI:=hide cF;have bb:=hide hown;have i1:=hide dq;have g8:=hide fp;obtain⟨dn,cap2,rfl,_,_⟩:=hown.form (by have:=l9.out.1;omega)
  have yu:=Me hown dn rfl;have km:=dq.size
  by_cases aC:k<ah.length
  ·obtain⟨ml,FX,a0,o5,ct,d1,d2⟩:=ajy AO.out k aC;have A{G}(h:G:=by
   have yy:ml≠g:=Lu kK ml o5 (by
    rcases AO.out.2 with ⟨h,_⟩|⟨dJ,cap',cur',h,_,O,_⟩
    ·
     cases h
    ·simp only[zalcb,zalbw,zalft,zalhy] at h;rw[<-h.1] at O;exact⟨cur',56,(0,0),O,by decide⟩)
   rw[<-dq.cell (p:=(LD ml (k * 3))) o5 yy] at ct;rw[<-dq.cell (p:=(LD ml (k * 3+1))) o5 yy] at d1;rw[<-dq.cell (p:=(LD ml (k * 3+2))) o5 yy] at d2;have Hc:ml<wr.heap.size:=LM;have eY:(k:Int)<(ah.length:Int):=LM;have ex:k<=20000:=LM;have co:=hide (afe t at' ah k aC);obtain⟨le,qY⟩:=Lu Ao ah[k] (zalao aC);obtain⟨j,aT⟩:∃ j:Nat,(ah[k]).1=(j:Int):=⟨(ah[k]).1.toNat,by omega⟩;have hj:j<t.all.length:=by rw[Af.out];rw[aT] at qY;omega
   have tL:(ah[k]).1.toNat=j:=by rw[aT];rfl
   obtain⟨ga,n0,hF,_,_⟩:=w7.out.form LM;simp only[zalcb] at hF;obtain⟨rfl,_,rfl⟩:=hF;have G':=Me w7.out ga rfl;have Ha:ga≠g:=LM;have fd:=w7.out.cellAt j LM;obtain⟨y,hy⟩:∃ y,y=t.all[j]:=⟨_,rfl⟩;have Hx:wr.cell? (LD ga j)=some (LC y.p):=by
    rw[dq.cell (p:=(LD ga j)) G'.1 Ha,fd,hy];simp[hj]
   have Kd:ga<wr.heap.size:=LM;have hC:(j:Int)<(t.all.length:Int):=LM;rw[tL,zalay,zalai hj,zalej,<-hy] at co;rw[aT] at ct
   generalize (ah[k]).2.1=ou at d1 co
   generalize (ah[k]).2.2=jn at d2
   have iU:t.all.length<=maxLen:=by have h:=Af.out;unfold maxLen;rw[h];rw[t.ND];have:=Lu jr;omega
   generalize zh:y.p=us at Hx
   have Fx:=hide zh;(try clear zh);(try clear cF fp fd le qY aT tL hy)
   cases a2:(ou==at') with
   | true=>
    rw[a2] at co;have yA:ou=at':=eq_of_beq a2;subst yA;(try clear a2);obtain⟨dY,fO⟩:∃ dY,dY=wr.alloc (.cells #[LJ (j:Int),LJ ou,L9 jn] 56):=⟨_,rfl⟩;have Dm:dY.heap.size=wr.heap.size+1:=by rw[fO];simp
    have CI:=bb.out.alloc (.cells #[LJ (j:Int),LJ ou,L9 jn] 56);rw[<-fO] at CI;have w8:=hide CI;have qZ:Hid (Ap g aq.heap.size aq dY):=by rw[fO];exact i1.out.alloc LM _
    have rx:=hide fO;have sY:=hide Dm;have Hw:=l9.out.2;(try clear fO Dm)
    go_wp2_with (at_builtin;rw[<-rx.out,<-sY.out];refine wpList_append_lies _ rfl _ _ 46 rfl w0.heap.size 22 a6 Pe 1 8 zalbk b4 bL bM bP rfl MK _ _ _ rfl (w8.out.alloc _) (LD dY.heap.size 0) 1 1 [LC us] rfl rfl (VR dY us _ rfl) (Yk us) MK (by unfold maxLen;omega) LM (by simp;have:=Lu sY;omega) (dY.heap.size+1) MP ?_)
    intro dJ cap' IH hown' hgrow fX _;have h2:=hide hown';have b1:Hid (Ap g aq.heap.size aq IH):=(qZ.out.alloc (by have:=Lu sY;omega) _).as2 hgrow (by simp;have:=Lu sY;omega) (λb D=>by rcases Lu g8 b D with E|E;exact zalal E;exact zalad E)
    have D6:Hid (dJ=g\/aq.heap.size<=dJ):=by
     rcases fX with E|E
     ·exact Lu g8 dJ E
     ·exact zalal (by rw[E];have:=Lu sY;omega)
    (try clear fX);go_wp2
    go_roundw
    case rel=>
     refine⟨k+1,ps++[us],by omega,by go_num,?_,by simp;omega,by simp;omega,?_,b1.out,λb D=>?_⟩
     ·rw[co.out,zalak trivial,<-zalax,zalam,<-nI.out,zalbb,Fx.out];rfl
     ·refine adC ?_;have h:=Lu h2;rw[<-jz.out] at h;exact h
     ·
      cases D;exact Lu D6
    case measure=>simp[intOf];omega
   | false=>
    rw[a2] at co;go_wp2
    go_roundw
    case rel=>
     refine⟨k+1,ps,by omega,by go_num,?_,eH,by omega,?_,?_,g8.out⟩
     ·rw[co.out];simpa using Lu nI
     ·exact bb.out.alloc _
     ·exact i1.out.alloc LM _
    case measure=>simp[intOf];omega):=LG h;exact Tf
  ·have cA:k=ah.length:=LM;subst cA;have Hw:=l9.out.2;have hB:w.heap.size≠g:=by have:=Lu jz;omega
   have sa:=bV.out.size;have H5:=lt_of_heap ih.out;have yz:w.heap.size<=g:=by have:=Lu jz;omega
   have G0:w.heap.size<=dn/\dn≠w.heap.size:=by rcases fp dn rfl with E|E <;> omega
   have hbelow:∀ L,wr.grownBy L (some dn)->LX w L:=λL cS=>
    ⟨cS.os.trans (dq.os.trans bV.out.os),cS.tape.trans (dq.tape.trans bV.out.tape),cS.output.trans (dq.output.trans bV.out.output),zalan sa (zalan km cS.size),λj aT=>
     (cS.block j LM (λe=>by cases e;omega)).trans ((dq.block j LM LM).trans (bV.out.block j aT))⟩
   have oB:=hide hbelow;have ns:=hide (anm (B:=w0.heap.size) (F:=145) (cp:=Mc w.heap.size 0) dn cap2 ps (λp=>!PD t name p) wr hown LM aw1 (λia vW L cS=>by
    rw[cF] at vW;obtain⟨a,aa,rfl⟩:=zalcn.1 vW;have fU:a ∈ t.all:=by
     rcases zalat.1 aa with E|E
     ·exact Lu oR a E
     ·exact aam a E
    obtain⟨_,bF,_,c1,_⟩:=(Lu DO L (hbelow L cS) a fU).cells;have Dg:L.heap[w.heap.size]? = some (NK #[LQ name] 9):=(cS.block _ LM (λe=>G0.2 (by cases e;rfl))).trans ((dq.block _ H5 hB).trans ih.out)
    have h:=akP (name:=name) bF c1 (by rw[Lib.cell_of_heap Dg];rfl) (lt_of_heap Dg)
    have e:=Lu DY a fU;simp only[e];exact h))
   have li:Hid (Si (λp=>!PD t name p) ps=R):=by
    show _=_
    rw[uA.out,cF,zalaq,AP.out]
   rw[li.out] at ns;(try clear cF fp hbelow);go_wp2_with fail;refine cm ns.out ?_;rintro e bn ⟨⟨v,rfl,a0⟩,r1⟩;have eh:=hide (QM (B':=0) a0 (zalae _));have d5:=hide (Lu oB bn r1);obtain⟨va,ck,rfl⟩:=LZ a0;(try clear a0);go_wp2;go_ret;exact⟨⟨_,rfl,eh.out⟩,d5.out⟩):=LG h;exact aw2
def YM {I:Nat->Prop}(t:Ad)(w:LK)(h:MZ I w t)(am:t.cnt<=20000) :
  MC 25 #[LC t.p] w λe w'=>(∃ v,e=MN v/\w'.ownsRow w.heap.size 22 1 v t.all.length (t.all.map aP))/\LX w w':=by
 refine(abf t.cnt t Nh w h LM).mono ?_;rintro e w' ⟨⟨v,rfl,a0⟩,D⟩;refine⟨⟨v,rfl,?_⟩,D⟩;have aW:t.N9.map LC=t.all.map aP:=by rw[<-SE,zaley];rfl
 rw[aW,show t.N9.length=t.all.length by rw[<-SE,zalag]] at a0;exact a0
def muR (i n:Nat)(a:Act)(_:LK):Nat:=n - (intOf (a.tmps.getD i undef)).toNat
def I1 (p a cR cL v:LY)(dB:LK)(n:Nat)(fit:Nat->Prop)(x:Act)(wr:LK):Prop:=
 ∃ (f:Nat->LY) (k:Nat),x=fR p a cR cL f []/\k<=n/\f 58=v/\f 59=LJ n/\f 60=LJ k/\(∀ j,j<k->fit j)/\LX dB wr
section
variable {L:LK} {a cR cL:LY}
set_option linter.all false
def l1 {I:Nat->Prop}(Q:Exit->Act->LK->Prop)(f:Nat->LY)(t:Ad)(o:LW)(ds:Nat)(aH:MZ I L t)(am:t.cnt<=20000)(qr:cL=Mc ds 0)(h7:L.heap[ds]? = some (NK #[LQ o] 9))
  (c':t.all.any (VK o)=false->∀ (di:Nat->LY) (bJ:LK),LX L bJ->Q .normal (fR (LC t.p) a cR cL di []) bJ)
  (a7:t.all.any (VK o)=true->∀ (di:Nat->LY) (bJ:LK),di 8=Pe->di 9=LJ 9->LX L bJ->Q .ret (fR (LC t.p) a cR cL di []) bJ):aEU Q (fR (LC t.p) a cR cL f []) L:=by
 subst qr;have bS:=hide (YM t L aH am);have dQ:=hide (λbJ (D:LX L bJ)=>MZ.later (I:=λb=>b<L.heap.size) (λb a5 _=>D.block b a5) _ (MZ.mono (λ_ _ ab=>ab) _ aH));have aG:=hide c';have bo:=hide a7;have oz:=hide h7;have hpos:0<t.all.length:=by rw[all_eq];simp
 have yN:t.all.length<=20000:=by rw[VQ,Ad.Qk];exact am
 (try clear c' a7 am h7)
 generalize ae:t.p=p at *
 (try clear ae);unfold aEU;refine ad9 ?_
 go_wp2_with (with_reducible refine Uc ?_)
 refine cm bS.out ?_;rintro e w1 ⟨⟨v,rfl,a0⟩,bz⟩;have eh:=hide a0;have ba:=hide bz;obtain⟨g,cap,rfl,_,_⟩:=a0.form hpos
 go_wp2_with (with_reducible refine Uc ?_)
 unfold Stop;refine wp_loop (I1 (LC p) a cR (Mc ds 0) (.slice (some (LD g 0)) t.all.length cap) w1 t.all.length (λj=>∀ aT:j<t.all.length,VK o t.all[j]=false)) (muR 60 t.all.length) ?_ ?_
 ·exact⟨_,0,Wy _ rfl rfl rfl rfl rfl,zalae _,rfl,rfl,rfl,λj aT=>absurd aT (zalep _),O4⟩
 rintro x wr ⟨gp,k,rfl,N,tg,th,rK,eA,D⟩;have m5:muR 60 t.all.length (fR (LC p) a cR (Mc ds 0) gp []) wr=t.all.length - k:=by
  show t.all.length - (intOf (gp 60)).toNat=_
  rw[rK];simp[intOf]
 simp only[m5];(try clear m5);have jx:=hide eA;have aV:=hide D;have bK:=D.size
 by_cases aC:k<t.all.length
 ·have eY:(k:Int)<(t.all.length:Int):=LM;obtain⟨y,hy⟩:∃ y,y=t.all[k]:=⟨_,rfl⟩;have A{G}(h:G:=by
  have h7:wr.heap[ds]? = some (NK #[LQ o] 9):=(cB.out.block _ (lt_of_heap oz.out)).trans oz.out;have b3:=hide av;have fb:=hide hy;have DK:=hide h7;obtain⟨ct,d1,d2,fy,_⟩:=node_cells av;have lz:=lt_of_heap av;(try clear av hy h7 eA d1 d2 fy);unfold fR;have A{G}(h:G:=by
  refine Lu dN _ _ ?_;(try clear K);have A{G}(h:G:=by
  refine Lu dN _ _ ?_;(try clear K);refine zalib (wp_block ?_);have A{G}(h:G:=by
  refine Lu dN _ _ ?_;(try clear K);have A{G}(h:G:=by
  refine Lu dN _ _ ?_;(try clear K);rw[Wy _ rfl rfl rfl rfl rfl];refine d1 _ _ y.kd n y.tx o y.p ds u rfl rfl rfl b3.out DK.out ?_ ?_
  ·intro hfit dR h3 wc we zk bx;replace wc:dR 58=.slice (some (LD g 0)) t.all.length cap:=by first|exact wc|exact wc.trans tg
   replace we:dR 59=LJ t.all.length:=by first|exact we|exact we.trans th
   replace zk:dR 60=LJ k:=by first|exact zk|exact zk.trans rK
   have bN:=hide hfit;have bV:=hide (aV.out.trans (bx.mono aV.out.size));(try clear hfit tg th rK dU ct eY);unfold fR;go_wp2_with fail;refine⟨⟨_,k+1,Wy _ rfl rfl rfl rfl rfl,by omega,by first|exact wc|rfl,by first|exact we|rfl,?_,?_,bV.out⟩,?_⟩
   ·show Value.int _ _=_
    go_num
   ·exact ay4
   ·show t.all.length - (intOf (Value.int _ _)).toNat<_
    simp[intOf];omega
  ·intro hfit dR h3 zm om bx;refine Lu bo ?_ dR h3 zm om (cB.out.trans (bx.mono cB.out.size));exact zaldd.2 ⟨y,by rw[fb.out];exact zalao aC,hfit⟩):=LG h;exact V5):=LG h;exact V5):=LG h;exact V5):=LG h;exact V5):=LG h;exact aAS
 ·have cA:k=t.all.length:=LM;exact ayu
def NoP (Q:Exit->Act->LK->Prop):Exit->Act->LK->Prop
 | .panic _,_,_=>False
 | e,a,w=>Q e a w
def Zq {P:Program}{c:Code}{Q:Exit->Act->LK->Prop}{a:Act}{w:LK}(h:c.wp P (NoP Q) a w):c.wp P Q a w:=
 wp_mono h λe a w h=>by cases e <;> first|exact h|exact h.elim
def aEZ (Q:Exit->Act->LK->Prop)(a:Act)(w:LK):Prop:=Code.wp prog (cr (cl (cl (cr (cr (cl (cl (cr (cl (cr (cr (cr (cr (cr (Tryz.f36.body.getD .skip))))))))))))))) Q a w
variable {p:LY}
set_option linter.all false
def d2 (Q:Exit->Act->LK->Prop)(f:Nat->LY)(kd n:Int)(tx old:LW)(q eF:Nat)(u:LY)(ah:List LW)(eX:f 15=LC q)(eT:cR=Mc eF 0)
  (av:L.heap[q]? = some (MB kd tx n u)) (h6:L.heap[eF]? = some (NK #[LQ old] 9))
  (a0:∀ X,LX L X->MC 79 #[LC q] X λe w'=>(∃ u,e=MN u/\Na X.heap.size w' u ah)/\LX X w') (ab:ah.length<=90000)
  (c':(Vg kd tx||(kd==13&&(tx.toList==old.toList&&hasB ah old)))=false->∀ (di:Nat->LY) (bJ:LK),di 88=f 88->di 89=f 89->di 90=f 90->LX L bJ->Q .normal (fR p a cR cL di []) bJ)
  (a7:(Vg kd tx||(kd==13&&(tx.toList==old.toList&&hasB ah old)))=true->∀ (di:Nat->LY) (bJ:LK),di 8=Pe->di 9=LJ 1->LX L bJ->Q .ret (fR p a cR cL di []) bJ):aEZ Q (fR p a cR cL f []) L:=by
 have aG:=hide c';have bo:=hide a7;obtain⟨ct,d1,d2,fy,_⟩:=node_cells av;have lz:=lt_of_heap av;have rH:L.cell? (LD eF 0)=some (LQ old):=by rw[Lib.cell_of_heap h6];rfl
 have FW:=lt_of_heap h6;have eh:=hide a0;have aV:Hid (LX L L.drew):=O4.drew;(try clear c' a7 av h6 d2 fy a0);unfold aEZ;refine Zq ?_;simp only[cl,cr,Tryz.f36,zalej];subst eT;unfold Vg at aG bo;unfold fR
 cases kV:(kd==9) with
 | true=>
  rw[kV] at bo;have bX:=hide (Lu bo MP);exact azb
 | false=>
  rw[kV] at aG bo
  cases jS:(kd==23) with
  | true=>
   have hO:(kd==13)=false:=by have:=eq_of_beq jS;subst this;decide
   rw[jS,hO] at aG bo
   cases ev:(tx.toList==XD) with
   | true=>
    rw[ev] at bo;have bX:=hide (Lu bo MP);unfold XD at ev;exact azb
   | false=>
    rw[ev] at aG;have bY:=hide (Lu aG MP);unfold XD at ev;exact atE
  | false=>
   rw[jS] at aG bo
   cases hO:(kd==13) with
   | false=>
    rw[hO] at aG;have bY:=hide (Lu aG MP);exact atE
   | true=>
    rw[hO] at aG bo
    cases te:(tx.toList==old.toList) with
    | false=>
     rw[te] at aG;have bY:=hide (Lu aG MP);exact atE
    | true=>
     rw[te] at aG bo;refine wp_seq_k λK U=>?_;have dN:=hide U;(try clear U);have aF:=Lu aV;refine wp_region_held (S:=λX=>LX L X) Nw ?_;refine alv ?_;obtain⟨wd,cb⟩:∃ wd,wd=L.drew:=⟨_,rfl⟩;have k6:wd.heap.size=L.heap.size:=by rw[cb];rfl
     rw[<-cb] at aF ⊢;(try clear cb);refine wh 0 (LC q) aF ?_;refine wh 1 (LC q) aF ?_;refine wh 2 (Mc q 0) aF ?_;refine wg 3 (LJ kd) rfl (zalad ⟨by kernel_rfl,λX aB=>by have aJ:=Md aB ct;go_simp⟩) aF ?_
     refine wh 4 (L9 false) aF ?_;refine wh 5 (L9 false) aF ?_;refine wh 6 (LC q) aF ?_;refine wh 7 (LC q) aF ?_;refine wh 8 (Mc q 0) aF ?_;refine wg 9 (LJ kd) rfl (zalad ⟨by kernel_rfl,λX aB=>by have aJ:=Md aB ct;go_simp⟩) aF ?_
     refine wh 10 (L9 false) aF ?_;refine wh 11 (L9 false) aF ?_;refine wg 12 undef rfl (zalal ⟨by kernel_rfl,rfl⟩) aF ?_;refine wg 13 undef rfl (zalal ⟨by kernel_rfl,rfl⟩) aF ?_;refine wg 14 undef rfl (zalal ⟨by kernel_rfl,rfl⟩) aF ?_;refine wg 15 undef rfl (zalal ⟨by kernel_rfl,rfl⟩) aF ?_;refine wg 16 undef rfl (zalal ⟨by kernel_rfl,rfl⟩) aF ?_;refine wh 17 (L9 false) aF ?_;refine wh 18 (L9 false) aF ?_;refine wh 19 (L9 false) aF ?_;refine wh 20 (LC q) aF ?_;refine wh 21 (LC q) aF ?_;refine wh 22 (Mc q 0) aF ?_
     refine wg 23 (LJ kd) rfl (zalad ⟨by kernel_rfl,λX aB=>by have aJ:=Md aB ct;go_simp⟩) aF ?_
     refine wh 24 (L9 true) aF ?_;refine wh 25 (L9 true) aF ?_;refine wh 26 (LC q) aF ?_;refine wh 27 (LC q) aF ?_;refine wh 28 (Mc q 1) aF ?_;refine wg 29 (LQ tx) rfl (zalad ⟨by kernel_rfl,λX aB=>by have aJ:=Md aB d1;go_simp⟩) aF ?_
     refine wg 30 (LQ old) rfl (zalad ⟨by kernel_rfl,λX aB=>by have aJ:=Md aB rH;go_simp⟩) aF ?_
     refine wh 31 (L9 true) aF ?_;refine wh 32 (L9 true) aF ?_;refine wh 33 (L9 true) aF ?_;refine wh 34 (LC q) aF ?_;refine wg 36 (LQ old) rfl (zalad ⟨by kernel_rfl,λX aB=>by have aJ:=Md aB rH;go_simp⟩) aF ?_
     refine UK 35 λfI xT=>?_;go_simp;refine cm (Lu eh wd aF) ?_;rintro e ax ⟨⟨u2,rfl,aS⟩,o1⟩;have xh:LX L ax:=aF.trans (o1.mono (zalge k6.symm));have fh:=hide (YJ ah old u2 ax aS ab);refine xT.out _ _ xh (λ_=>?_);(try clear fI xT);refine UK 37 λfI xT=>?_;go_simp;refine cm fh.out ?_;rintro e Ln ⟨rfl,rfl⟩;refine xT.out _ _ xh (λ_=>?_);(try clear fI xT)
     generalize hasB ah old=z at aG bo ⊢
     have jO:=hide xh
     cases z with
     | true=>
      have bX:=hide (Lu bo MP);refine wh 38 (L9 true) jO.out ?_;refine wh 39 (L9 true) jO.out ?_;refine wpAnyH_done Nw ?_ _;refine Lu dN _ _ ?_;go_wp2_with fail;refine aaW (NoP Q) .ret _ rfl rfl rfl rfl rfl ?_;exact Lu bX _ _ rfl rfl jO.out
     | false=>
      have bY:=hide (Lu aG MP);refine wh 38 (L9 false) jO.out ?_;refine wh 39 (L9 false) jO.out ?_;refine wpAnyH_done Nw ?_ _;refine Lu dN _ _ ?_;go_wp2_with fail;refine aaW (NoP Q) .normal _ rfl rfl rfl rfl rfl ?_;exact Lu bY _ _ rfl rfl rfl jO.out
def I2 (p a cR cL v:LY)(dB:LK)(n:Nat)(fit:Nat->Prop)(x:Act)(wr:LK):Prop:=
 ∃ (f:Nat->LY) (k:Nat),x=fR p a cR cL f []/\k<=n/\f 88=v/\f 89=LJ n/\f 90=LJ k/\(∀ j,j<k->fit j)/\LX dB wr
def ahm (old:LW)(y:Ad):UR old y=(Vg y.kd y.tx||(y.kd==13&&(y.tx.toList==old.toList&&hasB (RV y.tr) old))):=by
 obtain⟨aW,a4,_⟩:=y.NC;unfold UR Yd;rw[aW,a4]
set_option linter.all false
def l2 {I:Nat->Prop}(Q:Exit->Act->LK->Prop)(f:Nat->LY)(t:Ad)(a6:Nat)(ak:a6<t.all.length)(o:LW)(eF:Nat)(aH:MZ I L t)(am:t.cnt<=20000)(aa:a=LJ (a6:Int))(eT:cR=Mc eF 0)(h6:L.heap[eF]? = some (NK #[LQ o] 9))
  (c':(t.all[a6]).all.any (UR o)=false->∀ (di:Nat->LY) (bJ:LK),LX L bJ->Q .normal (fR (LC t.p) a cR cL di []) bJ)
  (a7:(t.all[a6]).all.any (UR o)=true->∀ (di:Nat->LY) (bJ:LK),di 8=Pe->di 9=LJ 1->LX L bJ->Q .ret (fR (LC t.p) a cR cL di []) bJ):aEW Q (fR (LC t.p) a cR cL f []) L:=by
 subst eT;subst aa;have bS:=hide (YM t L aH am);have pm:=TI am t.all[a6] (zalao ak);have bR:=hide (λbJ (D:LX L bJ)=>YM t.all[a6] bJ (MZ.later (λb _ ab=>D.block b ab) _ (Tv aH t.all[a6] (zalao ak))) pm);have dQ:=hide (λbJ (D:LX L bJ)=>MZ.later (I:=λb=>b<L.heap.size) (λb a5 _=>D.block b a5) _ (MZ.mono (λ_ _ ab=>ab) _ (Tv aH t.all[a6] (zalao ak))));have lf:=hide (TI pm);have aG:=hide c';have bo:=hide a7;have kC:=hide h6;have hpos:0<t.all.length:=LM
 have yN:t.all.length<=20000:=by rw[VQ,Ad.Qk];exact am
 have pP:Hid (t.all[a6]? = some t.all[a6]):=zalai ak;(try clear c' a7 am h6)
 generalize b5:t.all[a6]=z at *
 have H9:0<z.all.length:=by rw[all_eq];simp
 have sf:z.all.length<=20000:=by rw[VQ,Ad.Qk];exact pm
 have fH:Hid ((t.all.map aP)[a6]? = some (LC z.p)):=by
  show _=_
  rw[zalbx,pP.out];rfl
 (try clear b5 pm)
 generalize ae:t.p=p at *
 generalize ac:z.p=q at *
 generalize t.all.length=jm at *
 (try clear ae ac);have n8:(a6:Int)<(jm:Int):=LM;unfold aEW;refine ad9 ?_
 go_wp2_with (with_reducible refine Uc ?_)
 refine cm bS.out ?_;rintro e w0 ⟨⟨v0,rfl,tX⟩,d9⟩;obtain⟨fN,cap0,rfl,_,_⟩:=tX.form hpos;have qA:=Me tX fN rfl;have hck0:w0.cell? (LD fN a6)=some (LC q):=(tX.cellAt a6 LM).trans fH.out;have hI:=hide d9;have b9:=hide (Lu bR w0 d9);have J9:fN<w0.heap.size:=qA.1;(try clear qA)
 go_wp2_with (with_reducible refine Uc ?_)
 refine Ul ?_;rintro e w1 ⟨⟨v,rfl,a0⟩,bz⟩;have eh:=hide a0;have ba:=hide (hI.out.trans (bz.mono hI.out.size));obtain⟨g,cap,rfl,_,_⟩:=a0.form H9;(try clear hck0)
 go_wp2_with (with_reducible refine Uc ?_)
 unfold Stop;refine wp_loop (I2 (LC p) (LJ (a6:Int)) (Mc eF 0) cL (.slice (some (LD g 0)) z.all.length cap) w1 z.all.length (λj=>∀ aT:j<z.all.length,UR o z.all[j]=false)) (muR 90 z.all.length) ?_ ?_
 ·exact⟨_,0,Wy _ rfl rfl rfl rfl rfl,zalae _,rfl,rfl,rfl,λj aT=>absurd aT (zalep _),O4⟩
 rintro x wr ⟨gp,k,rfl,N,BC,BD,xC,eA,D⟩;have m5:muR 90 z.all.length (fR (LC p) (LJ (a6:Int)) (Mc eF 0) cL gp []) wr=z.all.length - k:=by
  show z.all.length - (intOf (gp 90)).toNat=_
  rw[xC];simp[intOf]
 simp only[m5];(try clear m5);have jx:=hide eA;have aV:=hide D;have bK:=D.size
 by_cases aC:k<z.all.length
 ·have eY:(k:Int)<(z.all.length:Int):=LM;obtain⟨y,hy⟩:∃ y,y=z.all[k]:=⟨_,rfl⟩;have A{G}(h:G:=by
  have h6:wr.heap[eF]? = some (NK #[LQ o] 9):=(cB.out.block _ (lt_of_heap kC.out)).trans kC.out;have b3:=hide av;have Fv:=hide (λX (aB:LX wr X)=>MZ.later (I:=λb=>b<L.heap.size) (λb a5 _=>aB.block b (by have:=cB.out.size;omega)) _ (Tv (Lu dQ wr cB.out) y (by rw[hy];exact zalao aC)))
  have fb:=hide hy;have DJ:=hide h6;obtain⟨ct,d1,d2,fy,_⟩:=node_cells av;have lz:=lt_of_heap av;(try clear av hy h6 eA ct d1 d2 fy);unfold fR;have A{G}(h:G:=by
  refine Lu dN _ _ ?_;(try clear K);have A{G}(h:G:=by
  refine Lu dN _ _ ?_;(try clear K);refine zalib (wp_block ?_);have A{G}(h:G:=by
  refine Lu dN _ _ ?_;(try clear K);rw[Wy _ rfl rfl rfl rfl rfl];have pm:=Lu lf y (by rw[fb.out];exact zalao aC)
  have mx:=VD y.tr;have yH:=Ou y.tr;have Cg:=y.ND;refine d2 _ _ y.kd n y.tx o y.p eF u (RV y.tr) rfl rfl b3.out DJ.out (λX aB=>adh y.tr y.p X (Nj.nt (MZ.nat (Lu Fv X aB))) LM) LM ?_ ?_
  ·intro hfit dR h3 wf wi zn bx;replace wf:dR 88=.slice (some (LD g 0)) z.all.length cap:=by first|exact wf|exact wf.trans BC
   replace wi:dR 89=LJ z.all.length:=by first|exact wi|exact wi.trans BD
   replace zn:dR 90=LJ k:=by first|exact zn|exact zn.trans xC
   rw[<-ahm] at hfit;have bN:=hide hfit;have bV:=hide (aV.out.trans (bx.mono aV.out.size));(try clear hfit BC BD xC dU eY);unfold fR;go_wp2_with fail;refine⟨⟨_,k+1,Wy _ rfl rfl rfl rfl rfl,by omega,by first|exact wf|rfl,by first|exact wi|rfl,?_,?_,bV.out⟩,?_⟩
   ·show Value.int _ _=_
    go_num
   ·exact ay4
   ·show z.all.length - (intOf (Value.int _ _)).toNat<_
    simp[intOf];omega
  ·intro hfit dR h3 zm om bx;refine Lu bo ?_ dR h3 zm om (cB.out.trans (bx.mono cB.out.size));exact zaldd.2 ⟨y,by rw[fb.out];exact zalao aC,by rw[ahm];exact hfit⟩):=LG h;exact V5):=LG h;exact V5):=LG h;exact V5):=LG h;exact aAS
 ·have cA:k=z.all.length:=LM;exact ayu
