import Derived.Test.YticfnaiehdpbmaaGreatDoorFa5
import Derived.Test.YticfnaiehdpbmaaGreatDoorFa6
set_option maxRecDepth 100000
set_option maxHeartbeats 8000000
set_option linter.all false
namespace Go.Proofs.YticfnaiehdpbmaaGreatDoor
open Go.RowKit Go.Proofs.Tryz
def PE.get {e:Nat->Prop}{g:Pe}:∀ (b:List Tr) (d:List Nat),PE e g b d->∀ a,(c:a<b.length)->∃ f:a<d.length,Qa e g b[a] d[a]
 | [],_,_,a,c=>absurd c P7
 | n::b,d,h,a,c=>by
  obtain⟨m,k,rfl,l,i⟩:=h.parts
  cases a with
  | zero=>exact⟨by simp,l⟩
  | succ a=>
   obtain⟨f,j⟩:=PE.get b k i a (by simpa using c);exact⟨by simpa using f,by simpa using j⟩
def Xa.get {e:Nat->Prop}{g:Pe}:∀ (b:List Tr) (d:List Nat),Xa e g b d->∀ a,(c:a<b.length)->∃ f:a<d.length,Qa e g b[a] d[a]
 | [],_,_,a,c=>absurd c P7
 | n::b,d,h,a,c=>by
  obtain⟨m,k,rfl,l,i⟩:=h
  cases a with
  | zero=>exact⟨by simp,l⟩
  | succ a=>
   obtain⟨f,j⟩:=Xa.get b k i a (by simpa using c);exact⟨by simpa using f,by simpa using j⟩
def Wp:∀ (b:List Tr) (a:Nat) (c:a<b.length),Tr.f1 (b.take (a+1))=Tr.f1 (b.take a)+(b[a]).count
 | [],a,c=>absurd c P7
 | d::b,0,_=>by simp[PS,PY]
 | d::b,a+1,c=>by
  have:=Wp b a (by simpa using c);simp only[kq,PS,List.getElem_cons_succ];omega
def TF (a:List Tr)(b:Nat)(c:b<a.length):(a[b]).count<=Tr.f1 a:=by
 have e:=Wp a b c;have d:Tr.f1 a=Tr.f1 (a.take (b+1))+Tr.f1 (a.drop (b+1)):=by rw[<-U9,j3]
 omega
def Zr (a:Tr):1<=a.count:=by cases a with|mk b e d c=>rw[fW];omega
def Tq:∀ (a:List Tr),a.length<=Tr.f1 a
 | []=>by simp
 | b::a=>by
  have d:=Zr b;have c:=Tq a;rw[PS,gL];omega
abbrev I9 (a:Nat):Px:=.func (.func 72) #[] #[PL a 0]
def amx (g:Px)(a:Nat)(b:Int)(c:Pe)(j:c.cell? (O7 a 0)=some (O3 b))(i:∀ f,c.frozen? (O7 a f)=false)(k:0<=b)(l:b<=100000) :
  Pq 72 #[g,PL a 0] c λe d=>e=PK (Pv true)/\d=c.setCell (O7 a 0) (O3 (b+1)):=by
 go_enter func72,ntmps72;go_wp2;go_ret;exact⟨rfl,rfl⟩
def Qa.Uf {e:Nat->Prop}{d:Pe}{a:Tr}{g:Nat}(h:Qa e d a g):∃ c b,d.heap[g]? = some (Qc a.kd a.tx a.n c)/\d.ownsRow 0 22 1 c b.length (b.map O5)/\(∀ f,c.ownBlock=some f->e f)/\PE e d a.fJ b:=by
 cases a with
 | mk m p o n=>
  rw[Qa] at h;obtain⟨_,c,b,k,f,j⟩:=h;exact⟨c,b,k,f.1,f.2,PE.mono (λl i _=>i.1) _ _ j⟩
structure pe (b:Nat)(n:Nat)(w:Pe):Prop where
 gw:w.heap[b]? = some (PZ #[O3 (n:Int)] 3)
def pe.set {a f:Nat}{d:Pe}(h:pe a f d)(b:Nat){c:Int}(e:c=(b:Int)):pe a b (d.setCell (O7 a 0) (O3 c)):=⟨by rw[gi h.gw,e];rfl⟩
def aMQ:WM 72:=λ_ _=>by kernel_rfl
def mu (N:Nat):∀ (q:Nat) (a:Tr),a.count<=q->∀ (i bz:Nat) (w:Pe),Qa (λx=>x≠N) w a i->pe N bz w->bz+a.count<=100000 ->
  Pq 36 #[O5 i,I9 N] w λm H=>m=PK (.tuple #[])/\pe N (bz+a.count) H/\Ap N w.heap.size w H:=by
 intro q
 induction q with
 | zero=>
  exact tl
 | succ q I=>
  intro a g i bz w E l R;obtain⟨bq,f,W,F,aj,U⟩:=E.Uf;have aJ:=PE.length _ _ U;have A:i≠N:=by
   cases a with
   | mk a7 r a6 bc=>rw[Qa] at E;exact E.1
  have b{G}(h:G:=by
  obtain⟨_,_,_,T,_⟩:=fZ W;obtain⟨ua,uc,ap⟩:=TK F;subst ap;have M:w.cell? (O7 N 0)=some (O3 (bz:Int)):=by rw[cell_of l.gw];rfl
  have ah:=TB l.gw;have bn:=aMQ;have bm:∀ s:Pe,(binOp .eql 47 (I9 N) .nilFunc).run prog s=.ok (Pv false) s:=λs=>by kernel_rfl
  have d:=amx (O5 i) N (bz:Int) w M ah O9 O9;have be:=l;have ba:=Y aj;have aS:=Y I;have ai:=Y z;have aZ:=Y g;have aY:=Y R;have aW:¬ N=i:=λm=>A m.symm;have C:(w.setCell (O7 N 0) (O3 ((bz:Int)+1))).cell? (O7 i 3)=some (.slice ua f.length uc):=by
   rw[gs (w:=w) (g1 w (O7 N 0) _ i A)];exact T
  rw[aJ] at C;have aV:=Y C;clear M ah aj I z g R W T A aW C;have bh:=O4 aV;go_enter func36,ntmps36;go_wp2_with fail;refine cm d ?_;rintro m br ⟨rfl,rfl⟩;go_wp2_with fail
  go_loopw [23] (λn wr=>∃ j:Nat,j<=a.fJ.length/\n=O3 j/\pe N (bz+1+Tr.f1 (a.fJ.take j)) wr/\Ap N w.heap.size w wr) (λn _=>a.fJ.length - (intOf n).toNat)
  case atStart=>exact⟨0,f3 _,rfl,by simpa[PY] using be.set (bz+1) O9,Ap.setCell (R:=N) (Ap.refl _ _ _) (p:=(O7 N 0)) (fU rfl) _⟩
  case round=>
   obtain⟨j,bf,rfl,l,o⟩:=hrel
   by_cases t:j<a.fJ.length
   ·obtain⟨k,bj,B,ac⟩:=TG F O9;have b{G}(h:G:=by
    obtain⟨ax,aQ⟩:=PE.get _ _ U j t;have aX:k≠N:=O4 ba k rfl;have aC:k<w.heap.size:=(QD F k rfl).1;have p:wr.cell? (O7 k j)=some (O5 f[j]):=by
     rw[o.cell (p:=(O7 k j)) aC aX];exact ac j ax
    have a1:Qa (λx=>x≠N) wr a.fJ[j] f[j]:=Qa.fH (λx D aD=>o.block x aD D) _ _ aQ;have aN:=TF a.fJ j t;have am:=Wp a.fJ j t;have ad:=O4 ai;have ak:=O4 aZ;have au:=O4 aY;have aK:Tr.f1 (a.fJ.take j)+(a.fJ[j]).count<=Tr.f1 a.fJ:=zY
    have d:=aS.out a.fJ[j] O9 f[j] (bz+1+Tr.f1 (a.fJ.take j)) wr a1 l O9;have aG:=Y am;have b{G}(h:G:=by
    have bo:a.fJ.length<=100000:=by have:=Tq a.fJ;omega
    clear ac aN am ad ak au aK D;go_wp2_with fail;refine cm d ?_;rintro m bu ⟨rfl,aD,aI⟩;have aF:=o.next aI;clear p;go_wp2
    go_roundw
    case rel=>exact⟨j+1,by omega,by go_num,by rw[aG.out];have:=aD;rw[lj] at this;exact this,aF⟩
    case measure=>simp[intOf];omega):=O6 h;exact yR):=O6 h;exact UM
   ·have k:j=a.fJ.length:=O9;subst k;go_wp2
    go_end0
    refine⟨rfl,?_,o⟩;have:=l;rw[gO] at this;rw[ai.out,<-lj];exact this):=O6 h;exact un
abbrev SQ (b:Nat)(d:Pe)(c:Px)(a:List Py):Prop:=d.ownsRow b 9 1 c a.length (a.map Value.string)
def jI:(prog.info? 9).map (λa=>(a.zero,a.size,a.bytes))=some (some (Pj ByteArray.empty),1,16):=by kernel_rfl
def PW {i:Pe}{d f g b:Nat}{c:Px}{j:List Px}(h:i.ownsRow d f g c b j):∃ e a,c=.slice e b a:=by
 rcases h.2 with ⟨rfl,rfl⟩|⟨l,a,k,rfl,_⟩
 ·exact⟨none,0,rfl⟩
 ·exact⟨_,a,rfl⟩
def Zb (a:Nat)(b:Pe):SQ a b Q8 []:=⟨rfl,fM ⟨rfl,rfl⟩⟩
def Vg {f:Nat}{e:Pe}{i:Px}{c:List Py}(h:SQ f e i c)(b:Nat)(j:b<c.length):∃ a d,i=.slice (some (O7 a 0)) c.length d/\a<e.heap.size/\f<=a/\e.cell? (O7 a b)=some (Pj c[b]):=by
 obtain⟨a,d,rfl,_,_⟩:=h.form O9;have g:=QD h a rfl;refine⟨a,d,rfl,g.1,g.2,?_⟩;rw[h.cellAt b O9];simp[j]
def Lr (c:List Py):∀ a ∈ c.map Value.string,a.oneCell'=true:=by
 intro a b;obtain⟨d,_,rfl⟩:=hy.1 b;rfl
def Zc (a:Pe)(c:Py)(H:Nat)(h:a.heap.size=H):∀ b e,[Value.string c][b]? = some e->(a.alloc (.cells #[Pj c] 9)).cell? (((O7 H 0):Addr).add b)=some e:=by
 subst h;intro b e d
 match b with
 | 0=>
  simp only[mO,hc] at d;subst d
  show (a.alloc (.cells #[Pj c] 9)).cell? (O7 a.heap.size (0+0))=_
  rw[cell_of (Ph a (.cells #[Pj c] 9))];rfl
 | f+1=>simp at d
def qw (c:Py):∀ a ∈ [Value.string c],a.oneCell'=true:=by
 intro a b;rw[gc.1 b];rfl
def hasB (a:List Py)(b:Py):Bool:=a.any (λx=>decide (b=x))
def KD {a:List Py}{b:Py}:hasB a b=true↔b ∈ a:=by simp[hasB]
def av7 {a:List Py}{b:Py}:hasB a b=false↔b ∉ a:=by rw[<-KD];simp
def l8 (a:List Py)(b:Py):List Py:=if hasB a b then a else a++[b]
def XY (a:List Py):List Py:=a.foldl l8 []
section
variable {o:Nat} (c:List Py) (d:Py) (g:Px) (e:Pe) (h:SQ o e g c) (p:c.length<=100000)
include o c d g e h p
def aoD :
  Pq 179 #[g,Pj d] e λu r=>(∃ a:Int,u=PK (O3 a)/\decide (0<=a)=hasB c d)/\r=e:=by
 obtain⟨F,A,rfl⟩:=PW h;have q:=h;clear h;go_enter func179,ntmps179;go_wp2_with fail
 go_loopw [8] (λk wr=>∃ a:Nat,a<=c.length/\k=O3 a/\d ∉ c.take a/\wr=e) (λk _=>c.length - (intOf k).toNat)
 case atStart=>exact⟨0,f3 _,rfl,by simp,rfl⟩
 case round=>
  obtain⟨a,v,rfl,n,rfl⟩:=hrel;have m:=Y n;clear n
  by_cases l:a<c.length
  ·obtain⟨D,z,B,E,_,s⟩:=Vg q a l;have b{G}(h:G:=by
   have C:(a:Int)<(c.length:Int):=O9;obtain⟨x,j⟩:=xH (c[a]);rw[<-j.out] at s
   by_cases i:d=x
   ·subst i;go_wp2;go_ret;refine⟨⟨a,rfl,?_⟩,rfl⟩;rw[g4 O9,eq_comm,KD,j.out];exact gT _
   ·have w:=pt i;have t:=Y i;clear i;go_wp2
    go_roundw
    case rel=>
     refine⟨a+1,by omega,by go_num,?_,trivial⟩;rw[g3 l];intro f
     rcases gU.1 f with f|f
     ·exact O4 m f
     ·exact O4 t (by rw[j.out];exact gc.1 f)
    case measure=>simp[intOf];omega):=O6 h;exact UM
  ·have b:a=c.length:=O9;subst b;go_wp2;go_ret;refine⟨⟨-1,rfl,?_⟩,rfl⟩;have h:=O4 m;rw[gO] at h;rw[av7.2 h];rfl
def WQ :
  Pq 88 #[g,Pj d] e λb f=>b=PK (Pv (hasB c d))/\f=e:=by
 have i:=aoD c d g e h p;clear h;go_enter func88,ntmps88;go_wp2_with fail;refine cm i ?_;rintro b l ⟨⟨k,rfl,a⟩,rfl⟩;have j:=Y a;clear a;go_wp2;go_ret;exact⟨UR j.out,rfl⟩
end
def kV {α:Type}(b:List α)(a:Nat)(c:a<b.length):b.take (a+1)=b.take a++[b[a]]:=g3 c
def aoE (b:List Py)(a:Nat)(c:a<b.length):XY (b.take (a+1))=l8 (XY (b.take a)) b[a]:=by
 rw[kV b a c,XY,iM];rfl
def s8 (a:List Py):(XY a).length<=a.length:=by
 have:∀ (a b:List Py),(a.foldl l8 b).length<=b.length+a.length:=by
  intro a
  induction a with
  | nil=>intro b;simp
  | cons x a c=>
   intro b;have h:=c (l8 b x);have d:(l8 b x).length<=b.length+1:=by unfold l8;split <;> simp
   simp only[k1,gL];omega
 simpa[XY] using this a []
def GE {E:Nat}(a:List Py)(A:Px)(e:Pe)(h:SQ E e A a)(ay:a.length<=90000) :
  Pq 121 #[A] e λd v=>(∃ b,d=PK b/\SQ e.heap.size v b (XY a))/\Pn e v:=by
 obtain⟨X,P,R,M,N⟩:=gY jI;obtain⟨aC,ap,rfl⟩:=PW h;have D:=h;clear h;go_enter func121,ntmps121;go_wp2_with fail
 go_loopw [3,8] (λb t wr=>∃ j:Nat,j<=a.length/\t=O3 j/\SQ e.heap.size wr b (XY (a.take j))/\Pn e wr) (λ_ t _=>a.length - (intOf t).toNat)
 case atStart=>exact⟨0,f3 _,rfl,Zb _ _,RP⟩
 case round=>
  obtain⟨j,ad,rfl,z,c⟩:=hrel;have l:=z;obtain⟨H,U,rfl⟩:=PW z
  by_cases w:j<a.length
  ·obtain⟨q,am,B,s,_,o⟩:=Vg D j w;have b{G}(h:G:=by
   have au:(j:Int)<(a.length:Int):=O9;obtain⟨x,p⟩:=xH (a[j]);rw[<-p.out] at o;have ai:wr.cell? (O7 q j)=some (Pj x):=by rw[c.cell (p:=(O7 q j)) s];exact o
   have C:=Y (aoE a j w);have u:=s8 (a.take j);rw[hC] at u;obtain⟨g,k⟩:=xH (XY (a.take j));rw[<-k.out] at u;have m:SQ e.heap.size wr (.slice H g.length U) g:=by
    have h:=l;rw[<-k.out] at h;exact h
   rw[<-k.out];have ah:g.length<=j:=O9;have i:=WQ g x _ wr m O9;have ak:q<wr.heap.size:=hn s c.size;have O:=c.size;clear o s u
   cases f:hasB g x with
   | true=>
    rw[f] at i;have n:=Y f;clear f;have b{G}(h:G:=by
    go_wp2
    go_roundw
    case rel=>
     refine⟨j+1,by omega,by go_num,?_,c⟩;rw[C.out,<-k.out,<-p.out,l8,fL n.out];exact m
    case measure=>simp[intOf];omega):=O6 h;exact mj
   | false=>
    rw[f] at i;have n:=Y f;clear f;have b{G}(h:G:=by
    go_wp2_with (at_builtin;refine wpList_append_lies _ rfl _ _ 26 rfl e.heap.size 9 X (Pj ByteArray.empty) 1 16 ju P R M N rfl Pm _ _ _ rfl (m.alloc _) (O7 r.heap.size 0) 1 1 [Pj x] rfl rfl (Zc r x _ rfl) (qw x) Pm (by unfold maxLen;omega) O9 RQ (r.heap.size+1) P7 ?_)
    intro ax ac aj hown' W T _;have S:=(c.alloc O (.cells #[Pj x] 9)).grown W RQ (λI F=>(QD m I F).2);clear T;go_wp2
    go_roundw
    case rel=>
     refine⟨j+1,by omega,by go_num,?_,S⟩;rw[C.out,<-k.out,<-p.out,l8,fK (by rw[n.out];decide)]
     have h:=hown';refine mD ?_;rw[gj,gM];exact h
    case measure=>simp[intOf];omega):=O6 h;exact mj):=O6 h;exact UM
  ·have b:j=a.length:=O9;exact LU
abbrev TV (c:Pe)(b:Tr)(a:Nat):Prop:=Qa (λ_=>True) c b a
def U6 (c:Nat)(b:Pe)(e:Px)(d:List Tr):Prop:=∃ a:List Nat,b.ownsRow c 22 1 e a.length (a.map O5)/\Xa (λ_=>True) b d a
def Below.gx {c:Nat->Prop}{b a:Pe}(h:Pn b a):Vh c b a:=λd _ e=>h.block d e
def Qa.nt {d:Nat->Prop}{c:Pe}{b:Tr}{a:Nat}(h:Qa d c b a):TV c b a:=Qa.mono (λ_ _ _=>trivial) _ _ h
def TV.fH {w w':Pe}{b:Tr}{a:Nat}(h:TV w b a)(c:Pn w w'):TV w' b a:=Qa.fH (Below.gx c) _ _ h
def U6.fH {a:Nat}{w w':Pe}{d:Px}{c:List Tr}(h:U6 a w d c)(b:Pn w w'):U6 a w' d c:=by
 obtain⟨g,f,e⟩:=h;exact⟨g,Rt (a:=λ_=>True) (Below.gx b) (λ_ _=>trivial) f,Xa.fH (Below.gx b) _ _ e⟩
def SQ.fH {a:Nat}{w w':Pe}{c:Px}{b:List Py}(h:SQ a w c b)(d:Pn w w'):SQ a w' c b:=Rt (a:=λ_=>True) (Below.gx d) (λ_ _=>trivial) h
section
variable {j:Nat} {d:Pe} {e:Px} {c:List Tr} (h:U6 j d e c)
include j d e c h
def U6.form:∃ b f,e=.slice b c.length f:=by
 obtain⟨i,g,a⟩:=h;rw[<-Xa.length _ _ a];exact TK g
def U6.cell (b:Nat)(k:b<c.length):∃ a f p,e=.slice (some (O7 a 0)) c.length f/\a<d.heap.size/\d.cell? (O7 a b)=some (O5 p)/\TV d c[b] p:=by
 obtain⟨q,i,g⟩:=h;have o:=Xa.length _ _ g;obtain⟨a,f,rfl,l⟩:=TG i O9;obtain⟨m,n⟩:=Xa.get _ _ g b k;exact⟨a,f,q[b],by rw[o],(QD i a rfl).1,l b m,n⟩
end
def TV.cells {a:Pe}{c:Tr}{b:Nat}(h:TV a c b):b<a.heap.size/\a.cell? (O7 b 0)=some (O3 c.kd)/\a.cell? (O7 b 1)=some (Pj c.tx)/\∃ d,a.cell? (O7 b 3)=some d/\U6 0 a d c.fJ:=by
 obtain⟨d,l,e,g,_,f⟩:=Qa.Uf h;obtain⟨i,j,_,k,_⟩:=fZ e;exact⟨fI e,i,j,d,k,l,g,PE.nl _ _ f⟩
def OL (a:Pe)(c:Nat)(H:Nat)(h:a.heap.size=H):∀ b e,[O5 c][b]? = some e->(a.alloc (.cells #[O5 c] 22)).cell? (((O7 H 0):Addr).add b)=some e:=by
 subst h;intro b e d
 match b with
 | 0=>
  simp only[mO,hc] at d;subst d
  show (a.alloc (.cells #[O5 c] 22)).cell? (O7 a.heap.size (0+0))=_
  rw[cell_of (Ph a (.cells #[O5 c] 22))];rfl
 | f+1=>simp at d
def arn (c:Nat):∀ a ∈ [O5 c],a.oneCell'=true:=by
 intro a b;rw[gc.1 b];rfl
def HE {v:Nat}(a:List Tr)(t:Px)(w:Pe)(h:U6 v w t a)(R:a.length<=90000) :
  Pq 164 #[t] w λC k=>(∃ b,C=PK b/\SQ w.heap.size k b (a.map Tr.tx))/\Pn w k:=by
 obtain⟨aK,aD,aF,ax,ay⟩:=gY jI;obtain⟨T,I,rfl⟩:=h.form;have u:=h;clear h;go_enter func164,ntmps164;go_wp2_with fail
 go_loopw [3,8] (λb g wr=>∃ j:Nat,j<=a.length/\g=O3 j/\SQ w.heap.size wr b ((a.take j).map Tr.tx)/\Pn w wr) (λ_ g _=>a.length - (intOf g).toNat)
 case atStart=>exact⟨0,f3 _,rfl,Zb _ _,RP⟩
 case round=>
  obtain⟨j,E,rfl,s,c⟩:=hrel;have l:=s;obtain⟨n,r,rfl⟩:=PW s
  by_cases p:j<a.length
  ·obtain⟨O,H,S,B,P,F,z⟩:=(u.fH c).cell j p;have b{G}(h:G:=by
   obtain⟨M,_,A,_⟩:=z.cells;have N:(j:Int)<(a.length:Int):=O9;obtain⟨x,q⟩:=xH ((a[j]).tx);rw[<-q.out] at A;have aC:=c.size;obtain⟨d,f⟩:=xH ((a.take j).map Tr.tx);have e:d.length=j:=by rw[f.out];simp;omega
   rw[<-f.out] at l ⊢;have o:World.ownsRow wr w.heap.size 9 1 (.slice n j r) j (d.map Value.string):=by
    have h:World.ownsRow wr w.heap.size 9 1 (.slice n d.length r) d.length (d.map Value.string):=l;rw[e] at h;exact h
   rw[e];have D:=Y e;clear e;have b{G}(h:G:=by
   clear aI;go_wp2
   go_roundw
   case rel=>
    refine⟨j+1,by omega,by go_num,?_,aG⟩;rw[g3 p,gM,<-f.out];refine mD ?_;rw[gj,gM,D.out]
    show World.ownsRow _ _ _ _ _ _ (_++[Value.string (a[j]).tx])
    rw[<-q.out];exact hown'
   case measure=>simp[intOf];omega):=O6 h;exact E6):=O6 h;exact UM
  ·have b:j=a.length:=O9;exact LU
def aro (d:Tr)(b:Nat)(w:Pe)(h:TV w d b):Pq 120 #[O5 b] w λm f=>(∃ a,m=PK a/\U6 0 w a d.fJ)/\f=w:=by
 obtain⟨i,_,_,a,g,X⟩:=h.cells;obtain⟨ua,uc,rfl⟩:=X.form;clear h;go_enter func120,ntmps120;go_wp2;go_ret;exact⟨⟨_,rfl,X⟩,rfl⟩
abbrev uU (a:Nat):Px:=.func (.func a) #[] #[]
def K5 (C:Nat)(p:Tr->Bool)(aD:WM C)
  (F:∀ f n a,TV a f n->Pq C #[O5 n] a λd v=>d=PK (Pv (p f))/\v=a)
  (f:Tr) (n:Nat) (q:Pe) (h:TV q f n) (ad:f.fJ.length<=90000) :
  Pq 129 #[O5 n,uU C] q λd v=>(∃ o,d=PK o/\U6 q.heap.size v o (f.fJ.filter p))/\Pn q v:=by
 obtain⟨W,R,S,O,P⟩:=gY hV;have s:=aro f n q h;have ac:=Y F;clear h F
 generalize N:f.fJ=c at s ad
 clear N f;have b{G}(h:G:=by
 go_loopw [5,11] (λe D wr=>∃ (a:Nat) (j:List Nat),a<=c.length/\D=O3 a/\wr.ownsRow l.heap.size 22 1 e j.length (j.map O5)/\Xa (λ_=>True) l ((c.take a).filter p) j/\Pn l wr) (λ_ D _=>c.length - (intOf D).toNat)
 case atStart=>exact⟨0,[],f3 _,rfl,⟨rfl,fM ⟨rfl,rfl⟩⟩,Xa.nil,RP⟩
 case round=>
  obtain⟨a,j,ah,rfl,L,w,e⟩:=hrel;have k:=L;obtain⟨ai,aC,rfl⟩:=TK L;have H:=Xa.length _ _ w
  by_cases E:a<c.length
  ·obtain⟨u,ay,g,B,U,t,M⟩:=z.cell a E;have b{G}(h:G:=by
   have b{G}(h:G:=by
   have i:=O4 ac c[a] g wr (M.fH e);have I:=Y (g3 E);have ax:u<wr.heap.size:=O9;have aF:j.length<=a:=by rw[H];have:=hp p (c.take a);rw[hC] at this;omega
   have X:=Y (QD k);clear t H
   cases m:p c[a] with
   | true=>
    rw[m] at i;have A:=Y m;clear m;have b{G}(h:G:=by
    have b{G}(h:G:=by
    go_roundw
    case rel=>
     refine⟨a+1,j++[g],by omega,by go_num,?_,?_,T⟩
     ·rw[gj,gM];exact hown'
     ·rw[I.out,lx];simp only[ia,A.out,lG,hz];exact Xa.append (Xa.cons M Xa.nil) _ _ w
    case measure=>simp[intOf];omega):=O6 h;exact Cr):=O6 h;exact mj
   | false=>
    rw[m] at i;have A:=Y m;clear m;have b{G}(h:G:=by
    go_wp2
    go_roundw
    case rel=>
     refine⟨a+1,j,by omega,by go_num,k,?_,e⟩;rw[I.out,lx];simp only[ia,A.out,lG,iI,iC,i8];exact w
    case measure=>simp[intOf];omega):=O6 h;exact mj):=O6 h;exact Jr):=O6 h;exact UM
  ·have g:a=c.length:=O9;subst g;go_wp2;go_ret;have h:=w;rw[gO] at h;exact⟨⟨_,rfl,j,k,Xa.fH (Below.gx e) _ _ h⟩,e⟩):=O6 h;exact A9
def Bf:WM 130:=λ_ _=>by kernel_rfl
def Bw:WM 163:=λ_ _=>by kernel_rfl
def SH (a:Tr):Bool:=a.kd==5
def Qk (a:Tr):Bool:=a.kd==3||a.kd==4
def QU (a:Tr):Bool:=a.kd==5||a.kd==37
section
variable (b:Tr) (c:Nat) (a:Pe) (h:TV a b c)
include b c a h
def Dx:Pq 130 #[O5 c] a λe d=>e=PK (Pv (SH b))/\d=a:=by
 obtain⟨g,f,_,_⟩:=h.cells;clear h;go_enter func130,ntmps130;go_wp2;go_ret;exact⟨rfl,rfl⟩
def F6:Pq 163 #[O5 c] a λf d=>f=PK (Pv (Qk b))/\d=a:=by
 obtain⟨j,e,_,_⟩:=h.cells;clear h;unfold Qk
 generalize b.kd=g at e
 cases i:(g==3)
 all_goals
  go_enter func163,ntmps163;go_wp2;go_ret;exact⟨rfl,rfl⟩
def aoF:Pq 119 #[O5 c] a λf d=>f=PK (Pv (QU b))/\d=a:=by
 obtain⟨j,e,_,_⟩:=h.cells;clear h;unfold QU
 generalize b.kd=g at e
 cases i:(g==5)
 all_goals
  go_enter func119,ntmps119;go_wp2;go_ret;exact⟨rfl,rfl⟩
end
def Uj (a:Tr):List Tr:=a.fJ.filter SH
def Qd (a:Tr):List Tr:=a.fJ.filter Qk
section
variable (b:Tr) (d:Nat) (w:Pe) (h:TV w b d) (g:b.fJ.length<=90000)
include b d w h g
def yZ :
  Pq 59 #[O5 d] w λm i=>(∃ a,m=PK a/\U6 w.heap.size i a (Uj b))/\Pn w i:=by
 have f:=K5 130 SH Bf Dx b d w h g;clear h;go_enter func59,ntmps59;exact tq
def xm :
  Pq 77 #[O5 d] w λm i=>(∃ a,m=PK a/\U6 w.heap.size i a (Qd b))/\Pn w i:=by
 have f:=K5 163 Qk Bw F6 b d w h g;clear h;go_enter func77,ntmps77;exact tq
end
def ownVar (a:Tr):List Py:=if a.kd==2 then [a.tx] else []
mutual
def vw:Tr->List Py
 | .mk a c _ b=>(if a==2 then [c] else [])++(if a==5||a==37 then [] else YP b)
def YP:List Tr->List Py
 | []=>[]
 | a::b=>vw a++YP b
end
def sF (a:Tr):vw a=ownVar a++(if QU a then [] else YP a.fJ):=by
 cases a with
 | mk b e d c=>rw[vw];rfl
def Ek:∀ b a:List Tr,YP (b++a)=YP b++YP a
 | [],a=>by simp[YP]
 | c::b,a=>by simp[YP,Ek b a]
def KL (b:List Tr)(a:Nat)(c:a<b.length):YP (b.take (a+1))=YP (b.take a)++vw b[a]:=by
 rw[g3 c,Ek];simp[YP]
mutual
def R8:∀ a:Tr,(vw a).length<=a.count
 | .mk c e d b=>by
  have h:=Zv b;rw[vw,fW]
  split <;> split <;> simp <;> omega
def Zv:∀ a:List Tr,(YP a).length<=Tr.f1 a
 | []=>by simp[YP]
 | b::a=>by
  have d:=R8 b;have c:=Zv a;rw[YP,PS];simp;omega
end
structure oH (b B:Nat)(l:List Py)(w:Pe):Prop where
 lt:b<B
 sz:B<=w.heap.size
 own:∃ v,w.heap[b]? = some (PZ #[v] 26)/\SQ B w v l
def M4 {a b c k g:Nat}{d:List Py}{l:Py}{e f:Pe}{i:Px}(t:a<b)(n:b<=e.heap.size)(s:e.heap[a]? = some (PZ #[i] 26))(z:e.ownsRow b 9 1 i d.length (d.map Value.string))(w:g=d.length+1)
  (q:f.ownsRow b 9 1 (.slice (some (O7 c 0)) g k) g (d.map Value.string++[Pj l])) (m:(e.alloc (.cells #[Pj l] 9)).grownBy f i.ownBlock) :
  oH a b (d++[l]) (f.setCell (O7 a 0) (.slice (some (O7 c 0)) g k))/\Ap a b e (f.setCell (O7 a 0) (.slice (some (O7 c 0)) g k)):=by
 subst w;have o:∀ j,i.ownBlock=some j->b<=j:=λj r=>(QD z j r).2;have p:Ap a b e (f.setCell (O7 a 0) (.slice (some (O7 c 0)) (d.length+1) k)):=(((Ap.refl a b e).alloc n _).grown m RQ o).setCell (p:=(O7 a 0)) (fU rfl) _;have v:f.heap[a]? = some (PZ #[i] 26):=by
  rw[m.block a RQ (λu=>by have:=o a u.symm;omega),gd _ _ _ O9]
  exact s
 have B:b<=c:=(QD q c rfl).2;refine⟨⟨t,f9 n p.size,_,by rw[gi v];rfl,?_⟩,p⟩
 refine mD ?_;rw[show (d++[l]).length=d.length+1 by simp,gM];exact Rt (a:=λx=>x=c) (λx u _=>g1 f (O7 a 0) _ x (by have A:x=c:=u;show x≠a;omega)) (λy u=>by simpa[Value.ownBlock] using u.symm) q
def zc {G goal:Prop}(b:G->goal)(a:G):goal:=b a
def Rg {a f g:Nat}{l:List Py}{b:Tr}{w:Pe}(ac:oH a f l w)(s:Qa (λx=>x<f/\x≠a) w b g)(aW:l.length<=100000) :
  Pq 118 #[O5 g,PL a 0] w λk p=>k=PK (Pv (!QU b))/\oH a f (l++ownVar b) p/\Ap a f w p:=by
 obtain⟨aG,aC,aD,ap,ax⟩:=gY jI;have aS:g<f/\g≠a:=by
  cases b with
  | mk D o c e=>rw[Qa] at s;exact s.1
 have C:∀ i,Ap a f w i->Hid (Pq 119 #[O5 g] i λk p=>k=PK (Pv (QU b))/\p=i):=λi q=>aoF b g i (Qa.nt (Qa.fH (λx c _=>q.block x c.1 c.2) _ _ s));obtain⟨aV,H,I,_⟩:=(Qa.nt s).cells;have aO:=ac;obtain⟨ah,aj,v,m,t⟩:=ac;obtain⟨ad,N,rfl⟩:=PW t;have M:w.cell? (O7 a 0)=some (.slice ad l.length N):=by rw[cell_of m];rfl
 have T:=TB m 0;have aI:=fI m;have F:=Y m;obtain⟨o,A⟩:=xE b.tx;obtain⟨D,z⟩:=xE b.kd;obtain⟨aX,E⟩:=xE (QU b);rw[<-A] at I;rw[<-z] at H;rw[<-E];have ai:Hid (ownVar b=if D==2 then [o] else []):=by rw[A,z];rfl
 rw[ai.out];simp only[<-E] at C;clear m A z E
 cases aQ:(D==2) with
 | false=>
  have d:=C w (Ap.refl _ _ _);go_enter func118,ntmps118;go_wp2_with fail;refine YL ?_;rintro k aN ⟨rfl,rfl⟩;go_wp2;go_ret;exact⟨rfl,by simpa using aO,Ap.refl _ _ _⟩
 | true=>
  go_enter func118,ntmps118;go_wp2_with fail;refine zc (G:=?G1) (λB=>?_) ?_;rotate_left
  ·refine qe ?_;refine wt 1 (O5 g) ?_;refine wt 2 (O5 g) ?_;refine wt 3 (PL g 1) ?_;refine hJ 0 4 (λK c=>?_) (λK c=>?_)
   ·go_simp;refine c _ _ ?_;clear c K;refine wbZ 4 ?_;refine wbZ 5 ?_;refine Uw (listed':=tf 6 2) Qs rfl ?_;exact B
   ·go_simp;refine c _ _ ?_;clear c K;refine hJ 0 5 (λK c=>?_) (λK c=>?_)
    ·go_simp;refine c _ _ ?_;clear c K;refine wbZ 5 ?_;exact Uw (listed':=tf 6 2) Qs Qs B
    ·go_simp;refine c _ _ ?_;clear c K;refine wbZ 0 ?_;exact Uw (listed':=tf 6 2) Qs Qs B
  ·refine WL 6 λK c=>?_;refine step_append_lies _ rfl _ _ 26 rfl f 9 aG (Pj ByteArray.empty) 1 16 ju aC aD ap ax rfl Pm _ _ _ rfl ((t:World.ownsRow w.drew f 9 1 _ _ _).alloc _) (O7 w.heap.size 0) 1 1 [Pj o] rfl rfl (Zc w.drew o _ rfl) (qw o) Pm (by unfold maxLen;omega) O9 RQ (w.heap.size+1) P7 ?_
   intro ay au e aF O _ _;refine c _ _ ?_;clear c K;have aK:=Y (M4 (e:=w.drew) ah aj F.out t rfl aF O);have r:e.heap[a]? = w.heap[a]?:=(O.block a RQ (λk=>by have:=(QD t a k.symm).2;omega)).trans (gd w.drew _ a aI)
   have am:e.cell? (O7 a 0)=some (.slice ad l.length N):=(gs (w:=w) r).trans M;have aJ:e.frozen? (O7 a 0)=false:=(g6 (w:=w) r).trans T;have ak:a<e.heap.size:=fI (r.trans F.out);clear r M T;refine WL 7 λK c=>?_;go_simp;refine c _ _ ?_;clear c K am aJ ak;refine ha Qs ?_ _;go_simp;obtain⟨U,S⟩:=O4 aK;obtain⟨i,q⟩:=xE (e.setCell (O7 a 0) (.slice (some (O7 ay 0)) (l.length+1) au));rw[<-q] at U S ⊢;have R:=(Ap.refl a f w).drew.trans S;clear q H I
   have d:=C i R;go_wp2_with fail;refine YL ?_;rintro k aN ⟨rfl,rfl⟩;go_wp2;go_ret;exact⟨rfl,U,R⟩
def As {b a:Nat}{e:Pe}{d:Px}{c:List Py}(h:SQ b e d c)(m:a<=b):SQ a e d c:=by
 refine⟨h.1,?_⟩
 rcases h.2 with g|⟨k,j,i,f,l,rest⟩
 ·exact fM g
 ·exact fU ⟨k,j,i,f,by omega,rest⟩
abbrev CO (a:Nat):Px:=.func (.func 118) #[] #[PL a 0]
def CT:WM 118:=λ_ _=>by kernel_rfl
def MY (N k:Nat):∀ (A:Nat) (a:Tr),a.count<=A->∀ (o:Nat) (q:List Py) (w:Pe),Qa (λx=>x<k/\x≠N) w a o->oH N k q w->q.length+a.count<=90000 ->
  Pq 36 #[O5 o,CO N] w λm W=>m=PK (.tuple #[])/\oH N k (q++vw a) W/\Ap N k w W:=by
 intro A
 induction A with
 | zero=>
  exact tl
 | succ A ai=>
  intro a g o q w t a1 aj;obtain⟨bE,f,I,T,aD,ap⟩:=t.Uf;have ax:=PE.length _ _ ap;have ac:o<k/\o≠N:=by
   cases a with
   | mk a7 r a6 bc=>rw[Qa] at t;exact t.1
  have b{G}(h:G:=by
  obtain⟨_,_,_,am,_⟩:=fZ I;obtain⟨ua,uc,aI⟩:=TK T;subst aI;have bC:=CT;have bB:∀ E:Pe,(binOp .eql 47 (CO N) .nilFunc).run prog E=.ok (Pv false) E:=λE=>by kernel_rfl
  have d:=Rg a1 t O9;have bo:=Y aD;have aZ:=Y ai;have ba:=Y z;have bh:=Y g;have bf:=Y aj;have aN:=Y am;have be:=Y (fI I);have aC:=Y ac;have ah:=Y ax;have C:=Y (sF a);have bj:Hid ((ownVar a).length<=1):=by show _<=_;unfold ownVar;split <;> simp
  clear aD ai z g aj I am ac ax
  cases l:QU a with
  | true=>
   rw[l] at d C;clear l;have b{G}(h:G:=by
   have U:=s;have H:=i;go_wp2_with fail;exact Vm (v:=.tuple #[]) ⟨rfl,by rw[C.out];simpa using U,H⟩):=O6 h;exact tg
  | false=>
   rw[l] at d C;clear l;have b{G}(h:G:=by
   have aQ:=(i.cell (p:=(O7 o 3)) aC.out.1 aC.out.2).trans aN.out;rw[ah.out] at aQ;have bu:o<au.heap.size:=hn be.out i.size;have U:=s;have H:=i;go_wp2_with fail
   go_loopw [23] (λn wr=>∃ j:Nat,j<=a.fJ.length/\n=O3 j/\oH N k (q++ownVar a++YP (a.fJ.take j)) wr/\Ap N k w wr) (λn _=>a.fJ.length - (intOf n).toNat)
   case atStart=>exact⟨0,f3 _,rfl,by simpa[YP] using U,H⟩
   case round=>
    obtain⟨j,br,rfl,M,e⟩:=hrel
    by_cases F:j<a.fJ.length
    ·obtain⟨c,bv,B,O⟩:=TG T (by rw[ah.out];omega)
     have b{G}(h:G:=by
     obtain⟨aO,aY⟩:=PE.get _ _ ap j F;have aF:=O4 bo c rfl;have p:wr.cell? (O7 c j)=some (O5 f[j]):=by
      rw[e.cell (p:=(O7 c j)) aF.1 aF.2];exact O j aO
     have a8:Qa (λx=>x<k/\x≠N) wr a.fJ[j] f[j]:=Qa.fH (λx l D=>e.block x l.1 l.2) _ _ aY;have bx:c<wr.heap.size:=hn (QD T c rfl).1 e.size;have bn:=Wp a.fJ j F;have aG:=KL a.fJ j F;have bq:=Zv (a.fJ.take j);have ad:=O4 ba;have ak:=O4 bh;have aK:=O4 bf;have aJ:=O4 bj;have aX:Tr.f1 (a.fJ.take j)+(a.fJ[j]).count<=Tr.f1 a.fJ:=zY
     have d:=aZ.out a.fJ[j] O9 f[j] _ wr a8 M (by rw[gj,gj];omega)
     have bm:=Y aG;have b{G}(h:G:=by
     have bD:a.fJ.length<=100000:=by have:=Tq a.fJ;omega
     clear O bn ad ak aK aJ aX D aG bq;go_wp2_with fail;refine cm d ?_;rintro m bF ⟨rfl,aS,aW⟩;have aV:=e.trans aW;clear p;go_wp2
     go_roundw
     case rel=>exact⟨j+1,by omega,by go_num,by rw[bm.out,<-iq];exact aS,aV⟩
     case measure=>simp[intOf];omega):=O6 h;exact yR):=O6 h;exact UM
    ·have c:j=a.fJ.length:=O9;subst c;go_wp2
     go_end0
     refine⟨rfl,?_,e⟩;rw[gO] at M;rw[C.out,<-iq];exact M):=O6 h;exact tg):=O6 h;exact un
def aoI {b e d:Nat}{c:Option Addr}{a:Pe}(i:a.cell? (O7 b 3)=some (.slice c e d)):Pq 120 #[O5 b] a λg f=>g=PK (.slice c e d)/\f=a:=by
 go_enter func120,ntmps120;go_wp2;go_ret;exact⟨rfl,rfl⟩
def Qv (a:Tr):List Py:=XY (YP a.fJ)
def XR (a:Tr)(g:Nat)(w:Pe)(h:TV w a g)(I:a.count<=80000) :
  Pq 54 #[O5 g] w λm F=>(∃ s,m=PK s/\SQ w.heap.size F s (Qv a))/\Pn w F:=by
 have aG:Qa (λx=>x<w.heap.size) w a g:=Qa.mono (λN _ W=>W) _ _ h;obtain⟨o,k⟩:=xE (w.alloc (.cells #[Q8] 26));have l:Pn w o:=by rw[k];exact QJ
 have ac:o.heap.size=w.heap.size+1:=by rw[k];simp
 have aQ:oH w.heap.size (w.heap.size+1) [] o:=⟨by omega,by omega,_,by rw[k];exact Ph _ _,Zb _ _⟩
 have b{G}(h:G:=by
 obtain⟨s,f,A,E,aN,T⟩:=aG.Uf;have C:=PE.length _ _ T;obtain⟨ua,uc,au⟩:=TK E;subst au;obtain⟨_,_,_,R,_⟩:=fZ A;have M:=aoI (a:=o) (b:=g) ((gs (w:=w) (a:=(O7 g 3)) (l.block g (fI A))).trans R);rw[C] at M;have ap:=Y ac;have ah:=Y z;have H:=Y I;have am:=Y C;have ba:=CT;have be:a.fJ.length<=100000:=by have:=Tq a.fJ;omega
 clear h aN A R z I C ac;go_enter func54,ntmps54;go_wp2_with fail;rw[<-k];refine cm M ?_;rintro m aW ⟨rfl,rfl⟩;clear k;go_wp2_with fail
 go_loopw [11] (λn wr=>∃ j:Nat,j<=a.fJ.length/\n=O3 j/\oH w.heap.size (w.heap.size+1) (YP (a.fJ.take j)) wr/\Ap w.heap.size (w.heap.size+1) aW wr) (λn _=>a.fJ.length - (intOf n).toNat)
 case atStart=>exact⟨0,f3 _,rfl,by simpa[YP] using aQ,Ap.refl _ _ _⟩
 case round=>
  obtain⟨j,aZ,rfl,q,i⟩:=hrel;have ai:=q
  by_cases t:j<a.fJ.length
  ·obtain⟨c,a8,B,U⟩:=TG E (by rw[am.out];omega)
   have b{G}(h:G:=by
   obtain⟨ax,aK⟩:=PE.get _ _ T j t;have aC:c<w.heap.size:=(QD E c rfl).1;have p:wr.cell? (O7 c j)=some (O5 f[j]):=by
    rw[i.cell (p:=(O7 c j)) (by show c<_;omega) (by show c≠_;omega),gs (w:=w) (a:=(O7 c j)) (l.block c aC)];exact U j ax
   have aO:Qa (λx=>x<w.heap.size+1/\x≠w.heap.size) wr a.fJ[j] f[j]:=
    Qa.mono (λx e _=>⟨by have ad:x<w.heap.size:=e;omega,by have ad:x<w.heap.size:=e;omega⟩) _ _ (Qa.fH (I:=λx=>x<w.heap.size) (λx e W=>(i.block x (by have ad:x<w.heap.size:=e;omega) (by have ad:x<w.heap.size:=e;omega)).trans (l.block x e)) _ _ aK)
   have a1:c<wr.heap.size:=by have:=i.size;have:=O4 ap;omega
   have aV:=Wp a.fJ j t;have aj:=KL a.fJ j t;have aY:=Zv (a.fJ.take j);have ad:=O4 ah;have ak:=O4 H;have aJ:Tr.f1 (a.fJ.take j)+(a.fJ[j]).count<=Tr.f1 a.fJ:=zY
   have d:=MY w.heap.size (w.heap.size+1) (a.fJ[j]).count a.fJ[j] Qp f[j] _ wr aO ai O9;have aS:=Y aj;have b{G}(h:G:=by
   clear U aV ad ak aJ D aj aY;go_wp2_with fail;refine cm d ?_;rintro m aX ⟨rfl,aD,aI⟩;have aF:=i.trans aI;clear p;go_wp2
   go_roundw
   case rel=>exact⟨j+1,by omega,by go_num,by rw[aS.out];exact aD,aF⟩
   case measure=>simp[intOf];omega):=O6 h;exact yR):=O6 h;exact UM
  ·have U:j=a.fJ.length:=O9;subst U;have q:=ai;rw[gO] at q;obtain⟨_,aD,v,O,e⟩:=q;obtain⟨p,aj,rfl⟩:=PW e;have aF:wr.cell? (O7 w.heap.size 0)=some (.slice p (YP a.fJ).length aj):=by rw[cell_of O];rfl
   have aI:=fI O;have c:Pn w wr:=l.trans ((i.mono O9).below Qp);have ak:=Zv a.fJ;have d:=GE (YP a.fJ) _ wr e (by have:=O4 ah;have:=O4 H;omega)
   clear O ak;go_wp2_with fail;refine cm d ?_;rintro m aX ⟨⟨s,rfl,X⟩,B⟩;obtain⟨aC,ax,rfl⟩:=PW X;have D:=c.trans (B.mono c.size);go_wp2;go_ret;exact⟨⟨_,rfl,As X c.size⟩,D⟩):=O6 h;exact un
def PB {P:Program}{a:Pe}(base:Nat)(c l b:TypeId)(i:TypeInfo)(size:Nat)(f:P.underlying c=some (.slice b))(n:P.info? b=some i)
  (d:Px) (k:Nat) (m:List Px) (g:a.ownsRow base b size d k m) (e:Option Addr) (j:Nat) :
  (Builtin.append_ #[c,c] l #[d,.slice e 0 j]).run P a=.ok d a:=by
 cases e <;> rcases g.2 with ⟨rfl,rfl⟩|⟨q,p,o,rfl,_,_,r,_⟩ <;>
  simp[Builtin.append_,ho f,sizeOf,typeInfo,Builtin.lenOf,Builtin.firstCells,loadCells,loadCellsFrom,storeCells, *]
def Zd {P:Program}{a:Pe}{z:Array Oper}{rest:List Oper}{j:Oper}{d:Act}{Q:Exit->Act->Pe->Prop}(s:j.guard=none)(r x:Operand)(k:TypeId)
  (t:j.op=.call { callee:=.builtin .append,args:=#[r,x],argTypes:=#[k,k] })
  (base H:Nat) (b:TypeId) (f:TypeInfo) (o:Px) (bytes:Nat) (w:P.underlying k=some (.slice b)) (C:P.info? b=some f) (L:f.zero=some o)
  (hsize:f.size=1) (R:f.bytes=bytes) (I:o.cells.size=1)
  (i:Px) (g:Nat) (n:List Px) (A:d.eval r=i) (q:a.ownsRow base b 1 i g n)
  (E:Px) (c:Nat) (news:List Px) (B:d.eval x=E) (e:a.ownsRow H b 1 E c news) (S:∀ D ∈ news,D.oneCell'=true)
  (F:g+c<=maxLen) (hbytes:(g+c) * bytes<=140737488355328) (hbase:base<=a.heap.size)
  (h:∀ m l,l.ownsRow base b 1 m (g+c) (n++news)->a.grownBy l i.ownBlock->wpList P z Q rest (d.put j.dst m) l):wpList P z Q (j::rest) d a:=by
 rcases Nat.eq_zero_or_pos c with rfl|u
 ·have M:news=[]:=lI.1 (by rw[e.1]);subst M;obtain⟨v,O,rfl⟩:=PW e;have m:=h i a (by rw[i8];exact q) ⟨rfl,rfl,rfl,Qp,λ_ _ _=>rfl⟩
  refine wpList_plain s λK p=>?_;have N:=PB (P:=P) (a:=a) base k j.type b f 1 w C i g n q v O;unfold Oper.wp;simp[execOp,t,resolve,invoke,builtin,A,B,N,Result.andThen];exact p _ _ m
 ·obtain⟨p,O,rfl,_,_⟩:=e.form u;refine wpList_append_lies a s r x k t base b f o 1 bytes w C L hsize R I Pm i g n A q (O7 p 0) c O news B e.1 (λm D v=>?_) S u F hbytes hbase _ rfl (λW U l d N _ _=>h _ _ d N);have T:m<c * 1:=by
   rw[<-e.1];exact(gr.1 v).1
  have M:((O7 p 0):Addr).add m=(O7 p m):=by simp[Addr.add];exact Eq.symm
  rw[M,e.cellAt m T];exact v
def gI (a:Tr)(body:Bool):List Py:=XY ((if body then Qv a else [])++(Uj a).map Tr.tx++(Qd a).map Tr.tx)
def sM (a:Tr):(Uj a).length<=a.fJ.length:=hp _ _
def Ur (a:Tr):(Qd a).length<=a.fJ.length:=hp _ _
def Y0 (a:Tr):(Qv a).length<=Tr.f1 a.fJ:=f9 (s8 _) (Zv _)
def y9 (a:Tr)(d:Nat)(body:Bool)(c:Pe)(h:TV c a d)(bn:a.count<=20000) :
  Pq 78 #[O5 d,Pv body] c λe O=>(∃ b,e=PK b/\SQ c.heap.size O b (gI a body))/\Pn c O:=by
 obtain⟨aC,ax,ay,ap,au⟩:=gY jI;have b{G}(h:G:=by
 have bq:=sM a;have bu:=Ur a;have bf:=Y0 a;unfold gI;obtain⟨l,H⟩:=xH ((Uj a).map Tr.tx);have bm:l.length<=20000:=by rw[H.out,gu];omega
 obtain⟨G,I⟩:=xH ((Qd a).map Tr.tx);have bj:G.length<=20000:=by rw[I.out,gu];omega
 rw[<-H.out,<-I.out]
 cases body with
 | true=>
  have R:=XR a d c h O9;simp only[hz];obtain⟨g,f⟩:=xE (Qv a);have aF:g.length<=20000:=by rw[f];omega
  rw[<-f] at R ⊢;have b{G}(h:G:=by
  go_wp2_with fail;refine cm R ?_;rintro e aG ⟨⟨u1,rfl,P⟩,p⟩;obtain⟨br,bo,rfl⟩:=PW P;have F:=p;have o:=h.fH p;have aD:=P;have i:=yZ a d aG o O9;exact Dv):=O6 h;exact Fv
 | false=>
  simp only[iI,iC];obtain⟨g,f⟩:=xE ([]:List Py);have aF:g.length<=20000:=by rw[f];simp
  have F:Pn c c:=RP;have o:TV c a d:=h;have aD:SQ c.heap.size c Q8 g:=by rw[f];exact Zb _ _
  have R:Hid (∀ p,p=[]++l++G->p=g++l++G):=λp P=>by rw[P,f]
  rw[O4 R _ rfl];have b{G}(h:G:=by
  have i:=yZ a d c o O9;exact Dv):=O6 h;exact Fv):=O6 h;exact oh
section
variable (i:Nat) (e:Tr->Bool) (z:WM i) (a:List Tr) (m:Px) (c:Pe) {o:Nat} (h:U6 o c m a) (w:a.length<=90000) (f:∀ v ∈ a,∀ u n,Pn c n->TV n v u->Pq i #[O5 u] n λd k=>d=PK (Pv (e v))/\Pn n k)
include i e z a m c o h w f
def auW :
  Pq 183 #[m,uU i] c λd k=>(∃ j:Int,d=PK (O3 j)/\decide (0<=j)=a.any e)/\Pn c k:=Gn
def D2 :
  Pq 248 #[m,uU i] c λd k=>d=PK (Pv (a.any e))/\Pn c k:=by
 have g:=auW i e z a m c h w f;exact Bn
end
section
variable (i:Nat) (m:Px) (e:Tr->Bool) (A:WM i) (a:List Tr) (n:Px) (c:Pe) {w:Nat} (h:U6 w c n a) (z:a.length<=90000) (f:∀ v ∈ a,∀ u o,Pn c o->TV o v u->Pq i #[O5 u,m] o λd k=>d=PK (Pv (e v))/\Pn o k)
include i m e A a n c w h z f
def Wb :
  Pq 183 #[n,.func (.func i) #[] #[m]] c λd k=>(∃ j:Int,d=PK (O3 j)/\decide (0<=j)=a.any e)/\Pn c k:=Gn
def Xg :
  Pq 248 #[n,.func (.func i) #[] #[m]] c λd k=>d=PK (Pv (a.any e))/\Pn c k:=by
 have g:=Wb i m e A a n c h z f;exact Bn
end
def Td (b:List Tr)(x:Py):Bool:=b.any λa=>decide (a.tx=x)
def aDD:WM 289:=λ_ _=>by kernel_rfl
def akJ (e:Tr)(i b:Nat)(x:Py)(a:Pe)(h:TV a e i)(l:a.cell? (O7 b 0)=some (Pj x)):Pq 289 #[O5 i,PL b 0] a λn j=>n=PK (Pv (decide (e.tx=x)))/\Pn a j:=by
 obtain⟨o,_,m,_⟩:=h.cells;obtain⟨f,g⟩:=xE e.tx;rw[<-g] at m ⊢;have p:b<a.heap.size:=by
  rcases hT b a.heap.size with d|d
  ·exact d
  ·have k:a.heap[b]? = none:=jB d;simp[World.cell?,k] at l
 clear h g
 by_cases c:f=x
 ·subst c;have d:decide (f=f)=true:=g4 rfl;rw[d];clear d;go_enter func289,ntmps289;go_wp2_with fail
  go_region
  go_wp2;go_ret;exact⟨rfl,RP.drew⟩
 ·rw[gN c];have d:=pt c;clear c;go_enter func289,ntmps289;go_wp2_with fail
  go_region
  go_wp2;go_ret;exact⟨rfl,RP.drew⟩
def Zq (d:List Tr)(g:Px)(x:Py)(a:Pe){l:Nat}(h:U6 l a g d)(q:d.length<=90000) :
  Pq 246 #[g,Pj x] a λi k=>i=PK (Pv (Td d x))/\Pn a k:=by
 obtain⟨b,c⟩:=xE (a.alloc (.cells #[Pj x] 9));have f:Pn a b:=by rw[c];exact QJ
 have r:b.heap.size=a.heap.size+1:=by rw[c];simp
 have j:b.cell? (O7 a.heap.size 0)=some (Pj x):=by rw[c,cell_of (Ph _ _)];rfl
 have n:=Xg 289 (PL a.heap.size 0) (λm=>decide (m.tx=x)) aDD d g b (h.fH f) q (λt _ s m e o=>akJ t s _ x m o ((gs (w:=b) (a:=(O7 a.heap.size 0)) (e.block a.heap.size O9)).trans j));obtain⟨v,u,rfl⟩:=h.form;clear h r j;go_enter func246,ntmps246;go_wp2_with fail;rw[<-c];refine cm n ?_;rintro i w ⟨rfl,e⟩;have p:=f.trans (e.mono f.size);clear c;go_wp2;go_ret;exact⟨rfl,p⟩
def fV {b:Pe}{a e:Nat}{f:Px}(h:b.cell? (O7 a e)=some f):a<b.heap.size:=by
 rcases hT a b.heap.size with c|c
 ·exact c
 ·have d:b.heap[a]? = none:=jB c;simp[World.cell?,d] at h
def PN {c d:Pe}{a b:Nat}{e:Px}(f:Pn c d)(h:c.cell? (O7 a b)=some e):d.cell? (O7 a b)=some e:=
 (gs (w:=c) (a:=(O7 a b)) (f.block a (fV h))).trans h
abbrev Vs:Py:=⟨#[101,118,97,108]⟩
abbrev g2:Py:=⟨#[97,114,103,117,109,101,110,116,115]⟩
def VZ:Option Int->Px
 | none=>.nilIface
 | some a=>.iface 34 (O3 a)
abbrev YX (c b a:Bool):Px:=.agg #[Pv c,Pv b,Pv a]
def isSp (x:Py):Bool:=decide (x=Vs)||decide (x=g2)
def iR (a:Bool)(x:Py):Option Int:=if a&&isSp x then some 5 else none
def PO (a:Tr):Bool:=(a.kd==1||a.kd==6)&&decide (a.tx=WO)
def V3 (c f e:Bool)(x:Py)(d:Pe):Pq 192 #[Pj x,YX c f e] d λk g=>k=PK (VZ (iR c x))/\Pn d g:=by
 unfold iR isSp;have l:=(f2 d.heap.size d).alloc Qp (.cells #[Pv c,Pv f,Pv e] 112)
 cases c with
 | false=>
  exact sG
 | true=>
  by_cases b:x=Vs
  ·have j:=VL (a:=Vs) rfl b;rw[g4 b];clear b;exact sG
  ·have j:=Vt (a:=Vs) rfl b;rw[gN b];clear b
   by_cases a:x=g2
   ·have i:=VL (a:=g2) rfl a;rw[g4 a];clear a;exact sG
   ·have i:=Vt (a:=g2) rfl a;rw[gN a];clear a;exact sG
section
variable (a:Tr) (d:Nat) (b:Pe) (h:TV b a d)
include a d b h
def Uo:Pq 58 #[O5 d] b λk f=>k=PK (Pv (PO a))/\f=b:=by
 obtain⟨m,i,j,_⟩:=h.cells;clear h;unfold PO
 generalize a.kd=e at i
 generalize a.tx=l at j
 by_cases c:l=WO
 ·have g:=VL (a:=WO) rfl c;rw[g4 c];exact AG
 ·have g:=Vt (a:=WO) rfl c;rw[gN c];exact AG
def ZD:Pq 102 #[O5 d] b λf c=>f=PK (Pv (QU a))/\c=b:=by
 obtain⟨j,e,_,_⟩:=h.cells;clear h;unfold QU
 generalize a.kd=g at e
 cases i:(g==5)
 all_goals
  go_enter func102,ntmps102;go_wp2;go_ret;exact⟨rfl,rfl⟩
end
def Qz (a:Tr)(b:Nat):Tr:=a.fJ.getD b a
def Yh (b:Tr)(a:Nat)(h:a<b.fJ.length):Qz b a=b.fJ[a]:=by simp[Qz,List.getD,h]
section
variable (a:Tr) (d:Nat) (b:Pe) (h:TV b a d)
include a d b h
def HV (g:2<=a.fJ.length)(m:a.fJ.length<=90000):Pq 103 #[O5 d] b λl f=>(∃ c,l=PK (O5 c)/\TV b (Qz a 1) c)/\f=b:=by
 obtain⟨p,_,_,t,k,i⟩:=h.cells;obtain⟨r,q,c,rfl,s,o,e⟩:=i.cell 1 O9;rw[<-Yh a 1 O9] at e;clear h
 generalize j:a.fJ.length=n at k g m
 clear j;go_enter func103,ntmps103;go_wp2;go_ret;exact⟨⟨c,rfl,e⟩,rfl⟩
def Fh (i:1<=a.fJ.length)(n:a.fJ.length<=90000):Pq 249 #[O5 d] b λm g=>(∃ c,m=PK c/\U6 0 b c (Qz a 0).fJ)/\g=b:=by
 obtain⟨s,_,_,c,l,j⟩:=h.cells;obtain⟨v,t,A,rfl,w,q,e⟩:=j.cell 0 O9;rw[<-Yh a 0 O9] at e;obtain⟨u,_,_,u2,z,f⟩:=e.cells;obtain⟨p,r,rfl⟩:=f.form;clear h
 generalize k:a.fJ.length=o at l i n
 clear k;go_enter func249,ntmps249;go_wp2;go_ret;exact⟨⟨_,rfl,f⟩,rfl⟩
end
def Vf (a:Tr):Bool:=a.kd==3||a.kd==4||a.kd==5
def RK:WM 251:=λ_ _=>by kernel_rfl
def ID:WM 244:=λ_ _=>by kernel_rfl
def Sn:WM 245:=λ_ _=>by kernel_rfl
def Ma:WM 250:=λ_ _=>by kernel_rfl
def Om (a:Tr)(d:Nat)(b:Pe)(h:TV b a d):Pq 251 #[O5 d] b λg e=>g=PK (Pv (Vf a))/\Pn b e:=by
 obtain⟨k,f,_,_⟩:=h.cells;clear h;unfold Vf
 generalize a.kd=c at f
 cases j:(c==3) <;> cases i:(c==4) <;>
 ·go_enter func251,ntmps251;go_wp2;go_ret;exact⟨rfl,RP⟩
def BI (c:Tr)(b l:Nat)(a:List Py)(i:Option Addr)(g:Nat)(w:Pe){q:Nat}(h:TV w c b)(r:w.cell? (O7 l 0)=some (.slice i a.length g))(X:SQ q w (.slice i a.length g) a)(z:a.length<=90000) :
  Pq 244 #[O5 b,PL l 0] w λm p=>m=PK (Pv (hasB a c.tx))/\Pn w p:=by
 obtain⟨t,_,s,_⟩:=h.cells;have d:=WQ a c.tx _ w.drew X O9;clear h
 generalize c.tx=o at s d
 have A:=fV r;go_enter func244,ntmps244;go_wp2_with fail;refine wp_region_held (S:=λL=>L=w.drew) Qs ?_;refine mK ?_;refine wh 0 (.slice i a.length g) rfl ?_ (bi:=fM ⟨by kernel_rfl,λL f=>by cases f;go_simp⟩)
 refine wh 1 (O5 b) rfl ?_;refine wh 2 (O5 b) rfl ?_;refine wh 3 (PL b 1) rfl ?_;refine wh 4 (Pj o) rfl ?_ (bi:=fM ⟨by kernel_rfl,λL f=>by cases f;go_simp⟩)
 refine Ye 5 λK k=>?_;go_simp;refine lC ?_;rintro m B ⟨rfl,rfl⟩;refine k.out _ _ rfl (λ_=>?_);clear k K;refine wh 6 (Pv (hasB a o)) rfl ?_;refine YN ?_;go_wp2;go_ret;exact⟨rfl,RP.drew⟩
def akL (g:Tr)(c p:Nat)(a:List Tr)(m:Option Addr)(l:Nat)(w:Pe){z:Nat}(h:TV w g c)(o:w.cell? (O7 p 0)=some (.slice m a.length l))(X:U6 z w (.slice m a.length l) a)(C:a.length<=90000) :
  Pq 245 #[O5 c,PL p 0] w λr t=>r=PK (Pv (Td a g.tx))/\Pn w t:=by
 obtain⟨E,_,q,_⟩:=h.cells;have d:=Zq a _ g.tx w.drew (X.fH RP.drew) C;clear h
 generalize g.tx=s at q d
 have F:=fV o;have b:Pn w w.drew:=RP.drew;go_enter func245,ntmps245;go_wp2_with fail;refine wp_region_held (S:=λL=>Pn w L) Qs ?_;refine mK ?_;refine wh 0 (.slice m a.length l) b ?_ (bi:=fM ⟨by kernel_rfl,λL k=>by have B:=PN k o;go_simp⟩)
 refine wh 1 (O5 c) b ?_;refine wh 2 (O5 c) b ?_;refine wh 3 (PL c 1) b ?_;refine wh 4 (Pj s) b ?_ (bi:=fM ⟨by kernel_rfl,λL k=>by have B:=PN k q;go_simp⟩)
 refine Ye 5 λK f=>?_;go_simp;refine lC ?_;rintro r D ⟨rfl,A⟩;have i:Pn w D:=b.trans (A.mono Qp);refine p9 ?_;clear f K;refine wh 6 (Pv (Td a s)) i ?_;refine YN ?_;go_wp2;go_ret;exact⟨rfl,i⟩
def aoc (m b:Tr)(c q g:Nat)(w:Pe)(h:TV w m c)(p:w.cell? (O7 q 0)=some (O5 g))(b8:TV w b g)(t:1<=b.fJ.length)(B:b.fJ.length<=90000)(D:(Qz b 0).fJ.length<=90000) :
  Pq 250 #[O5 c,PL q 0] w λl s=>l=PK (Pv (Td (Qz b 0).fJ m.tx))/\Pn w s:=by
 obtain⟨E,_,r,_⟩:=h.cells;have a:Pn w w.drew:=RP.drew;have HP:=Fh b g w.drew (b8.fH a) t B;clear h
 generalize m.tx=o at r
 have H:=fV p;go_enter func250,ntmps250;go_wp2_with fail;refine wp_region_held (S:=λL=>Pn w L) Qs ?_;refine mK ?_;refine wh 0 (O5 g) a ?_ (bi:=fM ⟨by kernel_rfl,λL k=>by have C:=PN k p;go_simp⟩)
 refine wh 2 (O5 c) a ?_;refine wh 3 (O5 c) a ?_;refine wh 4 (PL c 1) a ?_;refine wh 5 (Pj o) a ?_ (bi:=fM ⟨by kernel_rfl,λL k=>by have C:=PN k r;go_simp⟩)
 refine Ye 1 λK f=>?_;go_simp;refine cm HP ?_;rintro l N ⟨⟨I,rfl,X⟩,rfl⟩;obtain⟨M,F,rfl⟩:=X.form;refine f.out _ _ a (λ_=>?_);clear f K;have d:=Zq (Qz b 0).fJ _ o w.drew X D;refine Ye 6 λK f=>?_;go_simp;refine lC ?_;rintro l z ⟨rfl,A⟩;have i:Pn w z:=a.trans (A.mono Qp);refine p9 ?_;clear f K;refine wh 7 (Pv (Td (Qz b 0).fJ o)) i ?_;refine YN ?_;go_wp2;go_ret;exact⟨rfl,i⟩
def Xa.take {d:Nat->Prop}{e:Pe}:∀ (c:List Tr) (b:List Nat),Xa d e c b->∀ a,Xa d e (c.take a) (b.take a)
 | [],b,h,a=>by rw[Xa] at h;subst h;simpa using Xa.nil
 | k::c,b,h,a=>by
  rw[Xa] at h;obtain⟨j,g,rfl,i,f⟩:=h
  cases a with
  | zero=>simpa using Xa.nil
  | succ a=>simpa using Xa.cons i (Xa.take c g f a)
def U6.take {e:Nat}{k:Pe}{d c:Nat}{b:List Tr}(h:U6 e k (.slice (some (O7 d 0)) b.length c) b)(a:Nat)(v:a<=b.length):U6 e k (.slice (some (O7 d 0)) a c) (b.take a):=by
 obtain⟨j,r,f⟩:=h;have A:=Xa.length _ _ f;refine⟨j.take a,?_,Xa.take _ _ f a⟩;have t:(j.take a).length=a:=by rw[hC];omega
 rw[t];refine⟨by simp;omega,fU ?_⟩
 rcases r.2 with p|⟨z,u,q,i,l,s,w,n,m,o⟩
 ·exact absurd p.1 P7
 ·simp only[g7,hc,iL] at i;obtain⟨⟨rfl,_,_⟩,_,rfl⟩:=i;refine⟨d,c,q,rfl,l,s,by omega,n,m,?_⟩;have g:=zalco (List.take a) o;rw[lH,lL O9] at g;rw[Nat.mul_one,g,<-mw]
def l4 (b:List Tr)(a:Nat):Py:=(b.map Tr.tx).getD a O8
def FO (b:List Tr)(a:Nat)(h:a<b.length):l4 b a=(b[a]).tx:=by simp[l4,List.getD,h]
def tF (b:List Tr)(a:Nat):Bool:=Td (b.take a) (l4 b a)
def mh (a:List Tr):Bool:=(List.range a.length).any (tF a)
def L2 (a:List Tr)(v:Px)(w:Pe){N:Nat}(h:U6 N w v a)(aD:a.length<=90000) :
  Pq 247 #[v] w λA I=>A=PK (Pv (mh a))/\Pn w I:=by
 obtain⟨aG,l,rfl⟩:=h.form;have k:=h;obtain⟨R,o⟩:=xH (mh a);rw[<-o.out];clear h;go_enter func247,ntmps247;go_wp2_with fail
 go_loopw [7] (λn wr=>∃ j:Nat,j<=a.length/\n=O3 j/\(List.range j).any (tF a)=false/\Pn w wr) (λn _=>a.length - (intOf n).toNat)
 case atStart=>exact⟨0,f3 _,rfl,rfl,RP⟩
 case round=>
  have b{G}(h:G:=by
  by_cases m:j<a.length
  ·obtain⟨C,am,s,B,ax,ak,g⟩:=(k.fH O).cell j m;have b{G}(h:G:=by
   have au:(j:Int)<(a.length:Int):=O9;obtain⟨ap,_,p,_⟩:=g.cells;rw[<-FO a j m] at p;obtain⟨t,r⟩:=xE (l4 a j);rw[<-r] at p;have c:Pn wr wr.drew:=RP.drew;have d:=Zq (a.take j) _ t wr.drew (((k.fH O).take j q).fH c) (by rw[hC];omega)
   obtain⟨F,X⟩:=xE (Td (a.take j) t);rw[<-X] at d;have E:Hid (tF a j=F):=by rw[X,r];rfl
   clear g r X;have aj:(j:Int)<=(l:Int):=by
    obtain⟨ad,bA,aW⟩:=id k;have M:=Xa.length _ _ aW
    rcases bA.2 with g|⟨ac,H,U,B,_,_,ah,_⟩
    ·exact absurd g.1 P7
    ·simp only[g7] at B;omega
   have aF:l<=maxLen:=by
    obtain⟨ad,bA,aW⟩:=k
    rcases bA.2 with g|⟨ac,H,U,B,_,_,ah,M,_⟩
    ·exact absurd g.1 P7
    ·simp only[g7] at B;omega
   go_wp2_with fail;refine wp_region_held (S:=λL=>Pn wr L) Qs ?_;refine mK ?_;refine wh 0 (.slice (some (O7 C 0)) a.length l) c ?_;refine wh 1 (O3 j) c ?_;refine wh 3 (O5 s) c ?_;refine wh 4 (O5 s) c ?_;refine wh 5 (PL s 1) c ?_;refine wh 6 (Pj t) c ?_ (bi:=fM ⟨by kernel_rfl,λL M=>by have aC:=PN M p;go_simp⟩)
   refine wh 2 (.slice (some (O7 C 0)) j l) c ?_;refine Ye 7 λK f=>?_;go_simp;refine lC ?_;rintro A ai ⟨rfl,T⟩;have i:Pn wr ai:=c.trans (T.mono Qp);refine p9 ?_;clear f K;refine YN ?_;have z:=O.trans (i.mono O.size)
   cases F with
   | true=>
    have M:R=true:=by
     rw[o.out,mh,j8];exact⟨j,nh.2 m,E.out⟩
    subst M;go_wp2;go_ret;exact⟨rfl,z⟩
   | false=>
    go_wp2
    go_roundw
    case rel=>
     refine⟨j+1,by omega,by go_num,?_,z⟩;rw[List.range_succ,kj,D.out];simp[E.out]
    case measure=>simp[intOf];omega):=O6 h;exact UM
  ·have d:j=a.length:=O9;subst d;have c:R=false:=by rw[o.out];exact O4 D
   subst c;go_wp2;go_ret;exact⟨rfl,O⟩):=O6 h;exact qq
def lW (a:Tr)(b:Bool):Option Int:=if (a.kd==9&&b)||a.fJ.any Vf then some 1 else none
def acp (a:Tr)(g:Nat)(b n l:Bool)(c:Pe)(h:TV c a g)(w:a.fJ.length<=90000):Pq 194 #[O5 g,YX b n l] c λo q=>o=PK (VZ (lW a b))/\Pn c q:=by
 obtain⟨m,e⟩:=xE (c.alloc (.cells #[Pv b,Pv n,Pv l] 112));have d:Pn c m:=by rw[e];exact QJ
 obtain⟨B,t,_,D,u,k⟩:=h.cells;obtain⟨E,C,rfl⟩:=k.form;have j:=D2 251 Vf RK a.fJ _ m (k.fH d) w (λa _ g r _ s=>Om a g r s);unfold lW;clear h
 generalize a.fJ.any Vf=z at j
 generalize a.fJ.length=A at u j
 generalize a.kd=f at t
 cases p:(f==9&&b) with
 | true=>
  have v:(f==9)=true:=by cases r:(f==9) <;> simp_all
  have i:b=true:=by cases b <;> simp_all
  subst i;clear p;rw[e] at d;clear e;go_enter func194,ntmps194;go_wp2;go_ret;exact⟨rfl,d⟩
 | false=>
  cases v:(f==9) with
  | true=>
   have i:b=false:=by cases b <;> simp_all
   subst i;exact KU
  | false=>
   exact KU
def EG {b a:Nat}{f:Pe}{e:Px}{d:List Tr}(h:U6 b f e d)(p:a<=b):U6 a f e d:=by
 obtain⟨n,c,g⟩:=h;refine⟨n,⟨c.1,?_⟩,g⟩
 rcases c.2 with j|⟨m,l,k,i,o,rest⟩
 ·exact fM j
 ·exact fU ⟨m,l,k,i,by omega,rest⟩
def rx (a:Tr):Bool:=mh (Qd a)||(Qd a).any (λb=>Td (Uj a) b.tx)||(Qd a).any (λb=>hasB (Qv a) b.tx)
def r1 (a:Tr):Bool:=mh (Uj a)||(Uj a).any (λb=>hasB (Qv a) b.tx)
def nf (a:Tr)(body:Bool):Option Int:=if rx a||(!body&&r1 a) then some 9 else none
structure aLh (eA:Pe)(sQ uw:Nat)(LV za:Px)(bX fj a2 cj a3:Bool):Prop where
 cF:eA.cell? (O7 uw 0)=some za
 Nf:∀ W,Pn eA W->Pq 247 #[LV] W λe w'=>e=PK (Pv bX)/\Pn W w'
 ha1:∀ W,Pn eA W->Pq 248 #[LV,.func (.func 245) #[] #[PL uw 0]] W λe w'=>e=PK (Pv fj)/\Pn W w'
 CK:∀ W,Pn eA W->Pq 248 #[LV,.func (.func 244) #[] #[PL sQ 0]] W λe w'=>e=PK (Pv a2)/\Pn W w'
 HI:∀ W,Pn eA W->Pq 247 #[za] W λe w'=>e=PK (Pv cj)/\Pn W w'
 W5:∀ W,Pn eA W->Pq 248 #[za,.func (.func 244) #[] #[PL sQ 0]] W λe w'=>e=PK (Pv a3)/\Pn W w'
def SF (a:Tr)(f:Pe)(n u p:Nat)(o l B:Option Addr)(k m A:Nat)(z:SQ p f (.slice o (Qv a).length k) (Qv a))(r:U6 p f (.slice l (Uj a).length m) (Uj a))(s:U6 p f (.slice B (Qd a).length A) (Qd a))
  (C:f.cell? (O7 n 0)=some (.slice o (Qv a).length k)) (w:f.cell? (O7 u 0)=some (.slice l (Uj a).length m)) (v:(Qv a).length<=90000) (q:(Uj a).length<=90000) (t:(Qd a).length<=90000) :
  aLh f n u (.slice B (Qd a).length A) (.slice l (Uj a).length m) (mh (Qd a)) ((Qd a).any λb=>Td (Uj a) b.tx) ((Qd a).any λb=>hasB (Qv a) b.tx) (mh (Uj a)) ((Uj a).any λb=>hasB (Qv a) b.tx):=by
 refine⟨w,λd c=>L2 _ _ d (s.fH c) t,λd c=>?_,λd c=>?_,λd c=>L2 _ _ d (r.fH c) q,λd c=>?_⟩
 ·exact Xg 245 _ (λb=>Td (Uj a) b.tx) Sn (Qd a) _ d (s.fH c) t (λb _ j g e i=>akL b j u (Uj a) l m g i (PN e (PN c w)) ((r.fH c).fH e) q)
 ·exact Xg 244 _ (λb=>hasB (Qv a) b.tx) ID (Qd a) _ d (s.fH c) t (λb _ j g e i=>BI b j n (Qv a) o k g i (PN e (PN c C)) (SQ.fH (SQ.fH z c) e) v)
 ·exact Xg 244 _ (λb=>hasB (Qv a) b.tx) ID (Uj a) _ d (r.fH c) q (λb _ j g e i=>BI b j n (Qv a) o k g i (PN e (PN c C)) (SQ.fH (SQ.fH z c) e) v)
def YZ (a:Tr)(q:Nat)(body:Bool)(v:Pe)(h:TV v a q)(ay:a.count<=20000):Pq 190 #[O5 q,Pv body] v λe aj=>e=PK (VZ (nf a body))/\Pn v aj:=by
 have b{G}(h:G:=by
 have aK:=sM a;have aO:=Ur a;have aQ:=Y0 a;have aY:(Qv a).length<=20000:=O9;have aF:=XR a q v h O9;unfold nf rx r1;obtain⟨U,A⟩:∃ g,g=mh (Qd a):=⟨_,rfl⟩;obtain⟨X,C⟩:∃ g,g=(Qd a).any λo=>Td (Uj a) o.tx:=⟨_,rfl⟩;obtain⟨S,D⟩:∃ g,g=(Qd a).any λo=>hasB (Qv a) o.tx:=⟨_,rfl⟩;obtain⟨aD,B⟩:∃ g,g=mh (Uj a):=⟨_,rfl⟩;obtain⟨ax,E⟩:∃ g,g=(Uj a).any λo=>hasB (Qv a) o.tx:=⟨_,rfl⟩;rw[<-A,<-C,<-D,<-B,<-E];have am:=Y A
 have aS:=Y C;have aZ:=Y D;have ap:=Y B;have au:=Y E;clear z aQ ay A C D B E;go_enter func190,ntmps190;go_wp2_with fail;refine cm aF ?_;rintro e aW ⟨⟨u1,rfl,ac⟩,H⟩;obtain⟨s,m,rfl⟩:=PW ac;have aL:=yZ a q aW (h.fH H) O9;go_wp2_with fail;refine cm aL ?_;rintro e aX ⟨⟨u2,rfl,ad⟩,T⟩;obtain⟨n,p,rfl⟩:=ad.form;have F:=H.trans (T.mono H.size);have aI:=SQ.fH ac T;have aG:=xm a q aX (h.fH F) O9;go_wp2_with fail;refine cm aG ?_
 rintro e d ⟨⟨u3,rfl,ah⟩,I⟩;obtain⟨aU,aJ,rfl⟩:=ah.form;have W:=F.trans (I.mono F.size);have aV:=SQ.fH aI I;have aC:=ad.fH I;go_wp2_with fail;obtain⟨c,k⟩:=xE ((d.alloc (.cells #[.slice s (Qv a).length m] 26)).alloc (.cells #[.slice n (Uj a).length p] 38));have u:Pn d c:=by rw[k];exact QJ.alloc P7 _
 have bn:c.heap.size=d.heap.size+2:=by rw[k];simp
 have ai:c.cell? (O7 d.heap.size 0)=some (.slice s (Qv a).length m):=by
  have L:c.heap[d.heap.size]? = some (PZ #[.slice s (Qv a).length m] 26):=by rw[k,gd _ _ _ P7,Ph]
  rw[cell_of L];rfl
 have t:c.cell? (O7 (d.heap.size+1) 0)=some (.slice n (Uj a).length p):=by
  have L:c.heap[d.heap.size+1]? = some (PZ #[.slice n (Uj a).length p] 38):=by
   have l:=Ph (d.alloc (.cells #[.slice s (Qv a).length m] 26)) (.cells #[.slice n (Uj a).length p] 38);rw[k];simpa using l
  rw[cell_of L];rfl
 have SC:=SF a c d.heap.size (d.heap.size+1) 0 s n aU m p aJ (As (SQ.fH aV u) (f3 _)) (EG (aC.fH u) (f3 _)) (EG (ah.fH u) (f3 _)) ai t O9 O9 O9;rw[<-am.out,<-aS.out,<-aZ.out,<-ap.out,<-au.out] at SC;have R:Pn c c:=RP;have f:=W.trans (u.mono W.size);rw[<-k];clear h ai k
 generalize (Qd a).length=bo at SC aO
 generalize (Uj a).length=bq at SC aK t
 generalize (Qv a).length=br at aY
 cases body with
 | true=>
  cases U with
  | true=>
   exact J2
  | false=>
   have b{G}(h:G:=by
   cases X with
   | true=>
    exact KZ
   | false=>
    have b{G}(h:G:=by
    cases S with
    | true=>
     exact yh
    | false=>
     exact yh):=O6 h;exact y5):=O6 h;exact xw
 | false=>
  cases U with
  | true=>
   exact J2
  | false=>
   have b{G}(h:G:=by
   cases X with
   | true=>
    exact KZ
   | false=>
    have b{G}(h:G:=by
    cases S with
    | true=>
     exact yh
    | false=>
     refine cm (SC.CK _ j) ?_;rintro e P ⟨rfl,O⟩;have i:Pn c P:=j.trans (O.mono j.size);have aN:=PN i t;have bj:=fV aN;go_wp2_with fail
     cases aD with
     | true=>
      refine cm (SC.HI _ i) ?_;rintro e M ⟨rfl,N⟩;have l:Pn c M:=i.trans (N.mono i.size);go_wp2;go_ret;exact⟨rfl,f.trans (l.mono f.size)⟩
     | false=>
      refine cm (SC.HI _ i) ?_;rintro e M ⟨rfl,N⟩;have l:Pn c M:=i.trans (N.mono i.size);have ak:=PN l t;have bm:=fV ak;go_wp2_with fail
      cases ax with
      | true=>
       exact HM
      | false=>
       exact HM):=O6 h;exact y5):=O6 h;exact xw):=O6 h;exact oh
def Yi (a:Tr)(c:Bool):Option Int:=match iR c a.tx with
 | some b=>some b
 | none=>if hasB (gI (Qz a 0) false) a.tx then some 9 else none
structure YO (b:Nat)(s i d:Bool)(w:Pe):Prop where
 c0:w.cell? (O7 b 0)=some (Pv s)
 c1:w.cell? (O7 b 1)=some (Pv i)
 c2:w.cell? (O7 b 2)=some (Pv d)
def YO.new (d:Pe)(c b a:Bool):YO d.heap.size c b a (d.alloc (.cells #[Pv c,Pv b,Pv a] 112)):=
 ⟨by rw[cell_of (Ph _ _)];rfl,by rw[cell_of (Ph _ _)];rfl,by rw[cell_of (Ph _ _)];rfl⟩
def YO.fH {c:Nat}{f e d:Bool}{w b:Pe}(h:YO c f e d w)(a:Pn w b):YO c f e d b:=⟨PN a h.c0,PN a h.c1,PN a h.c2⟩
def ado (a:Tr)(g:Nat)(q n t:Bool)(w:Pe)(h:TV w a g)(aF:1<=a.fJ.length)(aJ:a.count<=20000):Pq 193 #[O5 g,YX q n t] w λo B=>o=PK (VZ (Yi a q))/\Pn w B:=by
 have b{G}(h:G:=by
 obtain⟨p,C⟩:=xE (w.alloc (.cells #[Pv q,Pv n,Pv t] 112));have A:Pn w p:=by rw[C];exact QJ
 have ax:YO w.heap.size q n t p:=by rw[C];exact YO.new _ _ _ _
 obtain⟨ba,_,D,M,ah,X⟩:=(h.fH A).cells;obtain⟨E,aN,H,rfl,be,aG,ac⟩:=X.cell 0 O9;rw[<-Yh a 0 O9] at ac;have aC:(Qz a 0).count<=20000:=by
  rw[Yh a 0 O9];have:=TF a.fJ 0 O9;omega
 have bh:=fV ax.c0;unfold Yi;have F:=Y (λl=>V3 q n t a.tx l);have ak:Hid (∀ l,Pn p l->Pq 78 #[O5 H,Pv false] l λo B=>(∃ M,o=PK M/\SQ l.heap.size B M (gI (Qz a 0) false))/\Pn l B):=λl aI=>y9 (Qz a 0) H false l (ac.fH aI) aC;have ap:Hid ((gI (Qz a 0) false).length<=90000):=by
  have aO:(Qz a 0).count=1+Tr.f1 (Qz a 0).fJ:=by cases (Qz a 0) with|mk a7 r a6 bc=>exact fW _ _ _ _
  have aQ:=Tq (Qz a 0).fJ;have O:=s8 ([]++(Uj (Qz a 0)).map Tr.tx++(Qd (Qz a 0)).map Tr.tx);have I:=sM (Qz a 0);have d:=Ur (Qz a 0)
  show (gI (Qz a 0) false).length<=_
  unfold gI;simp only[iI,iC];simp only[gj,gu,mE] at O;omega
 generalize gI (Qz a 0) false=au at ak ap
 generalize a.tx=r at D F
 generalize a.fJ.length=R at ah aF bM
 generalize iR q r=aj at F
 obtain⟨aW,ad⟩:=xH (hasB au r);rw[<-ad.out];clear h z aJ aC;go_enter func193,ntmps193;go_wp2_with fail;rw[<-C];have c:Pn p p.drew:=RP.drew;refine wp_region_held (S:=λL=>Pn p L) Qs ?_;refine mK ?_;refine wh 0 (O5 g) c ?_;refine wh 1 (O5 g) c ?_;refine wh 2 (PL g 1) c ?_;refine wh 3 (Pj r) c ?_ (bi:=fM ⟨by kernel_rfl,λL k=>by have m:=PN k D;go_simp⟩)
 refine wh 4 (YX q n t) c ?_ (bi:=fM ⟨by kernel_rfl,λL k=>by
  have m:=YO.fH ax k;have aO:=m.c0;have aQ:=m.c1;have O:=m.c2;clear m;go_simp⟩)
 refine Ye 5 λK f=>?_;go_simp;refine cm (F.out _) ?_;rintro o s ⟨rfl,T⟩;rw[<-C] at T;have i:Pn p s:=c.trans (T.mono Qp);refine p9 ?_;clear f K;refine wh 6 (VZ aj) i ?_;refine YN ?_
 cases aj with
 | some o=>
  unfold VZ;go_wp2;go_ret;exact⟨rfl,A.trans (i.mono A.size)⟩
 | none=>
  unfold VZ;have ai:=PN i D;have aS:=PN i ah;have N:=PN i aG;have bf:g<s.heap.size:=fV ai;have aX:E<s.heap.size:=fV N;have aD:¬ R=0:=O9;go_wp2_with fail;have c:Pn s s.drew:=RP.drew;refine wp_region_held (S:=λL=>Pn s L) Qs ?_;refine mK ?_;refine wh 0 (O5 g) c ?_;refine wh 1 (O5 g) c ?_;refine wh 2 (PL g 3) c ?_;refine wh 3 (.slice (some (O7 E 0)) R aN) c ?_ (bi:=fM ⟨by kernel_rfl,λL k=>by have m:=PN k aS;go_simp⟩)
  refine wh 4 (PL E 0) c ?_ (bi:=fM ⟨by kernel_rfl,λL k=>by have aZ:=aD;go_simp⟩)
  refine wh 5 (O5 H) c ?_ (bi:=fM ⟨by kernel_rfl,λL k=>by have m:=PN k N;go_simp⟩)
  refine wh 7 (O5 g) c ?_;refine wh 8 (O5 g) c ?_;refine wh 9 (PL g 1) c ?_;refine wh 10 (Pj r) c ?_ (bi:=fM ⟨by kernel_rfl,λL k=>by have m:=PN k ai;go_simp⟩)
  refine Ye 6 λK f=>?_;go_simp;refine cm (ak.out _ (i.trans (c.mono i.size))) ?_;rintro o U ⟨⟨u3,rfl,am⟩,aK⟩;obtain⟨a1,aY,rfl⟩:=PW am;have I:Pn s U:=c.trans (aK.mono Qp);refine f.out _ _ I (λ_=>?_);clear f K;have d:=WQ au r _ U am (by have:=O4 ap;omega)
  rw[<-ad.out] at d;refine Ye 11 λK f=>?_;go_simp;refine lC ?_;rintro o a8 ⟨rfl,rfl⟩;refine f.out _ _ I (λ_=>?_);clear f K;refine YN ?_;have aV:=i.trans (I.mono i.size)
  cases aW <;>
  ·go_wp2;go_ret;exact⟨rfl,A.trans (aV.mono A.size)⟩):=O6 h;exact oh
def U7 (a:Nat->Option Int):Nat->Option Int
 | 0=>none
 | b+1=>match U7 a b with
  | some c=>some c
  | none=>a b
def FT {c:Nat->Option Int}{b:Nat}{f:Int}(h:U7 c b=none)(d:c b=some f):∀ a,b<a->U7 c a=some f
 | 0,e=>absurd e O9
 | a+1,e=>by
  rw[U7]
  rcases hT b a with g|g
  ·rw[FT h d a g]
  ·have:b=a:=O9;subst this;rw[h];exact d
def H0 {a:Nat->Option Int}{b:Nat}(h:U7 a b=none)(c:a b=none):U7 a (b+1)=none:=by rw[U7,h];exact c
def VN (c:Bool)(b:List Tr)(a:Nat):Option Int:=match iR c (l4 b a) with
 | some d=>some d
 | none=>if c&&Td (b.take a) (l4 b a) then some 9 else none
def uy (b:Bool)(a:List Tr):Option Int:=U7 (VN b a) a.length
def nG (a:Tr):Bool:=(Qd (Qz a 1)).any λb=>Td (Qz a 0).fJ b.tx
def nq (b:Tr)(c:Bool):Option Int:=match iR c b.tx with
 | some a=>some a
 | none=>match uy c (Qz b 0).fJ with
  | some a=>some a
  | none=>if nG b then some 9 else none
def SU {e:Nat}{l:Pe}{d:Px}{b:List Tr}(h:U6 e l d b)(o:0<b.length):∃ c a,d=.slice (some (O7 c 0)) b.length a/\(b.length:Int)<=(a:Int)/\a<=maxLen:=by
 obtain⟨q,f,k⟩:=h;have j:=Xa.length _ _ k
 rcases f.2 with m|⟨c,a,p,i,_,_,n,g,_⟩
 ·omega
 ·exact⟨c,a,by rw[i,j],by omega,g⟩
structure vh (t:Tr)(p yb yc:Nat)(s i b:Bool)(w:Pe):Prop where
 nt:TV w t p
 cN:w.cell? (O7 yb 0)=some (O5 p)
 pl:YO yc s i b w
def vh.fH {g:Tr}{e i j:Nat}{f d c:Bool}{w b:Pe}(h:vh g e i j f d c w)(a:Pn w b):vh g e i j f d c b:=⟨h.nt.fH a,PN a h.cN,h.pl.fH a⟩
def aaE (a:Tr)(p:Nat)(k n D:Bool)(w:Pe)(h:TV w a p)(aG:2<=a.fJ.length)(aJ:a.count<=20000):Pq 191 #[O5 p,YX k n D] w λg s=>g=PK (VZ (nq a k))/\Pn w s:=by
 have b{G}(h:G:=by
 have aI:∀ q,q<a.fJ.length->(Qz a q).fJ.length<=20000:=λq bq=>by
  rw[Yh a q bq];have B:=TF a.fJ q bq;have ai:(a.fJ[q]).count=1+Tr.f1 (a.fJ[q]).fJ:=by cases a.fJ[q] with|mk a7 r a6 bc=>exact fW _ _ _ _
  have t:=Tq (a.fJ[q]).fJ;omega
 have b9:=aI 0 O9;have b6:=aI 1 O9;obtain⟨A,R⟩:=xE ((w.alloc (.cells #[O5 p] 22)).alloc (.cells #[Pv k,Pv n,Pv D] 112));have C:Pn w A:=by rw[R];exact QJ.alloc P7 _
 have F:vh a p w.heap.size (w.heap.size+1) k n D A:=by
  refine⟨h.fH C,?_,?_⟩
  ·have B:A.heap[w.heap.size]? = some (PZ #[O5 p] 22):=by rw[R,gd _ _ _ P7,Ph]
   rw[cell_of B];rfl
  ·have B:=YO.new (w.alloc (.cells #[O5 p] 22)) k n D;rw[R];simpa using B
 have aS:Hid (∀ d,Pn A d->Pq 249 #[O5 p] d λg s=>(∃ N,g=PK N/\U6 0 d N (Qz a 0).fJ)/\s=d):=λd H=>Fh a p d (F.fH H).nt O9 O9;have bE:Hid (∀ x d,Pq 192 #[Pj x,YX k n D] d λg s=>g=PK (VZ (iR k x))/\Pn d s):=λx d=>V3 k n D x d;have b1:Hid (∀ d,Pn A d->Pq 103 #[O5 p] d λg s=>(∃ o,g=PK (O5 o)/\TV d (Qz a 1) o)/\s=d):=λd H=>HV a p d (F.fH H).nt aG O9
 have bu:Hid (∀ o d,TV d (Qz a 1) o->Pq 77 #[O5 o] d λg s=>(∃ N,g=PK N/\U6 d.heap.size s N (Qd (Qz a 1)))/\Pn d s):=λo d aK=>xm _ o d aK O9;have aW:Hid (∀ v d be,Pn A d->U6 be d v (Qd (Qz a 1))->Pq 248 #[v,.func (.func 250) #[] #[PL w.heap.size 0]] d λg s=>g=PK (Pv (nG a))/\Pn d s):=λv d be H ak=>
  Xg 250 _ (λj=>Td (Qz a 0).fJ j.tx) Ma _ v d ak (by have:=Ur (Qz a 1);omega) (λj _ t L l I=>aoc j a t w.heap.size p L I ((F.fH H).fH l).cN ((F.fH H).fH l).nt O9 O9 O9)
 obtain⟨_,_,aO,_⟩:=F.nt.cells;unfold nq;obtain⟨ad,au⟩:=xE (uy k (Qz a 0).fJ);rw[<-au];have a8:Hid (∀ ax g,ax<(Qz a 0).fJ.length->U7 (VN k (Qz a 0).fJ) ax=none->VN k (Qz a 0).fJ ax=some g->ad=some g):=λax g I B ai=>by rw[au];exact FT B ai _ I
 have bh:Hid (U7 (VN k (Qz a 0).fJ) (Qz a 0).fJ.length=none->ad=none):=λB=>by rw[au];exact B
 generalize nG a=b3 at aW
 generalize Qd (Qz a 1)=ci at bu aW
 generalize (Qz a 0).fJ=P at aS a8 bh b9
 generalize a.tx=r at aO
 have bn:=F.cN;have aQ:=F.pl;clear h aG aJ z bM aI b6 au;have bf:=Y (bE r)
 generalize bU:iR k r=br at bf
 clear bU;have aC:=Y bn;have bB:=Y aO;have aY:=aQ;clear bn aO aQ;go_enter func191,ntmps191;go_wp2_with fail;rw[<-R];have c:Pn A A.drew:=RP.drew;have aQ:=fV bB.out;refine wp_region_held (S:=λL=>Pn A L) Qs ?_;refine mK ?_;refine wh 0 (O5 p) c ?_ (bi:=fM ⟨by kernel_rfl,λL l=>by have m:=PN l aC.out;go_simp⟩)
 refine wh 1 (O5 p) c ?_;refine wh 2 (PL p 1) c ?_;refine wh 3 (Pj r) c ?_ (bi:=fM ⟨by kernel_rfl,λL l=>by have m:=PN l bB.out;go_simp⟩)
 refine wh 4 (YX k n D) c ?_ (bi:=fM ⟨by kernel_rfl,λL l=>by
  have m:=YO.fH aY l;have bZ:=m.c0;have B:=m.c1;have ai:=m.c2;clear m;go_simp⟩)
 refine Ye 5 λK f=>?_;go_simp;refine cm (bf.out _) ?_;rintro g bL ⟨rfl,bo⟩;rw[<-R] at bo;have i:Pn A bL:=c.trans (bo.mono Qp);refine p9 ?_;clear f K;refine wh 6 (VZ br) i ?_;refine YN ?_
 cases br with
 | some g=>
  unfold VZ;go_wp2;go_ret;exact⟨rfl,C.trans (i.mono C.size)⟩
 | none=>
  unfold VZ;have ap:=PN i aC.out;have bG:=fV ap;have aN:=O4 aS bL i;go_wp2_with fail;refine cm aN ?_;rintro g bV ⟨⟨N,rfl,X⟩,rfl⟩;obtain⟨cw,cl,rfl⟩:=X.form;have bQ:=X;clear X ap bG;go_wp2_with fail
  go_loopw [22] (λq wr=>∃ j:Nat,j<=P.length/\q=O3 j/\U7 (VN k P) j=none/\Pn bV wr) (λq _=>P.length - (intOf q).toNat)
  case atStart=>exact⟨0,f3 _,rfl,rfl,RP⟩
  case round=>
   obtain⟨j,aG,rfl,bD,ah⟩:=hrel;have O:=Y bD;clear bD;have E:=i.trans (ah.mono i.size)
   by_cases aj:j<P.length
   ·obtain⟨cp,ck,o,ak,b0,aJ,I⟩:=(bQ.fH ah).cell j aj;simp only[g7] at ak;obtain⟨rfl,_,rfl⟩:=ak;have cn:(j:Int)<(P.length:Int):=O9;obtain⟨bY,_,am,_⟩:=I.cells;rw[<-FO P j aj] at am;have T:Hid (VN k P j=(match iR k (l4 P j) with|some g=>some g|none=>if k&&Td (P.take j) (l4 P j) then some 9 else none)):=rfl
    generalize l4 P j=x at am T
    have bF:=Y (O4 bE x)
    generalize iR k x=bC at bF T
    have bS:=YO.fH aY E;have bI:=Y am;clear I;go_wp2_with fail;have c:Pn wr wr.drew:=RP.drew;refine wp_region_held (S:=λL=>Pn wr L) Qs ?_;refine mK ?_;refine wh 0 (O5 o) c ?_;refine wh 1 (O5 o) c ?_;refine wh 2 (PL o 1) c ?_;refine wh 3 (Pj x) c ?_ (bi:=fM ⟨by kernel_rfl,λL l=>by have m:=PN l bI.out;go_simp⟩)
    refine wh 4 (YX k n D) c ?_ (bi:=fM ⟨by kernel_rfl,λL l=>by
  have m:=YO.fH bS l;have bZ:=m.c0;have B:=m.c1;have ai:=m.c2;clear m;go_simp⟩)
    refine Ye 5 λK f=>?_;go_simp;refine cm (bF.out _) ?_;rintro g t ⟨rfl,bW⟩;have ac:Pn wr t:=c.trans (bW.mono Qp);refine f.out _ _ ac (λ_=>?_);clear f K;refine wh 6 (VZ bC) ac ?_;refine wpAnyH_done Qs ?_ _;go_simp;have aX:=ah.trans (ac.mono ah.size);have M:=E.trans (ac.mono E.size);have bK:=Y (PN ac bI.out);clear am bY aJ b0
    cases bC with
    | some g=>
     have a1:ad=some g:=O4 a8 j g aj O.out T.out;subst a1;unfold VZ;go_wp2;go_ret;exact⟨rfl,C.trans (M.mono C.size)⟩
    | none=>
     unfold VZ;have ba:=YO.fH aY M;have ch:=fV ba.c0;have c:Pn t t.drew:=RP.drew
     cases k with
     | false=>
      have aD:Hid (VN false P j=none):=O4 T;go_wp2_with fail;refine wp_region_held (S:=λL=>Pn t L) Qs ?_;change wpAnyH _ _ _ _ _ _ _ _ (World.drew _);refine wh 0 (PL (w.heap.size+1) 0) c ?_;refine wh 1 (Pv false) c ?_ (bi:=fM ⟨by kernel_rfl,λL l=>by have m:=PN l ba.c0;go_simp⟩)
      refine wh 2 (Pv false) c ?_;refine wh 3 undef c ?_ (bi:=fU ⟨by kernel_rfl,rfl⟩);refine wh 5 undef c ?_ (bi:=fU ⟨by kernel_rfl,rfl⟩);refine wh 7 undef c ?_ (bi:=fU ⟨by kernel_rfl,rfl⟩);refine wh 8 undef c ?_ (bi:=fU ⟨by kernel_rfl,rfl⟩);refine wh 9 undef c ?_ (bi:=fU ⟨by kernel_rfl,rfl⟩);refine wh 10 undef c ?_ (bi:=fU ⟨by kernel_rfl,rfl⟩);refine Ye 4 λK f=>?_;go_simp;refine f.out _ _ c (λ_=>?_);clear f K;refine wh 6 undef c ?_ (bi:=fU ⟨by kernel_rfl,rfl⟩);refine Ye 11 λK f=>?_;go_simp
      refine f.out _ _ c (λ_=>?_);clear f K;refine wh 12 (Pv false) c ?_;refine wpAnyH_done Qs ?_ _;go_simp;go_wp2
      go_roundw
      case rel=>exact⟨j+1,by omega,by go_num,H0 O.out aD.out,aX.drew⟩
      case measure=>simp[intOf];omega
     | true=>
      have bR:=O4 aS t.drew M.drew;have bm:=Y (PN M aC.out);have cg:=fV bm.out;have cu:=fV bK.out;obtain⟨aZ,X⟩:=xE (Td (P.take j) x);have aD:Hid (VN true P j=if aZ then some 9 else none):=by rw[X];exact O4 T
      have b2:=Y X;clear X;go_wp2_with fail;refine wp_region_held (S:=λL=>Pn t L) Qs ?_;change wpAnyH _ _ _ _ _ _ _ _ (World.drew _);refine wh 0 (PL (w.heap.size+1) 0) c ?_;refine wh 1 (Pv true) c ?_ (bi:=fM ⟨by kernel_rfl,λL l=>by have m:=PN l ba.c0;go_simp⟩)
      refine wh 2 (Pv true) c ?_;refine wh 3 (O5 p) c ?_ (bi:=fM ⟨by kernel_rfl,λL l=>by have m:=PN l bm.out;go_simp⟩)
      refine wh 5 (O3 j) c ?_;refine wh 7 (O5 o) c ?_;refine wh 8 (O5 o) c ?_;refine wh 9 (PL o 1) c ?_;refine wh 10 (Pj x) c ?_ (bi:=fM ⟨by kernel_rfl,λL l=>by have m:=PN l bK.out;go_simp⟩)
      refine Ye 4 λK f=>?_;go_simp;refine cm bR ?_;rintro g bv ⟨⟨u5,rfl,U⟩,rfl⟩;obtain⟨b7,bx,rfl,cq,cf⟩:=SU U O9;refine f.out _ _ c (λ_=>?_);clear f K;have bj:=Zq (P.take j) _ x t.drew (U.take j O9) (by rw[hC];omega)
      rw[<-b2.out] at bj;have cr:(j:Int)<=(bx:Int):=O9;refine wh 6 (.slice (some (O7 b7 0)) j bx) c ?_;refine Ye 11 λK f=>?_;go_simp;refine cm bj ?_;rintro g bz ⟨rfl,aV⟩;have aF:Pn t bz:=c.trans (aV.mono Qp);refine f.out _ _ aF (λ_=>?_);clear f K;refine wh 12 (Pv aZ) aF ?_;refine wpAnyH_done Qs ?_ _;go_simp;have bT:=aX.trans (aF.mono aX.size);have b4:=M.trans (aF.mono M.size)
      cases aZ with
      | true=>
       have a1:ad=some 9:=O4 a8 j 9 aj O.out aD.out;subst a1;go_wp2;go_ret;exact⟨rfl,C.trans (b4.mono C.size)⟩
      | false=>
       go_wp2
       go_roundw
       case rel=>exact⟨j+1,by omega,by go_num,H0 O.out aD.out,bT⟩
       case measure=>simp[intOf];omega
   ·have ac:j=P.length:=O9;subst ac;have T:ad=none:=O4 bh O.out;subst T;have ap:=PN E aC.out;have bG:=fV ap;have aN:=O4 b1 wr E;go_wp2_with fail;refine cm aN ?_;rintro g t ⟨⟨o,rfl,aK⟩,rfl⟩;have aF:=O4 bu o t aK;go_wp2_with fail;refine cm aF ?_;rintro g bv ⟨⟨u5,rfl,U⟩,aD⟩;obtain⟨a1,aZ,rfl⟩:=U.form;have M:=E.trans (aD.mono E.size);have am:=O4 aW _ bv _ M U
    cases b3 <;>
    ·go_wp2_with fail;refine cm am ?_;rintro g bz ⟨rfl,aV⟩;have aX:=M.trans (aV.mono M.size);go_wp2;go_ret;exact⟨rfl,C.trans (aX.mono C.size)⟩):=O6 h;exact oh
