import Derived.Deep.MidRow
import Derived.Laws.AppendOwnNone
import Derived.Test.YticfnaiehdpbmaaGreatDoorWa6
set_option maxRecDepth 100000
set_option maxHeartbeats 0
set_option linter.all false
namespace Go.Proofs.YticfnaiehdpbmaaGreatDoor
open Go.RowKit Go.Proofs.Tryz
def Xl {b:gI}{a:Ut}(c:Py)(e d:Nat)(f:Uu b.l a d≠.out)(h:QS b c d e):PN 226 #[Qr b] c (Rt b c e (NV c.heap.size) (Uu b.l a d)):=
 RK (b:=a) c e d _ rfl f h
section
variable {a:gI}{l:Ut}(D:FC a l)(E:∃a7,ka a.l a7 l)(ax:o6 l)
include a l D E ax
def S8:hC a 148 NV (n3 a.l l):=by
 intro m g B aM r L h;have U:=Ap.refl a.R m.heap.size m;have P:=Y h.kP;unfold n3 TU at r;have e:=Y r;have F:=Y L;clear r L;go_enter func148,ntmps148
 cases T:Qx a.l QY B with
 |out=>
  exact TA
 |ga z I=>
  have c:=Qp a QY m B g h PK;exact mu
 |ok aK v=>
  have c:=Qp a QY m B g h PK;have f{G}(h:G:=by
  have f{G}(h:G:=by
  have M:=b;clear h
  cases T:gK a.l v with
  |out=>
   exact TA
  |ga z I=>
   have c:=gS a u v g M;exact qx
  |ok O t=>
   have c:=gS a u v g M;have f{G}(h:G:=by
   intro j ay o;obtain⟨⟨aT,rfl,rfl⟩,b,d⟩:=o;have n:=q.next d;have N:=b
   cases T:Uu a.l l t with
   |out=>
    exact TA
   |ga z I=>
    have c:=Xl (a:=l) ay g t (by rw[T];nofun) N
    exact qU
   |ok aL C=>
    have c:=Xl (a:=l) ay g t (by rw[T];nofun) N
    have f{G}(h:G:=by
    have f{G}(h:G:=by
    cases T:Rk a.l l g C with
    |out=>
     exact TA
    |ga z I=>
     exact AH
    |ok al aJ=>
     have ae:=Ya ax T;have c:=SI D E H g C _ rfl (by rw[T];nofun) R
     have f{G}(h:G:=by
     intro j af o;obtain⟨⟨ap,rfl,ad⟩,b,d⟩:=o;have ak:=S.next d;have f{G}(h:G:=by
     have aI:=b.ap w R.base.size;have f{G}(h:G:=by
     have c:=QO 5 O (.slice (some (Pn s.heap.size 0)) 2 2) (s.alloc (.cells #[Pm au,Pm A] 22)) ⟨_,_,_,rfl⟩;have f{G}(h:G:=by
     obtain⟨aD,aE,aH⟩:=made aI ah (P6.pair (I:=gz m.heap.size) p X) (by simp[maxLen]) #[Pm au,Pm A] rfl 2 rfl 5 O (s.heap.size+1) rfl;exact UM e.out.symm aD.nv aE aH):=Pq h;exact l0):=Pq h;exact B7):=Pq h;exact FM):=Pq h;exact Y4):=Pq h;exact Kz):=Pq h;exact Y4):=Pq h;exact Y4):=Pq h;exact oO):=Pq h;exact Y4
def OC:hC a 157 NV (Xc a.l l):=by
 intro m g aL bb ay aT h;have U:=Ap.refl a.R m.heap.size m;have P:=Y h.kP;unfold Xc TU at ay;have e:=Y ay;have F:=Y aT;clear ay aT;go_enter func157,ntmps157
 cases T:Qx a.l QY aL with
 |out=>
  exact TA
 |ga I O=>
  have c:=Qp a QY m aL g h PK;exact mu
 |ok a8 t=>
  have c:=Qp a QY m aL g h PK;have f{G}(h:G:=by
  have f{G}(h:G:=by
  have aD:=b;clear h;have c:=yo a u t g aD
  cases i:gX a.l t with
  |true=>
   rw[i] at c e;rw[fY rfl] at e;clear i;go_wp2_with fail;refine cm c ?_;rintro j L ⟨rfl,N⟩;have r:=q.next (Ap.of N);have M:=aD.fQ N
   cases T:gK a.l t with
   |out=>
    exact TA
   |ga I O=>
    have c:=gS a L t g M;exact wV
   |ok aI z=>
    have c:=gS a L t g M;have f{G}(h:G:=by
    intro j v o;obtain⟨⟨aX,rfl,rfl⟩,b,d⟩:=o;have n:=r.next d;have B:=b
    cases T:Uu a.l l z with
    |out=>
     exact TA
    |ga I O=>
     have c:=Xl (a:=l) v g z (by rw[T];nofun) B
     exact qU
    |ok ba C=>
     have c:=Xl (a:=l) v g z (by rw[T];nofun) B
     have f{G}(h:G:=by
     have f{G}(h:G:=by
     cases T:Rk a.l l g C with
     |out=>
      exact TA
     |ga I O=>
      exact AH
     |ok al aU=>
      have ae:=Ya ax T;have c:=SI D E H g C _ rfl (by rw[T];nofun) R
      have f{G}(h:G:=by
      intro j af o;obtain⟨⟨ap,rfl,ad⟩,b,d⟩:=o;have ak:=S.next d;have aM:=b;have aW:=Y P.out;have f{G}(h:G:=by
      have aK:=aM.ap w R.base.size;have f{G}(h:G:=by
      have c:=QO 37 aI (.slice (some (Pn s.heap.size 0)) 2 2) (s.alloc (.cells #[Pm au,Pm A] 22)) ⟨_,_,_,rfl⟩;have f{G}(h:G:=by
      obtain⟨aE,aH,aJ⟩:=made aK ah (P6.pair (I:=gz m.heap.size) p X) (by simp[maxLen]) #[Pm au,Pm A] rfl 2 rfl 37 aI (s.heap.size+1) rfl;exact UM e.out.symm aE.nv aH aJ):=Pq h;exact l0):=Pq h;exact B7):=Pq h;exact FM):=Pq h;exact Y4):=Pq h;exact Kz):=Pq h;exact Y4):=Pq h;exact Y4
  |false=>
   rw[i] at c e;rw[fT PK] at e;clear i;go_wp2_with fail;refine cm c ?_;rintro j L ⟨rfl,N⟩;have r:=q.next (Ap.of N);have M:=aD.fQ N
   cases T:Uu a.l l t with
   |out=>
    exact TA
   |ga I O=>
    have c:=Xl (a:=l) L g t (by rw[T];nofun) M
    exact wV
   |ok aI z=>
    have c:=Xl (a:=l) L g t (by rw[T];nofun) M
    have f{G}(h:G:=by
    intro j v o;obtain⟨⟨aX,rfl,C,rfl,R⟩,b,d⟩:=o;have n:=r.next d;have B:=b;have H:=Ul R r.size;have p:=QT.mono (J:=λk=>m.heap.size<=k/\k<v.heap.size) (λ_ i aQ=>⟨i,aQ⟩) _ _ H
    cases T:Rk a.l l g z with
    |out=>
     exact TA
    |ga I O=>
     have c:=SI D E v g z _ rfl (by rw[T];nofun) B
     exact qU
    |ok al aU=>
     have ae:=Ya ax T;have c:=SI D E v g z _ rfl (by rw[T];nofun) B
     have f{G}(h:G:=by
     intro j af o;obtain⟨⟨ap,rfl,ad⟩,b,d⟩:=o;have ak:=n.next d;have aM:=b;have aW:=Y P.out;replace p:=QT.fQ (λk i _=>d.block k i.2 (by have aZ:=Pj P;have aY:=i.1;omega)) _ _ p
     have c:=Zj v.heap.size al ap af ad ae;go_wp2_with fail;refine cm c ?_;rintro j s ⟨rfl,aR,w⟩;have ah:=ak.trans ((Ap.of w).mono n.size);have aK:=aM.ap w B.base.size;replace p:=QT.fQ (λk i _=>w.block k i.2) _ _ p;obtain⟨A,rfl,aO⟩:=aR.nv;have X:=QT.mono (J:=λk=>gz m.heap.size k/\v.heap.size<=k) (λ_ i _=>⟨gr n.size i,i⟩) _ _ aO;have c:=QO 37 PE (.slice (some (Pn s.heap.size 0)) 2 2) (s.alloc (.cells #[Pm C,Pm A] 22)) ⟨_,_,_,rfl⟩
     have f{G}(h:G:=by
     obtain⟨aE,aH,aJ⟩:=made aK ah (P6.pair (I:=gz m.heap.size) p X) (by simp[maxLen]) #[Pm C,Pm A] rfl 2 rfl 37 PE (s.heap.size+1) rfl;exact UM e.out.symm aE.nv aH aJ):=Pq h;exact l0):=Pq h;exact Y4):=Pq h;exact Y4):=Pq h;exact oO):=Pq h;exact Y4
end
def tt {e:gI}{d W:Py}{i g:Nat}(l:QS e W i g)(f:Ap e.R d.heap.size d W)(a:Int)(c:PS)(b:Int)(j:Nat)(k:j=W.heap.size) :
  NV d.heap.size (W.alloc (Qu a c b RF)) (.mk a c b []) (Pm j)/\QS e (W.alloc (Qu a c b RF)) i g/\Ap e.R d.heap.size d (W.alloc (Qu a c b RF)):=by
 subst k;exact⟨(EV.new (KV.nil _ _) f.size a c b).nv,l.alloc _,f.alloc f.size _⟩
def ie {a:gI}{c W:Py}{b d:Nat}(g:QS a W b d)(f:Ap a.R c.heap.size c W)(e:b+1<a.l.length) :
  QS a (W.setCell (Pn a.R 1) (Ph ((b:Int)+1))) (b+1) d/\Ap a.R c.heap.size c (W.setCell (Pn a.R 1) (Ph ((b:Int)+1))):=
 ⟨g.sb (b+1) e Pv,f.setCell (p:=(Pn a.R 1)) (f4 rfl) _⟩
def xJ {m:gI}(d:Nat)(F:WU d)(w:Py)(a l:Nat)(k:PR Tr)(b3:k≠.out)(p:Nat)(o:Sr Ur (fx m.l l)=some p)(b0:oM p=d)(f:∀W,QS m W l a->PN d #[Qr m] W (Rt m W a (NV W.heap.size) k))(h:QS m w l a) :
  PN 347 #[Qr m] w (Rt m w a (NV w.heap.size) k):=by
 have q:Hid (∀W:Py,QS m W l a->(Instr.lookup 231 (.map (some m.mV)) (PI (fx m.l l)) true).run prog W=.ok (.tuple #[.func (.func d) #[PZ m.R 0] #[],PD true]) W):=λW e=>by
  have:=AX m (fx m.l l) W e.base.jG;rw[o] at this;simp only[Hw,b0] at this;exact this
 have X:=h;have U:=Ap.refl m.R w.heap.size w;have HP:=Y f;have s:=Y b3;clear h b3 o b0 f;go_enter func347,ntmps347;go_wp2_with fail;refine oV ?_;refine DW ?_;refine wg 3 (.map (some m.mV)) rfl (fU ⟨by kernel_rfl,λW e=>by have u:=QS.c5 e;go_simp⟩) X.drew ?_
 exact CG
def avN {m:gI}(w:Py)(a l:Nat)(x:Sg)(o:Sr Ur (fx m.l l)=none)(d:iG 0 (fx m.l l)=some x)(h:QS m w l a):PN 347 #[Qr m] w (Rt m w a (NV w.heap.size) (.ok (.mk x.kd PE 0 []) (l+1))):=by
 have f{G}(h:G:=by
 have O:=Y (pH h.base.ends h.lt d);clear d;have D{G}(h:G:=by
 have f{G}(h:G:=by
 have c:=XJ m 0 z l a g;have f{G}(h:G:=by
 have L:=r.next (Ap.of u);have M:=g.fQ u;have N:=L.alloc L.size (.cells #[PI x.tx,Ph x.kd,Ph x.parts,Ph x.str] 275);have E:=M.alloc (.cells #[PI x.tx,Ph x.kd,Ph x.parts,Ph x.str] 275);have H:(n.alloc (.cells #[PI x.tx,Ph x.kd,Ph x.parts,Ph x.str] 275)).heap[n.heap.size]?=some (.cells #[PI x.tx,Ph x.kd,Ph x.parts,Ph x.str] 275):=Pz _ _;have ae:=Y H;clear H;have c:=TD m (n.alloc (.cells #[PI x.tx,Ph x.kd,Ph x.parts,Ph x.str] 275)) l a E
 have D{G}(h:G:=by
 clear B;have f{G}(h:G:=by
 have bO:=Pj O;obtain⟨ah,e⟩:=ie p q bO;have A:=Y (tt (ah.alloc (.cells #[Ph (Qn m.l l).kd,PI (Qn m.l l).tx,Ph (Qn m.l l).n,Ph ((Qn m.l l).pl:Int)] 144)) (e.alloc e.size (.cells #[Ph (Qn m.l l).kd,PI (Qn m.l l).tx,Ph (Qn m.l l).n,Ph ((Qn m.l l).pl:Int)] 144)) x.kd PE 0 (wt.heap.size+1) Qh);have c:=QO x.kd PE RF (wt.alloc (.cells #[Ph (Qn m.l l).kd,PI (Qn m.l l).tx,Ph (Qn m.l l).n,Ph ((Qn m.l l).pl:Int)] 144)) ⟨_,_,_,rfl⟩;exact sD):=Pq h;exact vN):=Pq h;exact GX):=Pq h;exact s4):=Pq h;exact zY):=Pq h;exact GM):=Pq h;exact rn
section
variable {m:gI}(w:Py)(a l:Nat)(o:Sr Ur (fx m.l l)=none)(d:iG 0 (fx m.l l)=none)
include m w a l o d
def Pp (e:(Qn m.l l).kd=1)(h:QS m w l a):PN 347 #[Qr m] w (Rt m w a (NV w.heap.size) (.ok (.mk 23 (Qn m.l l).tx 0 []) (l+1))):=by
 have f{G}(h:G:=by
 clear d;have ah:=Y (Wp h.base.ends h.lt (by rw[e];decide))
 have aD:((Qn m.l l).kd==1)=true:=by rw[e];decide
 have aH:((Qn m.l l).kd==4)=false:=by rw[e];decide
 have aE:((Qn m.l l).kd==3)=false:=by rw[e];decide
 clear e;have f{G}(h:G:=by
 have bO:=Pj ah;obtain⟨ak,H⟩:=ie p q bO;have A:=Y (tt (ak.alloc (.cells #[Ph (Qn m.l l).kd,PI (Qn m.l l).tx,Ph (Qn m.l l).n,Ph ((Qn m.l l).pl:Int)] 144)) (H.alloc H.size (.cells #[Ph (Qn m.l l).kd,PI (Qn m.l l).tx,Ph (Qn m.l l).n,Ph ((Qn m.l l).pl:Int)] 144)) 23 (Qn m.l l).tx 0 (wt.heap.size+1) Qh);have c:=QO 23 (Qn m.l l).tx RF (wt.alloc (.cells #[Ph (Qn m.l l).kd,PI (Qn m.l l).tx,Ph (Qn m.l l).n,Ph ((Qn m.l l).pl:Int)] 144)) ⟨_,_,_,rfl⟩;exact sD):=Pq h;exact sB):=Pq h;exact rn
def aAm (e:(Qn m.l l).kd=4)(h:QS m w l a):PN 347 #[Qr m] w (Rt m w a (NV w.heap.size) (.ok (.mk 18 (Qn m.l l).tx 0 []) (l+1))):=by
 have f{G}(h:G:=by
 clear d;have ah:=Y (Wp h.base.ends h.lt (by rw[e];decide))
 have aD:((Qn m.l l).kd==1)=false:=by rw[e];decide
 have aH:((Qn m.l l).kd==4)=true:=by rw[e];decide
 have aE:((Qn m.l l).kd==3)=false:=by rw[e];decide
 clear e;have f{G}(h:G:=by
 have bO:=Pj ah;obtain⟨ak,H⟩:=ie p q bO;have A:=Y (tt (ak.alloc (.cells #[Ph (Qn m.l l).kd,PI (Qn m.l l).tx,Ph (Qn m.l l).n,Ph ((Qn m.l l).pl:Int)] 144)) (H.alloc H.size (.cells #[Ph (Qn m.l l).kd,PI (Qn m.l l).tx,Ph (Qn m.l l).n,Ph ((Qn m.l l).pl:Int)] 144)) 18 (Qn m.l l).tx 0 (wt.heap.size+1) Qh);have c:=QO 18 (Qn m.l l).tx RF (wt.alloc (.cells #[Ph (Qn m.l l).kd,PI (Qn m.l l).tx,Ph (Qn m.l l).n,Ph ((Qn m.l l).pl:Int)] 144)) ⟨_,_,_,rfl⟩;exact sD):=Pq h;exact sB):=Pq h;exact rn
def aAn (e:(Qn m.l l).kd=3)(h:QS m w l a):PN 347 #[Qr m] w (Rt m w a (NV w.heap.size) (.ok (.mk 17 PE (Qn m.l l).n []) (l+1))):=by
 have f{G}(h:G:=by
 clear d;have ah:=Y (Wp h.base.ends h.lt (by rw[e];decide))
 have aD:((Qn m.l l).kd==1)=false:=by rw[e];decide
 have aH:((Qn m.l l).kd==4)=false:=by rw[e];decide
 have aE:((Qn m.l l).kd==3)=true:=by rw[e];decide
 clear e;have f{G}(h:G:=by
 have bO:=Pj ah;obtain⟨ak,H⟩:=ie p q bO;have A:=Y (tt (ak.alloc (.cells #[Ph (Qn m.l l).kd,PI (Qn m.l l).tx,Ph (Qn m.l l).n,Ph ((Qn m.l l).pl:Int)] 144)) (H.alloc H.size (.cells #[Ph (Qn m.l l).kd,PI (Qn m.l l).tx,Ph (Qn m.l l).n,Ph ((Qn m.l l).pl:Int)] 144)) 17 PE (Qn m.l l).n (wt.heap.size+1) Qh);have c:=QO 17 PE RF (wt.alloc (.cells #[Ph (Qn m.l l).kd,PI (Qn m.l l).tx,Ph (Qn m.l l).n,Ph ((Qn m.l l).pl:Int)] 144)) ⟨_,_,_,rfl⟩;exact sD):=Pq h;exact sB):=Pq h;exact rn
def aAo (H:(Qn m.l l).kd≠1)(e:(Qn m.l l).kd≠4)(A:(Qn m.l l).kd≠3)(h:QS m w l a):PN 347 #[Qr m] w (Rt m w a (NV w.heap.size) (.ga 3 (Qn m.l l).pl)):=by
 have f{G}(h:G:=by
 clear d;have ak:((Qn m.l l).kd==1)=false:=gT.2 H;have ax:((Qn m.l l).kd==4)=false:=gT.2 e;have al:((Qn m.l l).kd==3)=false:=gT.2 A;clear H A e;have f{G}(h:G:=by
 have c:=V8 m 3 (wt.alloc (.cells #[Ph (Qn m.l l).kd,PI (Qn m.l l).tx,Ph (Qn m.l l).n,Ph ((Qn m.l l).pl:Int)] 144)) l a R;go_wp2_with fail;refine cm c ?_;rintro j ap ⟨rfl,ah⟩;exact⟨rfl,Ry rfl (C.next (Ap.of ah))⟩):=Pq h;exact sB):=Pq h;exact rn
end
def aHW:WU 155:=λ_ _=>by kernel_rfl
def aHX:WU 156:=λ_ _=>by kernel_rfl
def M7:WU 157:=λ_ _=>by kernel_rfl
def aHZ {e:PS}{d:Nat}(h:Sr Ur e=some d):d<3:=by
 unfold Sr at h
 cases a:Ur.find? (λc=>decide (e=c.1)) with
 |none=>rw[a] at h;cases h
 |some c=>
  rw[a] at h;have b:=iz a;simp only[mD,he] at h;subst h;simp only[Ur,gE,jf,js] at b
  rcases b with rfl|rfl|rfl <;> decide
def GR {e:gI}{n:Ut}(o:FC e n)(p:∃a,ka e.l a n)(q:o6 n):hC e 347 NV (VD e.l n):=by
 intro f d b l a i h;unfold VD at a
 cases c:Sr Ur (fx e.l b) with
 |some k=>
  have m:=aHZ c;have j:k=0\/k=1\/k=2:=Pv;rw[c] at a
  rcases j with rfl|rfl|rfl
  ·exact xJ 155 aHW f d b l i 0 c rfl (λW g=>yu o W d b l a i g) h
  ·exact xJ 156 aHX f d b l i 1 c rfl (λW g=>Q4 o p W d b l a i g) h
  ·exact xJ 157 M7 f d b l i 2 c rfl (λW g=>OC o p q W d b l a i g) h
 |none=>
  rw[c] at a;simp only at a
  cases g:iG 0 (fx e.l b) with
  |some x=>
   rw[g] at a;subst a;exact avN f d b x c g h
  |none=>
   rw[g] at a;simp only at a
   by_cases k:(Qn e.l b).kd=1
   ·rw[fY k] at a;subst a;exact Pp f d b c g k h
   ·by_cases m:(Qn e.l b).kd=4
    ·rw[fT k,fY m] at a;subst a;exact aAm f d b c g m h
    ·by_cases j:(Qn e.l b).kd=3
     ·rw[fT k,fT m,fY j] at a;subst a;exact aAn f d b c g j h
     ·rw[fT k,fT m,fT j] at a;subst a;exact aAo f d b c g k m j h
def wC {a:gI}{k:Ut}(l:FC a k)(i:Py)(b g:Nat)(s:PR Tr)(u:(Qn a.l g).kd≠6)(n:UR a.l k b g=s)(v:s≠.out)(h:QS a i g b):PN 152 #[Qr a] i (Rt a i b (EV i.heap.size) s):=by
 have af:=RY a.R 160;have U:=Y u;clear u;have M:=Ap.refl a.R i.heap.size i;have E:=Y h.kP;unfold UR at n;have e:=Y n;have F:=Y v;clear n v;go_enter func152,ntmps152;have c:=te a i g b h U.out;go_wp2_with fail;refine cm c ?_;rintro j wk ⟨rfl,A,D⟩;have bh:=M.next D;clear h
 cases T:VA a.l k b (g+1) with
 |out=>
  exact TA
 |ga O S=>
  have c:=yu l wk b (g+1) _ rfl (by rw[T];nofun) A
  exact JA
 |ok ad p=>
  have c:=yu l wk b (g+1) _ rfl (by rw[T];nofun) A
  have f{G}(h:G:=by
  intro j C o;obtain⟨⟨ah,rfl,B,rfl,P⟩,m,d⟩:=o;have q:=bh.next d;have w:=m;have r:=Ul P bh.size
  cases T:QJ a.l k.st b p with
  |out=>
   exact TA
  |ga O S=>
   have c:=oa l C b p w (by rw[T];nofun)
   exact qx
  |ok ae X=>
   have c:=oa l C b p w (by rw[T];nofun)
   have f{G}(h:G:=by
   intro j t o;obtain⟨⟨ak,rfl,z,rfl,R⟩,m,d⟩:=o;have N:=q.next d;replace r:=wQ r d E.out q.size R;have c:=QO (RN (Qn a.l g).tx) PE (.slice (some (Pn t.heap.size 0)) 2 2) (t.alloc (.cells #[Pm B,Pm z] 22)) ⟨_,_,_,rfl⟩;have f{G}(h:G:=by
   obtain⟨H,I,L⟩:=made m N r (by simp[maxLen]) #[Pm B,Pm z] rfl 2 rfl (RN (Qn a.l g).tx) PE (t.heap.size+1) rfl;exact UM e.out.symm H I L):=Pq h;exact l0):=Pq h;exact Y4):=Pq h;exact Y4
def aKs {b:Nat}{g:Py}{c d e f:PO}(a:g.heap[b]?=some (.cells #[c,d,e,f] 144)):pk b g c d e f:=
 ⟨by rw[cell_of a];rfl,by rw[cell_of a];rfl,by rw[cell_of a];rfl,by rw[cell_of a];rfl,Rn a,fR a⟩
def aoi {m:gI}{z:Ut}(B:FC m z):hC m 224 NV (V6 m.l z):=by
 have a1:=RY m.R 224;intro w g l a7 au M h;have al:=Ap.refl m.R w.heap.size w;have A:=Y h.kP;unfold V6 at au;have e:=Y au;have F:=Y M;clear au M;go_enter func224,ntmps224;have c:=TD m w l g h;unfold kC at c;go_wp2_with fail;refine cm c ?_;rintro j wt ⟨rfl,S⟩;have q:=al.next (Ap.of S);have p:=h.fQ S;clear h;have f{G}(h:G:=by
 have n:Hid ((wt.alloc (.cells #[Ph (Qn m.l l).kd,PI (Qn m.l l).tx,Ph (Qn m.l l).n,Ph ((Qn m.l l).pl:Int)] 144)).heap[wt.heap.size]?=some (.cells #[Ph (Qn m.l l).kd,PI (Qn m.l l).tx,Ph (Qn m.l l).n,Ph ((Qn m.l l).pl:Int)] 144)):=Pz _ _;have aH:Hid (m.R<wt.heap.size):=gH A.out q.size
 cases T:z.pr 2 g l with
 |out=>
  exact TA
 |ga aK aL=>
  have c:=B.pr 2 PK PK (wt.alloc (.cells #[Ph (Qn m.l l).kd,PI (Qn m.l l).tx,Ph (Qn m.l l).n,Ph ((Qn m.l l).pl:Int)] 144)) g l _ rfl (by rw[T];nofun) R
  rw[T] at c e;simp only[Qy] at e;clear T;have f{G}(h:G:=by
  exact⟨rfl,Ry e.out.symm (C.next d)⟩):=Pq h;exact Y1
 |ok r a=>
  have c:=B.pr 2 PK PK (wt.alloc (.cells #[Ph (Qn m.l l).kd,PI (Qn m.l l).tx,Ph (Qn m.l l).n,Ph ((Qn m.l l).pl:Int)] 144)) g l _ rfl (by rw[T];nofun) R
  have f{G}(h:G:=by
  intro j aI o;obtain⟨⟨bf,rfl,H,rfl,ax⟩,u,d⟩:=o;have ap:=C.next d;have N:=u;have b:=Ul ax C.size;replace n:=Y ((d.block _ (fR n.out) (by have:=Pj aH;omega)).trans n.out)
  have c:=Ub m aI a g N;go_wp2_with fail;refine cm c ?_;rintro j X ⟨rfl,t⟩;have D:=ap.next (Ap.of t);have U:=N.fQ t;replace b:=Uc b (Ap.of t) A.out;replace n:=Y ((t.block _ (fR n.out)).trans n.out)
  by_cases i:fx m.l a=kG
  ·rw[fY i] at e;have aE:((fx m.l a).toList==[61])=true:=WV (a:=kG) rfl i;have aJ:Hid (Qx m.l kG a=.ok () (a+1)):=by
    show _=_
    unfold Qx;rw[fY i]
   clear i;obtain⟨u1,aX,O,_,_⟩:=b.opens;obtain⟨aM,_,_,_,_⟩:=gx O;clear O
   by_cases k:r.kd=23
   ·have ah:(r.kd != 23)=false:=by rw[k];rfl
    rw[fY (fU k)] at e;clear k;exact Ct
   ·have ah:(r.kd != 23)=true:=bne_iff_ne.2 k
    by_cases s:r.kd=36
    ·have ak:(r.kd != 36)=false:=by rw[s];rfl
     rw[fY (f4 s)] at e;clear k s;exact Ct
    ·have ak:(r.kd != 36)=true:=bne_iff_ne.2 s;rw[fT (λay=>ay.elim k s)] at e;clear k s;obtain⟨a8,a6,ba,bb,tf,be⟩:=aKs n.out;have c:=CZ m 1 (Qn m.l l) X;unfold kC at c;go_wp2_with fail;refine cm c ?_;rintro j aY ⟨rfl,aD⟩;exact⟨rfl,Ry e.out.symm (D.next (Ap.of aD))⟩
  ·rw[fT i] at e;have aE:((fx m.l a).toList==[61])=false:=VX (a:=kG) rfl i;clear i;go_wp2;go_ret;exact UM e.out.symm ⟨H,rfl,b⟩ U D):=Pq h;exact Y4):=Pq h;exact vN
def sg2 {c:PS}{x:Sg}(h:iG 2 c=some x):2<=x.str/\x.str<=7:=by
 unfold iG at h
 cases a:lF c with
 |none=>rw[a] at h;cases h
 |some y=>
  rw[a] at h;have b:=iz a;have e:y=x/\(y.parts==2)=true:=by
   simp only[Option.filter] at h
   split at h
   ·exact⟨hb h,by assumption⟩
   ·
    cases h
  obtain⟨rfl,d⟩:=e;simp only[jJ,gE,jf,js] at b
  rcases b with rfl|rfl|rfl|rfl|rfl|rfl|rfl|rfl|rfl|rfl|rfl|rfl|rfl|rfl <;> first|decide |(exact absurd d PK)
def F0 {a:gI}{d b:Py}{c f:Nat}(x:Sg)(j:QS a b c f)(i:Ap a.R d.heap.size d b)(g:c+1<a.l.length) :
  QS a ((b.setCell (Pn a.R 1) (Ph ((c:Int)+1))).alloc (.cells #[PI x.tx,Ph x.kd,Ph x.parts,Ph x.str] 275)).drew (c+1) f/\Ap a.R d.heap.size d ((b.setCell (Pn a.R 1) (Ph ((c:Int)+1))).alloc (.cells #[PI x.tx,Ph x.kd,Ph x.parts,Ph x.str] 275)).drew /\
  ((b.setCell (Pn a.R 1) (Ph ((c:Int)+1))).alloc (.cells #[PI x.tx,Ph x.kd,Ph x.parts,Ph x.str] 275)).drew.heap[b.heap.size]?=some (.cells #[PI x.tx,Ph x.kd,Ph x.parts,Ph x.str] 275):=by
 obtain⟨k,e⟩:=ie j i g;refine⟨(k.alloc _).drew,(e.alloc e.size _).drew,?_⟩;have:=Pz (b.setCell (Pn a.R 1) (Ph ((c:Int)+1))) (.cells #[PI x.tx,Ph x.kd,Ph x.parts,Ph x.str] 275);rw[ki] at this;exact this
section
variable {m:gI}{a:Ut}
include m a
def Oh (s:hC m 333 NV (VE m.l a))(i:Py)(e g:Nat)(l:PR Tr)(r:iG 1 (fx m.l g)=none)(q:VE m.l a e g=l)(p:l≠.out)(h:QS m i g e):PN 311 #[Qr m] i (Rt m i e (NV i.heap.size) l):=by
 have ad:=Y r;clear r;have v:=Ap.refl m.R i.heap.size i;have k:=Y q;have t:=Y p;clear q p;go_enter func311,ntmps311;have c:=XJ m 1 i g e h;have D{G}(h:G:=by
 have O:=v.next (Ap.of u);have M:=h.fQ u;clear h;have D{G}(h:G:=by
 cases b:VE m.l a e g with
 |out=>
  rw[b] at k;exact absurd k.out.symm t.out
 |ga w z=>
  have c:=s (n.alloc (.cells #[QB,Ph 0,Ph 0,Ph 0] 275)) e g _ rfl (by rw[b];nofun) E
  rw[b] at c k;clear b;have f{G}(h:G:=by
  exact⟨rfl,Ry k.out.symm (N.next d)⟩):=Pq h;exact Y1
 |ok F C=>
  have c:=s (n.alloc (.cells #[QB,Ph 0,Ph 0,Ph 0] 275)) e g _ rfl (by rw[b];nofun) E
  rw[b] at c k;clear b;go_wp2_with fail;refine cm c ?_;intro j I o;obtain⟨⟨H,rfl,B,rfl,A⟩,f,d⟩:=o;have w:=N.next d;have z:=Ul A N.size;go_wp2;go_ret;exact UM k.out.symm ⟨B,rfl,z⟩ f w):=Pq h;exact y6):=Pq h;exact y3
def ajb (ap:FC m a)(w:Py)(k l:Nat)(x:Sg)(C:PR Tr)(A:iG 1 (fx m.l l)=some x)(au:((QJ m.l a.sg k (l+1)).bind λL b=>PR.ok (.mk x.kd PE 0 [L]) b)=C)(b3:C≠.out)(h:QS m w l k):PN 311 #[Qr m] w (Rt m w k (NV w.heap.size) C):=by
 have aJ:=RY m.R 311;have ad:=Y A;have bO:=pH h.base.ends h.lt A;have aD:=h.base.len;clear A;have D:=h;have X:=Ap.refl m.R w.heap.size w;have e:=Y au;have F:=Y b3;clear h au b3;go_enter func311,ntmps311;have c:=XJ m 1 w l k D;have f{G}(h:G:=by
 have ak:=X.next (Ap.of u);have q:=D.fQ u;have aH:=q.c1;have aI:=q.fz;have R:=q.kP;obtain⟨ax,s,E⟩:=F0 x q ak bO;have b:=Y E;have al:Hid (m.R<n.heap.size):=R;clear E
 cases T:QJ m.l a.sg k (l+1) with
 |out=>
  exact TA
 |ga o z=>
  have f{G}(h:G:=by
  simp only[Qy] at e;have f{G}(h:G:=by
  intro j g r;obtain⟨rfl,p⟩:=r;exact⟨rfl,Ry e.out.symm (s.next p)⟩):=Pq h;exact Ji):=Pq h;exact J_
 |ok L aK=>
  have f{G}(h:G:=by
  simp only[gj] at e;have f{G}(h:G:=by
  intro j g r;obtain⟨⟨aL,rfl,o,rfl,ah⟩,M,p⟩:=r;have ae:=s.next p;have af:=Ul ah s.size;have B:=Y ((p.block _ (fR b.out) (by have:=Pj al;omega)).trans b.out)
  refine d.out _ _ B.out (λ_=>?_);clear d K;refine Yd 6 λK d=>?_;go_simp;have z:=Y ((gy g (.cells #[Pm o] 22) _ (fR B.out)).trans B.out);refine d.out _ _ z.out (λ_=>?_);clear d K;refine Yd 7 λK d=>?_;go_simp;refine cm (QO x.kd PE (.slice (some (Pn g.heap.size 0)) 1 1) (g.alloc (.cells #[Pm o] 22)) ⟨_,_,_,rfl⟩) ?_;rintro j aE ⟨rfl,rfl⟩
  have H:=Y ((gy (g.alloc (.cells #[Pm o] 22)) (Qu x.kd PE 0 (.slice (some (Pn g.heap.size 0)) 1 1)) _ (fR z.out)).trans z.out);refine d.out _ _ H.out (λ_=>?_);clear d K;refine wh 8 (Pm (g.alloc (.cells #[Pm o] 22)).heap.size) H.out ?_;refine Y8 ?_;go_wp2;go_ret;obtain⟨N,O,U⟩:=made M ae (P6.cons af P6.nil) (by simp[maxLen]) #[Pm o] rfl 1 rfl x.kd PE (g.heap.size+1) rfl;exact UM e.out.symm N.nv O U):=Pq h;exact Ji):=Pq h;exact J_):=Pq h;exact s4
def ala (j:FC m a)(k:hC m 333 NV (VE m.l a)):hC m 311 NV (UQ m.l a):=by
 intro i f d g b e h;unfold UQ at b
 cases c:iG 1 (fx m.l d) with
 |none=>rw[c] at b;exact Oh k i f d g c b e h
 |some x=>rw[c] at b;exact ajb j i f d x g c b e h
end
def asf {m:gI}{H:Ut}(aJ:FC m H)(aQ:∃i,ka m.l i H)(ae:Int)(w:Py)(g l:Nat)(ah:PR Tr)(au:Yk m.l H ae g l=ah)(b3:ah≠.out)(h:QS m w l g):PN 280 #[Qr m,Ph ae] w (Rt m w g (NV w.heap.size) ah):=by
 have a8:=h.base.ends;have ba:=Y h.base.len;have bm:=Y aQ;clear aQ;have D{G}(h:G:=by
 unfold Yk at au;have e:=Y au;have F:=Y b3;clear h au b3;go_enter func280,ntmps280
 cases T:H.sg g l with
 |out=>
  exact TA
 |ga bf af=>
  have c:=aJ.sg w g l _ rfl (by rw[T];nofun) X
  exact mu
 |ok a6 aY=>
  have c:=aJ.sg w g l _ rfl (by rw[T];nofun) X
  have f{G}(h:G:=by
  intro j s o;obtain⟨⟨bv,rfl,L,rfl,aD⟩,A,d⟩:=o;have ay:=U.next d;have ap:=A;have be:=Ul aD U.size;clear d;go_wp2_with fail
  go_loopw [5] (λv wr=>∃i R k af,v=Pm af/\U2 m.l H ae g i R k=ah/\QS m wr k g/\Ap m.R w.heap.size w wr/\QT (gz w.heap.size) wr R af) (λ_ wr=>m.l.length - pc m wr)
  case atStart=>exact⟨H.fuel,a6,aY,L,rfl,e.out,ap,ay,be⟩
  case round=>
   obtain⟨i,R,k,z,rfl,q,A,bz,r⟩:=hrel
   cases i with
   |zero=>exact absurd q.symm F.out
   |succ i=>
    have ak:=A;have bo:=A;have bn:=A.lt;have bD:=Pj ba;unfold U2 at q
    cases B:iG 2 (fx m.l k) with
    |none=>
     rw[B] at q;have a:=Y q;have ad:=Y B;clear q B;have c:=XJ m 2 wr k g ak;have D{G}(h:G:=by
     have f{G}(h:G:=by
     have D{G}(h:G:=by
     replace r:=Y (Uc r (Ap.of (RV.alloc Qq (.cells #[QB,Ph 0,Ph 0,Ph 0] 275))) p.out);go_wp2;go_ret;exact UM a.out.symm ⟨z,rfl,r⟩ E N):=Pq h;exact y6):=Pq h;exact yz):=Pq h;exact y3
    |some x=>
     rw[B] at q
     dsimp only at q
     have ad:=Y B;have bO:=pH a8 bn B;obtain⟨bB,bJ⟩:=sg2 B;clear B
     by_cases aK:x.str<ae
     ·rw[fY aK] at q;have a:=Y q;clear q;have c:=XJ m 2 wr k g ak;have f{G}(h:G:=by
      have f{G}(h:G:=by
      have N:=O.alloc O.size (.cells #[PI x.tx,Ph x.kd,Ph x.parts,Ph x.str] 275);have E:=M.alloc (.cells #[PI x.tx,Ph x.kd,Ph x.parts,Ph x.str] 275);replace r:=Y (Uc r (Ap.of (RV.alloc Qq (.cells #[PI x.tx,Ph x.kd,Ph x.parts,Ph x.str] 275))) p.out);go_wp2;go_ret;exact UM a.out.symm ⟨z,rfl,r⟩ E N):=Pq h;exact yz):=Pq h;exact s4
     ·rw[fT aK] at q;have a:=Y q;clear q;have c:=XJ m 2 wr k g ak;have f{G}(h:G:=by
      have f{G}(h:G:=by
      have bF:=M.c1;have bG:=M.fz;have a7:=M.kP;obtain⟨bA,aH,aO⟩:=F0 x M O bO;have b:=Y aO;have bq:Hid (m.R<n.heap.size):=a7;replace r:Hid (QT (gz w.heap.size) (((n.setCell (Pn m.R 1) (Ph ((k:Int)+1))).alloc (.cells #[PI x.tx,Ph x.kd,Ph x.parts,Ph x.str] 275)).drew) R z):=Uc (a:=m) r ⟨rfl,rfl,rfl,by simp,λi al ax=>by
       show ((n.setCell (Pn m.R 1) (Ph ((k:Int)+1))).alloc (.cells #[PI x.tx,Ph x.kd,Ph x.parts,Ph x.str] 275)).heap[i]?=_
       rw[gy _ _ i (by simpa using al),gZ n (Pn m.R 1) _ i ax]⟩ p.out
      clear aO
      cases T:H.pr (x.str+1) g (k+1) with
      |out=>
       exact vx
      |ga bf af=>
       have f{G}(h:G:=by
       rw[T] at c a;simp only[Qy] at a;have f{G}(h:G:=by
       intro j bL o;obtain⟨rfl,d⟩:=o;exact⟨rfl,Ry a.out.symm (aH.next d)⟩):=Pq h;exact Bn):=Pq h;exact Ek
      |ok aW al=>
       have f{G}(h:G:=by
       have bH:k+1<al:=by
        obtain⟨aX,ax⟩:=Pj bm;exact((ax.pr (x.str+1) g (k+1) bO).2 aW al T).1
       rw[T] at c a;simp only[gj] at a;have f{G}(h:G:=by
       intro j s o;obtain⟨⟨bv,rfl,L,rfl,aD⟩,A,d⟩:=o;have ay:=aH.next d;have ap:=A;have bI:=A.lt;replace r:=Y (wQ r d p.out aH.size aD);have aE:=Y ((d.block _ (fR b.out) (by have:=Pj bq;omega)).trans b.out)
       clear d;refine C.out _ _ aE.out (λ_=>?_);clear C K;refine Yd 8 λK C=>?_;go_simp;have ax:=Y ((gy s (.cells #[Pm z,Pm L] 22) _ (fR aE.out)).trans aE.out);refine C.out _ _ ax.out (λ_=>?_);clear C K;refine Yd 9 λK C=>?_;go_simp;refine cm (QO x.kd PE (.slice (some (Pn s.heap.size 0)) 2 2) (s.alloc (.cells #[Pm z,Pm L] 22)) ⟨_,_,_,rfl⟩) ?_;rintro j bE ⟨rfl,rfl⟩
       have aR:=Y ((gy (s.alloc (.cells #[Pm z,Pm L] 22)) (Qu x.kd PE 0 (.slice (some (Pn s.heap.size 0)) 2 2)) _ (fR ax.out)).trans ax.out);refine C.out _ _ aR.out (λ_=>?_);clear C K;refine wh 10 (Pm (s.alloc (.cells #[Pm z,Pm L] 22)).heap.size) aR.out ?_;refine Y8 ?_;obtain⟨a1,aL,bb⟩:=made ap ay r (by simp[maxLen]) #[Pm z,Pm L] rfl 2 rfl x.kd PE (s.heap.size+1) rfl;obtain⟨br,aT,bi⟩:=a1.nv;have bh:br=s.heap.size+1:=by simpa[Pm] using aT.symm
       subst bh;clear aT;go_wp2
       go_roundw
       case rel=>exact⟨i,.mk x.kd PE 0 [R,aW],al,s.heap.size+1,rfl,a.out,aL,bb,bi⟩
       case measure=>rw[VL aL,VL bo];omega):=Pq h;exact Bn):=Pq h;exact Ek):=Pq h;exact yz):=Pq h;exact s4):=Pq h;exact Y4):=Pq h;exact pf
def QH (a:List Tk)(b:Ut)(c e:Nat):Xd a b c e=(UR a b c e).bind λd i2=>
  if fx a i2=pB then (QJ a b.st c (i2+1)).bind λs2 f=>.ok (.mk d.kd d.tx d.n (d.fS++[s2])) f else .ok d i2:=by
 unfold Xd UR
 cases VA a b c (e+1) with
 |out=>rfl
 |ga g i=>rfl
 |ok k f=>
  simp only[gj]
  cases QJ a b.st c f with
  |out=>rfl
  |ga g i=>rfl
  |ok j i2=>rfl
def Sw {e:List Tk}{a:Ut}{c f k:Nat}{g:Tr}(h:UR e a c f=.ok g k):g.fS.length=2:=by
 unfold UR at h
 cases d:VA e a c (f+1) with
 |out=>rw[d] at h;cases h
 |ga j l=>rw[d] at h;cases h
 |ok n i=>
  rw[d,gj] at h
  cases b:QJ e a.st c i with
  |out=>rw[b] at h;cases h
  |ga j l=>rw[b] at h;cases h
  |ok m i2=>rw[b,gj] at h;cases h;rfl
def alb {m:gI}{M:Ut}(R:FC m M)(w:Py)(q l:Nat)(aD:PR Tr)(aJ:(Qn m.l l).kd≠6)(au:Xd m.l M q l=aD)(af:aD≠.out)(h:QS m w l q):PN 151 #[Qr m] w (Rt m w q (NV w.heap.size) aD):=by
 have bK:=RY m.R 160;have a8:=Y aJ;have f{G}(h:G:=by
 rw[QH] at au;clear aJ;have D{G}(h:G:=by
 have e:=Y au;have F:=Y af;clear h au af;go_enter func151,ntmps151
 cases T:UR m.l M q l with
 |out=>
  exact TA
 |ga bo bE=>
  have c:=wC R w q l _ a8.out rfl (by rw[T];nofun) X
  exact mu
 |ok bi C=>
  have bA:=Y (Sw T);have c:=wC R w q l _ a8.out rfl (by rw[T];nofun) X
  have f{G}(h:G:=by
  intro j ba o;obtain⟨⟨bN,rfl,bq⟩,u,d⟩:=o;have aL:=U.next d;have ak:=u;have bn:=EV.mono bq U.size;obtain⟨g,u0,bF,rfl,s⟩:=bn.opens
  by_cases B:fx m.l C=pB
  ·rw[fY B] at e;have c:=Ua m pB ba C q ak B PK;clear B;go_wp2_with fail;refine cm c ?_;rintro j n ⟨rfl,bz,aQ⟩;have ad:=bz;have E:=aL.next aQ;replace s:=Y (Open.fQ s aQ p.out);have f{G}(h:G:=by
   cases T:QJ m.l M.st q (C+1) with
   |out=>
    exact TA
   |ga bo bE=>
    have c:=oa R n.drew q (C+1) ad.drew (by rw[T];nofun)
    rw[T] at c e;simp only[Qy] at e;clear T;go_wp2_with fail;refine l2 ?_;refine wt 5 (Qr m) ?_;refine wt 6 (Qr m) ?_;refine wt 7 (.func (.func 160) #[Qr m] #[]) ?_;refine hT 4 8 (λK b=>?_) λK b=>?_
    ·go_simp;refine U4 ?_;clear b K;refine WB 8 λK b=>?_;go_simp;exact Ea
    ·go_simp;exact Ea
   |ok ay ap=>
    have c:=oa R n.drew q (C+1) ad.drew (by rw[T];nofun)
    rw[T] at c e;simp only[gj] at e;clear T;go_wp2_with fail;refine mE (H:=λa k=>Ap m.R n.heap.size n a/\QS m a ap q/\QT (gz n.heap.size) a ay k) (G:=?G1) (λaH=>?_) ?_;rotate_left
    ·refine l2 ?_;refine wt 5 (Qr m) ?_;refine wt 6 (Qr m) ?_;refine wt 7 (.func (.func 160) #[Qr m] #[]) ?_;refine hT 4 8 (λK b=>?_) λK b=>?_
     ·go_simp;refine U4 ?_;clear b K;refine WB 8 λK b=>?_;have f{G}(h:G:=by
      have r:=((Ap.refl m.R n.heap.size n).drew).next d;have al:Hid (Ap m.R n.heap.size n a/\QS m a ap q/\QT (gz n.heap.size) a ay k):=⟨r,u,H⟩;obtain⟨ae,ah,N⟩:=(Open.fQ s r p.out).cell;exact xP):=Pq h;go_simp;exact oK
     ·have f{G}(h:G:=by
      have r:=((Ap.refl m.R n.heap.size n).drew).next d;have al:Hid (Ap m.R n.heap.size n a/\QS m a ap q/\QT (gz n.heap.size) a ay k):=⟨r,u,H⟩;obtain⟨ae,ah,N⟩:=(Open.fQ s r p.out).cell;exact xZ):=Pq h;go_simp;exact oK
    intro a k be;obtain⟨r,u,H⟩:=be;have aM:=E.next r;have z:=Open.fQ s r p.out;have bD:=Open.apart s E.size r p.out (P6.cons H P6.nil);obtain⟨ae,ah,N⟩:=z.cell;have aT:=P6.length _ _ z.fS;have a7:=z.row;rw[aT] at a7;have bH:=aM.size;have bG:bi.fS.length<=3:=by rw[bA.out];decide
    clear aT;refine WB 10 λK b=>?_;refine step_append_lies _ rfl _ _ 38 rfl w.heap.size 22 a6 Rz 1 8 hX aY a1 aW aX rfl PK _ _ _ rfl (a7.alloc _) (Pn a.heap.size 0) 1 1 [Pm k] rfl rfl (TF a k _ rfl) (g8 k) PK (by unfold maxLen;omega) Pv SC (a.heap.size+1) Qh ?_
    intro bJ bI L bx aE aK _;refine b _ _ ?_;clear b K;have br:=Y (nf z bD u aM aR.out bx aE aK);have bv:L.cell? (Pn g 3)=a.cell? (Pn g 3)/\L.frozen? (Pn g 3)=a.frozen? (Pn g 3):=qV
    obtain⟨aI,aO⟩:=bv;rw[ae] at aI;rw[ah 3] at aO;clear aK;refine wt 11 (Pm g) ?_;refine wt 12 (PZ g 3) ?_;refine WB 13 λK b=>?_;go_simp;refine b _ _ ?_;clear b K aI aO ae ah N;refine hj Qz ?_ _;go_simp;obtain⟨bf,bh,bm⟩:=Pj br;go_wp2;go_ret;exact UM e.out.symm bf.nv bh bm):=Pq h;exact qr
  ·rw[fT B] at e;have c:=UL m pB ba C q ak B;clear B;go_wp2_with fail;refine cm c ?_;rintro j n ⟨rfl,a⟩;have ad:=ak.fQ a;have E:=aL.next (Ap.of a);replace s:=Y (Open.fQ s (Ap.of a) p.out);go_wp2;go_ret;exact UM e.out.symm s.ev.nv ad E):=Pq h;exact Y4):=Pq h;exact pf):=Pq h;exact p2
def Ef {i:gI}{a:Nat}{f g:Py}{m l:Nat}{b c d e:PO}(h:QS i f m l)(n:i.lo<=a)(o:f.heap[a]?=some Uy)(j:g=(((f.setCell (Pn a 0) b).setCell (Pn a 1) c).setCell (Pn a 2) d).setCell (Pn a 3) e) :
  QS i g m l/\Below a f g/\pk a g b c d e:=by
 have k:Below a f g:=by
  rw[j];exact((((gi _ f).setCell (p:=(Pn a 0)) Qq b).setCell (p:=(Pn a 1)) Qq c).setCell (p:=(Pn a 2)) Qq d).setCell (p:=(Pn a 3)) Qq e
 refine⟨h.ap k n,k,i8 ?_⟩;rw[j];exact lY o b c d e
section
variable {m:gI}(w:Py)(c l:Nat)
include m w c l
def KW (a:(Qn m.l l).kd=1)(h:QS m w l c):PN 348 #[Qr m] w λb f=>b=PY (PD true)/\PG w f:=by
 have k:=gi w.heap.size w;have g:((Qn m.l l).kd==1)=true:=by rw[a];decide
 have i:((Qn m.l l).kd==3)=false:=by rw[a];decide
 have j:((Qn m.l l).kd==4)=false:=by rw[a];decide
 exact yW
def Lu (a:(Qn m.l l).kd=3)(h:QS m w l c):PN 348 #[Qr m] w λb f=>b=PY (PD true)/\PG w f:=by
 have k:=gi w.heap.size w;have g:((Qn m.l l).kd==1)=false:=by rw[a];decide
 have i:((Qn m.l l).kd==3)=true:=by rw[a];decide
 have j:((Qn m.l l).kd==4)=false:=by rw[a];decide
 exact yW
def aAq (a:(Qn m.l l).kd=4)(h:QS m w l c):PN 348 #[Qr m] w λb f=>b=PY (PD true)/\PG w f:=by
 have k:=gi w.heap.size w;have g:((Qn m.l l).kd==1)=false:=by rw[a];decide
 have i:((Qn m.l l).kd==3)=false:=by rw[a];decide
 have j:((Qn m.l l).kd==4)=true:=by rw[a];decide
 exact yW
end
section
variable {m:gI}(w:Py)(a l:Nat)(z:(Qn m.l l).kd≠1)(u:(Qn m.l l).kd≠3)(r:(Qn m.l l).kd≠4)
include m w a l z u r
def aAr (c:Nat)(o:Sr Ur (fx m.l l)=some c)(h:QS m w l a):PN 348 #[Qr m] w λf j=>f=PY (PD true)/\PG w j:=by
 have d{G}(h:G:=by
 have q:Hid (∀W:Py,QS m W l a->(Instr.lookup 231 (.map (some m.mV)) (PI (fx m.l l)) true).run prog W=.ok (.tuple #[.func (.func (oM c)) #[PZ m.R 0] #[],PD true]) W):=λW k=>EY
 clear h z u r o;have d{G}(h:G:=by
 refine wg 6 (.tuple #[.func (.func (oM c)) #[PZ m.R 0] #[],PD true]) rfl (fU ⟨by kernel_rfl,λW k=>by have s:=q.out W k;go_simp⟩) g ?_
 refine wh 7 (.tuple #[.func (.func (oM c)) #[PZ m.R 0] #[],PD true]) g ?_;refine wh 8 (.func (.func (oM c)) #[PZ m.R 0] #[]) g ?_;refine wh 9 (PD true) g ?_;refine wh 10 (.func (.func (oM c)) #[PZ m.R 0] #[]) g ?_;refine wh 11 (PD true) g ?_;refine Y8 ?_;go_wp2;go_ret;exact⟨rfl,p⟩):=Pq h;exact yk):=Pq h;exact yR
def avR (o:Sr Ur (fx m.l l)=none)(L:lF (fx m.l l)=none)(h:QS m w l a):PN 348 #[Qr m] w λf O=>f=PY (PD false)/\PG w O:=by
 have d{G}(h:G:=by
 have d{G}(h:G:=by
 have M:Hid (∀W:Py,QS m W l a->(Instr.lookup 229 (.map (some m.mS)) (PI (fx m.l l)) true).run prog W=.ok (.tuple #[.agg #[QB,Ph 0,Ph 0,Ph 0],PD false]) W):=λW k=>by
  have:=YM m (fx m.l l) W k.base.hB;rw[L] at this;exact this
 clear h z u r o L;have d{G}(h:G:=by
 have d{G}(h:G:=by
 refine wpAnyH_ready (rs:=[5,10]) Qz Qh (AllReadyH.cons rfl (λK b=>?_) (AllReadyH.cons rfl (λK b=>?_) AllReadyH.nil))
 ·have d{G}(h:G:=by
  refine wg 6 (.tuple #[.agg #[QB,Ph 0,Ph 0,Ph 0],PD false]) rfl (fU ⟨by kernel_rfl,λW k=>by have s:=M.out W k;go_simp⟩) c ?_
  refine xi ?_;refine q7 ?_;refine Yd 11 λK b=>?_;go_simp;have C:=c.alloc (.cells #[QB,Ph 0,Ph 0,Ph 0] 275);have N:=j.alloc j.size (.cells #[QB,Ph 0,Ph 0,Ph 0] 275);exact C1):=Pq h;go_simp;exact Ec
 ·have d{G}(h:G:=by
  refine wg 6 (.tuple #[.agg #[QB,Ph 0,Ph 0,Ph 0],PD false]) rfl (fU ⟨by kernel_rfl,λW k=>by have s:=M.out W k;go_simp⟩) c ?_
  refine xi ?_;refine Yd 11 λK b=>?_;go_simp;clear X R U ae ad af;obtain⟨aH,B⟩:=xE ((((A.setCell (Pn e.heap.size 0) (QB)).setCell (Pn e.heap.size 1) (Ph 0)).setCell (Pn e.heap.size 2) (Ph 0)).setCell (Pn e.heap.size 3) (Ph 0));obtain⟨aE,aD,⟨aI,aJ,s2,aK,aL,aO⟩⟩:=Ef (b:=QB) (c:=Ph 0) (d:=Ph 0) (e:=Ph 0) c ak.out ah.out B;have C:=aE;have N:=j.trans (aD.mono p.size);rw[<-B];clear B;exact C1):=Pq h;go_simp;exact B3):=Pq h;exact E5):=Pq h;exact yk):=Pq h;exact Hx):=Pq h;exact yR
def avS (x:Sg)(o:Sr Ur (fx m.l l)=none)(M:lF (fx m.l l)=some x)(h:QS m w l a):PN 348 #[Qr m] w λf aD=>f=PY (PD (decide (x.parts<2)))/\PG w aD:=by
 have d{G}(h:G:=by
 have d{G}(h:G:=by
 have aE:Hid (∀W:Py,QS m W l a->(Instr.lookup 229 (.map (some m.mS)) (PI (fx m.l l)) true).run prog W=.ok (.tuple #[.agg #[PI x.tx,Ph x.kd,Ph x.parts,Ph x.str],PD true]) W):=λW k=>by
  have:=YM m (fx m.l l) W k.base.hB;rw[M] at this;exact this
 clear h z u r o M;have d{G}(h:G:=by
 have d{G}(h:G:=by
 refine wpAnyH_ready (rs:=[5,10]) Qz Qh (AllReadyH.cons rfl (λK b=>?_) (AllReadyH.cons rfl (λK b=>?_) AllReadyH.nil))
 ·have d{G}(h:G:=by
  have d{G}(h:G:=by
  refine q7 ?_;refine Yd 11 λK b=>?_;go_simp;have C:=c.alloc (.cells #[PI x.tx,Ph x.kd,Ph x.parts,Ph x.str] 275);have O:=j.alloc j.size (.cells #[PI x.tx,Ph x.kd,Ph x.parts,Ph x.str] 275);exact Br):=Pq h;exact EQ):=Pq h;go_simp;exact Ec
 ·have d{G}(h:G:=by
  have d{G}(h:G:=by
  refine Yd 11 λK b=>?_;go_simp;clear X R U ae ad af;obtain⟨aH,B⟩:=xE ((((A.setCell (Pn e.heap.size 0) (PI x.tx)).setCell (Pn e.heap.size 1) (Ph x.kd)).setCell (Pn e.heap.size 2) (Ph x.parts)).setCell (Pn e.heap.size 3) (Ph x.str));obtain⟨N,L,⟨aI,aJ,s2,aK,aL,aO⟩⟩:=Ef (b:=PI x.tx) (c:=Ph x.kd) (d:=Ph x.parts) (e:=Ph x.str) c ak.out ah.out B;have C:=N;have O:=j.trans (L.mono p.size);rw[<-B];clear B N L;exact Br):=Pq h;exact EQ):=Pq h;go_simp;exact B3):=Pq h;exact E5):=Pq h;exact yk):=Pq h;exact Hx):=Pq h;exact yR
end
def NF (b:gI):pd b 348 (hY b.l):=by
 intro g e a h;unfold hY
 by_cases f:(Qn b.l a).kd=1
 ·rw[f];exact KW g e a f h
 ·by_cases d:(Qn b.l a).kd=3
  ·rw[d];exact Lu g e a d h
  ·by_cases c:(Qn b.l a).kd=4
   ·rw[c];exact aAq g e a c h
   ·rw[gT.2 f,gT.2 d,gT.2 c];simp only[hL]
    cases k:Sr Ur (fx b.l a) with
    |some i=>exact aAr g e a f d c i k h
    |none=>
     cases l:lF (fx b.l a) with
     |none=>exact avR g e a f d c k l h
     |some x=>
      have i:=avS g e a f d c x k l h
      cases j:decide (x.parts<2) with
      |true=>rw[j] at i;simpa[Option.filter,j] using i
      |false=>rw[j] at i;simpa[Option.filter,j] using i
def Ns {i:gI}{d c:Py}{n l:Nat}{j:Tr}{a:Nat}{f:PO}{o:List Nat}(e:Open d.heap.size c j a f o)(q:QS i c n l)(p:Ap i.R d.heap.size d c)(t:i.lo<=d.heap.size) :
  EV d.heap.size (c.setCell (Pn a 3) f) (.mk j.kd j.tx j.n (j.fS++[])) (Pm a)/\QS i (c.setCell (Pn a 3) f) n l/\Ap i.R d.heap.size d (c.setCell (Pn a 3) f):=by
 have m:∀b,b≠a->(c.setCell (Pn a 3) f).heap[b]?=c.heap[b]?:=λb g=>gZ c (Pn a 3) _ b g;have k:Below d.heap.size c (c.setCell (Pn a 3) f):=RV.setCell (p:=(Pn a 3)) e.low _;refine⟨?_,q.ap k t,p.trans (Ap.of k)⟩;rw[iX];refine⟨a,f,o,rfl,e.low,by rw[gb e.gG];rfl,?_,e.own,P6.fQ (λb g _=>m b g.2.1) _ _ e.fS⟩
 exact Qw (a:=λb=>b≠a) (λb g _=>m b g) (λu s r=>e.own (by rw[s,r])) e.row
def OE {i:gI}{a b e:Py}{u r:Nat}{g:Tr}{s:List Tr}{d f j c:Nat}{l:PO}{n o:List Nat}(k:Open a.heap.size b g d l n)(z:P6 (λm=>a.heap.size<=m/\m≠d/\l.ownBlock≠some m) b (g.fS++s) (n++o))(A:QS i b u r)(q:Ap i.R a.heap.size a b)(F:i.lo<=a.heap.size)(D:e.ownsRow a.heap.size 22 1 (.slice (some (Pn f 0)) c j) c (n.map Pm++o.map Pm))(w:c=n.length+o.length)(p:b.grownBy e l.ownBlock)(B:l.ownBlock=some f\/f=b.heap.size) :
  EV a.heap.size (e.setCell (Pn d 3) (.slice (some (Pn f 0)) c j)) (.mk g.kd g.tx g.n (g.fS++s)) (Pm d) /\
  QS i (e.setCell (Pn d 3) (.slice (some (Pn f 0)) c j)) u r /\
  Ap i.R a.heap.size a (e.setCell (Pn d 3) (.slice (some (Pn f 0)) c j)):=by
 have E:∀m,l.ownBlock=some m->a.heap.size<=m:=λm v=>(Qm k.row m v).2;have C:Below a.heap.size b e:=(gi a.heap.size b).grown p q.size E;have t:Below a.heap.size b (e.setCell (Pn d 3) (.slice (some (Pn f 0)) c j)):=C.setCell (p:=(Pn d 3)) k.low _;refine⟨?_,A.ap t F,q.trans (Ap.of t)⟩;exact Cp k.low k.gG k.own z (by rw[hc];exact D) (by rw[w,gg]) p B
def Tw:WU 348:=λ_ _=>by kernel_rfl
def aGV:WU 349:=λ_ _=>by kernel_rfl
def LV.vX {l:Nat}{k:Py}{c:List Tr}{n:PO}(h:LV l k c n)(u:c≠[]):∃e g a,n=.slice (some (Pn e 0)) c.length g/\a.length=c.length/\P6 (gz l) k c a/\(∀d j,(a.map Pm)[d]?=some j->k.cell? (((Pn e 0):Addr).add d)=some j):=by
 obtain⟨⟨a,p,m⟩,_,_⟩:=h;have i:=P6.length _ _ m;have r:0<a.length:=by rw[i];exact List.length_pos_iff.2 u
 obtain⟨e,g,s,q⟩:=UC p r;refine⟨e,g,a,by rw[s,i],i,P6.mono (λt o _=>o.1) _ _ m,λd j b=>?_⟩;rw[Addr.add_mid,h3];rw[jc] at b
 cases f:a[d]? with
 |none=>rw[f] at b;cases b
 |some v=>
  rw[f] at b;obtain⟨o,t⟩:=gs.1 f;rw[q d o,t];exact b
def avs (c:List Nat):∀a ∈ c.map Pm,a.oneCell'=true:=by
 intro a b;obtain⟨d,_,rfl⟩:=h4.1 b;rfl
def Open.cap {e:Nat}{w:Py}{d:Tr}{g:Nat}{c:Option Addr}{bB uc:Nat}{i:List Nat}(h:Open e w d g (.slice c bB uc) i)(j:0<d.fS.length):bB<=uc/\∃a,c=some (Pn a 0):=by
 have p:=P6.length _ _ h.fS
 rcases h.row.2 with k|⟨a,n,o,b,_,_,f,_⟩
 ·omega
 ·simp only[g7] at b;obtain⟨rfl,rfl,rfl⟩:=b;exact⟨f,a,rfl⟩
def R3 {m:gI}{k:Ut}(a8:FC m k)(aK:∃i,ka m.l i k)(b:o6 k):hC m 333 NV (VE m.l k):=by
 have cU:=RY m.R 348;have cS:=RY m.R 349;intro w q l bZ au af h;have bx:=Y h.base.size;have aR:=h.base.ends;have bP:=Y h.base.len;obtain⟨cA,cp,cr,ce,ck⟩:=g2 io;have bX:=Y aK;have D{G}(h:G:=by
 unfold VE at au;have e:=Y au;have F:=Y af;clear h au af;go_enter func333,ntmps333
 cases T:VD m.l k q l with
 |out=>
  exact TA
 |ga bi al=>
  have c:=GR a8 aK b w q l _ rfl (by rw[T];nofun) X
  exact mu
 |ok bN bh=>
  have c:=GR a8 aK b w q l _ rfl (by rw[T];nofun) X
  have f{G}(h:G:=by
  intro j cZ o;obtain⟨⟨cY,rfl,bY,rfl,bS⟩,g,d⟩:=o;have bQ:=U.next d;have bK:=g;have bR:=Ul bS U.size;clear d;clear aK b;go_wp2_with fail
  go_loopw [3] (λv wr=>∃i r A al,v=Pm al/\TV m.l k q i r A=bZ/\QS m wr A q/\Ap m.R w.heap.size w wr/\QT (gz w.heap.size) wr r al) (λ_ wr=>m.l.length - pc m wr)
  case atStart=>exact⟨k.fuel,bN,bh,bY,rfl,e.out,bK,bQ,bR⟩
  case round=>
   obtain⟨i,r,A,C,rfl,aJ,g,cB,z⟩:=hrel
   cases i with
   |zero=>exact absurd aJ.symm F.out
   |succ i=>
    have cC:=g;have a1:=g;have bm:=g.lt;have cT:=Pj bP;unfold TV at aJ;have e:=Y aJ;have c:=Ub m wr A q g;clear aJ
    by_cases E:fx m.l A=sP
    ·rw[fY E] at e;have b1:((fx m.l A).toList==[46])=true:=WV (a:=sP) rfl E;have bO:=XU aR bm E PK;clear E;have f{G}(h:G:=by
     have I:=ad.c1;have L:=ad.fz;have cV:=ad.kP;obtain⟨B,t⟩:=ie ad a6 bO;replace z:=Y (Uc (a:=m) z (Ap.setCell (R:=m.R) (Ap.refl _ _ _) (p:=(Pn m.R 1)) (f4 rfl) (Ph ((A:Int)+1))) p.out)
     cases T:gK m.l (A+1) with
     |out=>
      exact TA
     |ga bi al=>
      have c:=gS m (u.setCell (Pn m.R 1) (Ph ((A:Int)+1))) (A+1) q B;rw[T] at c e;simp only[Qy] at e;clear T;have f{G}(h:G:=by
      exact⟨rfl,Ry e.out.symm (t.next d)⟩):=Pq h;exact Y1
     |ok n aM=>
      have bW:=((WA (d:=True) aR bO).2 _ _ T).1;have c:=gS m (u.setCell (Pn m.R 1) (Ph ((A:Int)+1))) (A+1) q B;have f{G}(h:G:=by
      intro j a o;obtain⟨⟨N,rfl,rfl⟩,g,d⟩:=o;have H:=t.next d;have s:=g;replace z:=Y (Uc z d p.out);clear d;have cE:=s.lt;have c:=QO 36 n (.slice (some (Pn a.heap.size 0)) 1 1) (a.alloc (.cells #[Pm C] 22)) ⟨_,_,_,rfl⟩;go_wp2_with fail;refine cm c ?_;rintro j R ⟨rfl,rfl⟩;obtain⟨ae,aD,aE⟩:=made s H (P6.cons z P6.nil) (by simp[maxLen]) #[Pm C] rfl 1 rfl 36 n (a.heap.size+1) rfl;obtain⟨aI,aH,bf⟩:=ae.nv;have ak:aI=a.heap.size+1:=by simpa[Pm] using aH.symm
      subst ak;have aO:=bf;have M:=aD;have aQ:=aE;clear aH;go_wp2
      go_roundw
      case rel=>exact⟨i,.mk 36 n 0 [r],aM,a.heap.size+1,by simp,e.out,M,aQ,aO⟩
      case measure=>rw[VL M,VL a1];omega):=Pq h;exact Y4):=Pq h;exact vj
    ·rw[fT E] at e;have b1:((fx m.l A).toList==[46])=false:=VX (a:=sP) rfl E;clear E
     by_cases aZ:fx m.l A=TT
     ·rw[fY aZ] at e;have bJ:((fx m.l A).toList==[40])=true:=WV (a:=TT) rfl aZ;clear aZ;have f{G}(h:G:=by
      have c:=QO 35 PE (.slice (some (Pn u.heap.size 0)) 1 1) (u.alloc (.cells #[Pm C] 22)) ⟨_,_,_,rfl⟩;go_wp2_with fail;refine cm c ?_;rintro j cP ⟨rfl,rfl⟩;obtain⟨ae,aD,aE⟩:=made ad a6 (P6.cons z P6.nil) (by simp[maxLen]) #[Pm C] rfl 1 rfl 35 PE (u.heap.size+1) rfl;obtain⟨n,N⟩:=xE (.mk 35 PE 0 [r]:Tr);rw[<-N] at ae;have bz:Hid (n.fS.length=1):=by
       show _=_
       rw[N];rfl
      have cK:=Y N;obtain⟨a,u0,cQ,ak,s⟩:=ae.opens;have aL:a=u.heap.size+1:=by simpa[Pm] using ak.symm
      rw[aL] at s;have bE:=aD;have ah:=aE;clear ak N;obtain⟨R,aT⟩:=xE ((u.alloc (.cells #[Pm C] 22)).alloc (Qu 35 PE 0 (.slice (some (Pn u.heap.size 0)) 1 1)));rw[<-aT] at s bE ah;rw[<-aL] at s;rw[show (u.alloc (.cells #[Pm C] 22)).heap.size=a by rw[aL];simp,<-aT]
      clear aT aL;have f{G}(h:G:=by
      obtain⟨cX,bD⟩:=Pj bX
      cases T:XR m.l TT U1 (hY m.l) (oN m.l k q) k.fuel A with
      |out=>
       exact TA
      |ga bi al=>
       have f{G}(h:G:=by
       rw[T] at c e;simp only[Qy] at e;clear T;go_wp2_with fail;refine pA ?_;refine Jv ?_;refine hT 4 10 (λK b=>?_) λK b=>?_
       ·go_simp;refine U4 ?_;clear b K;refine WB 10 λK b=>?_;go_simp;exact ub
       ·go_simp;exact ub):=Pq h;exact Bi
      |ok B aM=>
       have f{G}(h:G:=by
       have bW:=((t6 (e:=False) aR bm PK PK (λh=>h.elim) (λbh _ bU=>xQ bD bU (λh=>h.elim))).2 _ _ T).1;rw[T] at c e;simp only[gj] at e;clear T;go_wp2_with fail;refine pA ?_;refine Jv ?_;refine hT 4 10 (λK b=>?_) λK b=>?_
       ·go_simp;refine U4 ?_;clear b K;refine WB 10 λK b=>?_;have f{G}(h:G:=by
        clear b K;exact Eb):=Pq h;go_simp;exact HR
       ·have f{G}(h:G:=by
        clear b K;refine VP 4 ?_;exact Eb):=Pq h;go_simp;exact HR):=Pq h;exact Bi):=Pq h;exact qr):=Pq h;exact vj
     ·rw[fT aZ] at e;have bJ:((fx m.l A).toList==[40])=false:=VX (a:=TT) rfl aZ;clear aZ;have f{G}(h:G:=by
      go_wp2;go_ret;exact UM e.out.symm ⟨C,rfl,z⟩ ad a6):=Pq h;exact vj):=Pq h;exact Y4):=Pq h;exact pf
def P6.get {e:Nat->Prop}{g:Py}:∀(b:List Tr)(d:List Nat),P6 e g b d->∀a,(c:a<b.length)->∃f:a<d.length,QT e g b[a] d[a]
 |[],_,_,a,c=>absurd c Qh
 |n::b,d,h,a,c=>by
  obtain⟨m,k,rfl,l,i⟩:=h.parts
  cases a with
  |zero=>exact⟨by simp,l⟩
  |succ a=>
   obtain⟨f,j⟩:=P6.get b k i a (by simpa using c);exact⟨by simpa using f,by simpa using j⟩
def Xh.get {e:Nat->Prop}{g:Py}:∀(b:List Tr)(d:List Nat),Xh e g b d->∀a,(c:a<b.length)->∃f:a<d.length,QT e g b[a] d[a]
 |[],_,_,a,c=>absurd c Qh
 |n::b,d,h,a,c=>by
  obtain⟨m,k,rfl,l,i⟩:=h
  cases a with
  |zero=>exact⟨by simp,l⟩
  |succ a=>
   obtain⟨f,j⟩:=Xh.get b k i a (by simpa using c);exact⟨by simpa using f,by simpa using j⟩
def WC:∀(a:List Tr)(b:Nat)(c:b<a.length),Tr.f5 (a.take (b+1))=Tr.f5 (a.take b)+(a[b]).count
 |[],b,c=>absurd c Qh
 |d::a,0,_=>by simp[PW,P8]
 |d::a,b+1,c=>by
  have:=WC a b (by simpa using c);simp only[jb,PW,List.getElem_cons_succ];omega
def UO (a:List Tr)(b:Nat)(c:b<a.length):(a[b]).count<=Tr.f5 a:=by
 have e:=WC a b c;have d:Tr.f5 a=Tr.f5 (a.take (b+1))+Tr.f5 (a.drop (b+1)):=by rw[<-Vm,jm]
 omega
def aoy (a:Tr):1<=a.count:=by cases a with|mk b e d c=>rw[f9];omega
def Tn:∀(a:List Tr),a.length<=Tr.f5 a
 |[]=>by simp
 |b::a=>by
  have d:=aoy b;have c:=Tn a;rw[PW,g4];omega
abbrev H7 (a:Nat):PO:=.func (.func 72) #[] #[PZ a 0]
def Lc (g:PO)(a:Nat)(b:Int)(c:Py)(j:c.cell? (Pn a 0)=some (Ph b))(i:∀f,c.frozen? (Pn a f)=false)(k:0<=b)(l:b<=100000) :
  PN 72 #[g,PZ a 0] c λe d=>e=PY (PD true)/\d=c.setCell (Pn a 0) (Ph (b+1)):=by
 go_enter func72,ntmps72;go_wp2;go_ret;exact⟨rfl,rfl⟩
def QT.qe {e:Nat->Prop}{d:Py}{a:Tr}{g:Nat}(h:QT e d a g):∃c b,d.heap[g]?=some (Qu a.kd a.tx a.n c)/\d.ownsRow 0 22 1 c b.length (b.map Pm)/\(∀f,c.ownBlock=some f->e f)/\P6 e d a.fS b:=by
 cases a with
 |mk m p o n=>
  rw[QT] at h;obtain⟨_,c,b,k,f,j⟩:=h;exact⟨c,b,k,f.1,f.2,P6.mono (λl i _=>i.1) _ _ j⟩
structure pi (b:Nat)(n:Nat)(w:Py):Prop where
 gG:w.heap[b]?=some (Qb #[Ph (n:Int)] 3)
def pi.set {a f:Nat}{d:Py}(h:pi a f d)(b:Nat){c:Int}(e:c=(b:Int)):pi a b (d.setCell (Pn a 0) (Ph c)):=⟨by rw[gb h.gG,e];rfl⟩
def W6:WU 72:=λ_ _=>by kernel_rfl
def mO (O:Nat):∀(p:Nat)(a:Tr),a.count<=p->∀(e bB:Nat)(w:Py),QT (λx=>x≠O) w a e->pi O bB w->bB+a.count<=100000 ->
  PN 36 #[Pm e,H7 O] w λi E=>i=PY (.tuple #[])/\pi O (bB+a.count) E/\Ap O w.heap.size w E:=by
 intro p
 induction p with
 |zero=>
  exact xY
 |succ p H=>
  intro a d e bB w A g B;obtain⟨bq,j,q,n,U,M⟩:=A.qe;have aK:=P6.length _ _ M;have u:e≠O:=by
   cases a with
   |mk be r bb bf=>rw[QT] at A;exact A.1
  have b{G}(h:G:=by
  have L:w.cell? (Pn O 0)=some (Ph (bB:Int)):=by rw[cell_of g.gG];rfl
  have X:=Rn g.gG;have bm:=W6;have bi:∀W:Py,(binOp .eql 47 (H7 O) .nilFunc).run prog W=.ok (PD false) W:=λW=>by kernel_rfl
  have o:=Lc (Pm e) O (bB:Int) w L X Pv Pv;have a1:=g;have aW:=Y U;have aR:=Y H;have ad:=Y D;have aX:=Y d;have aT:=Y B;have aQ:¬ O=e:=λi=>u i.symm;have z:(w.setCell (Pn O 0) (Ph ((bB:Int)+1))).cell? (Pn e 3)=some (.slice br j.length uc):=by
   rw[gN (w:=w) (gZ w (Pn O 0) _ e u)];exact C
  rw[aK] at z;have aM:=Y z;clear L X U H D d B q C u aQ z;have a8:=Pj aM;go_enter func36,ntmps36;go_wp2_with fail;refine cm o ?_;rintro i bx ⟨rfl,rfl⟩;go_wp2_with fail
  go_loopw [23] (λl wr=>∃c:Nat,c<=a.fS.length/\l=Ph c/\pi O (bB+1+Tr.f5 (a.fS.take c)) wr/\Ap O w.heap.size w wr) (λl _=>a.fS.length - (intOf l).toNat)
  case atStart=>exact⟨0,ge _,rfl,by simpa[P8] using a1.set (bB+1) Pv,Ap.setCell (R:=O) (Ap.refl _ _ _) (p:=(Pn O 0)) (f4 rfl) _⟩
  case round=>
   obtain⟨c,a6,rfl,g,k⟩:=hrel
   by_cases t:c<a.fS.length
   ·obtain⟨f,a7,s,R⟩:=UC n Pv;have b{G}(h:G:=by
    obtain⟨ap,aO⟩:=P6.get _ _ M c t;have aU:f≠O:=Pj aW f rfl;have ax:f<w.heap.size:=(Qm n f rfl).1;have N:wr.cell? (Pn f c)=some (Pm j[c]):=by
     rw[k.cell (p:=(Pn f c)) ax aU];exact R c ap
    have aY:QT (λx=>x≠O) wr a.fS[c] j[c]:=QT.fQ (λx ak aJ=>k.block x aJ ak) _ _ aO;have af:=UO a.fS c t;have ae:=WC a.fS c t;have aE:=Pj ad;have ah:=Pj aX;have al:=Pj aT;have aL:Tr.f5 (a.fS.take c)+(a.fS[c]).count<=Tr.f5 a.fS:=yK
    have o:=aR.out a.fS[c] Pv j[c] (bB+1+Tr.f5 (a.fS.take c)) wr aY g Pv;have aH:=Y ae;obtain⟨bn,F⟩:=xE (j[c]);rw[<-F] at N o;have ba:(c:Int)<(a.fS.length:Int):=Pv;have bo:a.fS.length<=100000:=by have:=Tn a.fS;omega
    clear R af ae aE ah al aL F;go_wp2_with fail;refine cm o ?_;rintro i bz ⟨rfl,aD,aI⟩;have ay:=k.next aI;clear N;go_wp2
    go_roundw
    case rel=>exact⟨c+1,by omega,by go_num,by rw[aH.out];have:=aD;rw[jt] at this;exact this,ay⟩
    case measure=>simp[intOf];omega):=Pq h;exact Vt
   ·have f:c=a.fS.length:=Pv;subst f;go_wp2
    go_end0
    refine⟨rfl,?_,k⟩;have:=g;rw[gV] at this;rw[ad.out,<-jt];exact this):=Pq h;exact Iw
abbrev QV (b:Nat)(d:Py)(c:PO)(a:List PS):Prop:=d.ownsRow b 9 1 c a.length (a.map Value.string)
def iQ:(prog.info? 9).map (λa=>(a.zero,a.size,a.bytes))=some (some (PI ByteArray.empty),1,16):=by kernel_rfl
def P7 {i:Py}{d f g b:Nat}{c:PO}{j:List PO}(h:i.ownsRow d f g c b j):∃e a,c=.slice e b a:=by
 rcases h.2 with ⟨rfl,rfl⟩|⟨l,a,k,rfl,_⟩
 ·exact⟨none,0,rfl⟩
 ·exact⟨_,a,rfl⟩
def Xu (a:Nat)(b:Py):QV a b RF []:=⟨rfl,fU ⟨rfl,rfl⟩⟩
def Xi {f:Nat}{e:Py}{i:PO}{c:List PS}(h:QV f e i c)(b:Nat)(j:b<c.length):∃a d,i=.slice (some (Pn a 0)) c.length d/\a<e.heap.size/\f<=a/\e.cell? (Pn a b)=some (PI c[b]):=by
 obtain⟨a,d,rfl,_,_⟩:=h.form Pv;have g:=Qm h a rfl;refine⟨a,d,rfl,g.1,g.2,?_⟩;rw[h.cellAt b Pv];simp[j]
def xV (c:List PS):∀a ∈ c.map Value.string,a.oneCell'=true:=by
 intro a b;obtain⟨d,_,rfl⟩:=h4.1 b;rfl
def Xv (a:Py)(c:PS)(H:Nat)(h:a.heap.size=H):∀b e,[Value.string c][b]?=some e->(a.alloc (.cells #[PI c] 9)).cell? (((Pn H 0):Addr).add b)=some e:=by
 subst h;intro b e d
 match b with
 |0=>
  simp only[mx,he] at d;subst d
  show (a.alloc (.cells #[PI c] 9)).cell? (Pn a.heap.size (0+0))=_
  rw[cell_of (Pz a (.cells #[PI c] 9))];rfl
 |f+1=>simp at d
def o7 (c:PS):∀a ∈ [Value.string c],a.oneCell'=true:=by
 intro a b;rw[gn.1 b];rfl
def hasB (a:List PS)(b:PS):Bool:=a.any (λx=>decide (b=x))
def Xw {a:List PS}{b:PS}:hasB a b=true↔b ∈ a:=by simp[hasB]
def PC {a:List PS}{b:PS}:hasB a b=false↔b ∉ a:=by rw[<-Xw];simp
def ZN (a:List PS)(b:PS):List PS:=if hasB a b then a else a++[b]
def XV (a:List PS):List PS:=a.foldl ZN []
section
variable {o:Nat}(c:List PS)(d:PS)(g:PO)(e:Py)(h:QV o e g c)(p:c.length<=100000)
include o c d g e h p
def am4 :
  PN 179 #[g,PI d] e λv q=>(∃a:Int,v=PY (Ph a)/\decide (0<=a)=hasB c d)/\q=e:=by
 obtain⟨F,z,rfl⟩:=P7 h;have t:=h;clear h;go_enter func179,ntmps179;go_wp2_with fail
 go_loopw [8] (λk wr=>∃a:Nat,a<=c.length/\k=Ph a/\d ∉ c.take a/\wr=e) (λk _=>c.length - (intOf k).toNat)
 case atStart=>exact⟨0,ge _,rfl,by simp,rfl⟩
 case round=>
  obtain⟨a,w,rfl,n,rfl⟩:=hrel;have m:=Y n;clear n
  by_cases l:a<c.length
  ·obtain⟨D,A,s,E,_,r⟩:=Xi t a l;have b{G}(h:G:=by
   have C:(a:Int)<(c.length:Int):=Pv;obtain⟨x,j⟩:=xH (c[a]);rw[<-j.out] at r
   by_cases i:d=x
   ·subst i;go_wp2;go_ret;refine⟨⟨a,rfl,?_⟩,rfl⟩;rw[hr Pv,eq_comm,Xw,j.out];exact gU _
   ·have B:=pu i;have u:=Y i;clear i;go_wp2
    go_roundw
    case rel=>
     refine⟨a+1,by omega,by go_num,?_,trivial⟩;rw[ha l];intro f
     rcases gB.1 f with f|f
     ·exact Pj m f
     ·exact Pj u (by rw[j.out];exact gn.1 f)
    case measure=>simp[intOf];omega):=Pq h;exact Vt
  ·have b:a=c.length:=Pv;subst b;go_wp2;go_ret;refine⟨⟨-1,rfl,?_⟩,rfl⟩;have h:=Pj m;rw[gV] at h;rw[PC.2 h];rfl
def Vz :
  PN 88 #[g,PI d] e λb f=>b=PY (PD (hasB c d))/\f=e:=by
 have i:=am4 c d g e h p;clear h;go_enter func88,ntmps88;go_wp2_with fail;refine cm i ?_;rintro b l ⟨⟨k,rfl,a⟩,rfl⟩;have j:=Y a;clear a;go_wp2;go_ret;exact⟨U3 j.out,rfl⟩
end
def k2 {α:Type}(b:List α)(a:Nat)(c:a<b.length):b.take (a+1)=b.take a++[b[a]]:=ha c
def LL (b:List PS)(a:Nat)(c:a<b.length):XV (b.take (a+1))=ZN (XV (b.take a)) b[a]:=by
 rw[k2 b a c,XV,jj];rfl
def Zb (a:List PS):(XV a).length<=a.length:=by
 have:∀(a b:List PS),(a.foldl ZN b).length<=b.length+a.length:=by
  intro a
  induction a with
  |nil=>intro b;simp
  |cons x a c=>
   intro b;have h:=c (ZN b x);have d:(ZN b x).length<=b.length+1:=by unfold ZN;split <;> simp
   simp only[kg,g4];omega
 simpa[XV] using this a []
def Db {E:Nat}(a:List PS)(C:PO)(c:Py)(h:QV E c C a)(aD:a.length<=90000) :
  PN 121 #[C] c λd z=>(∃b,d=PY b/\QV c.heap.size z b (XV a))/\PG c z:=by
 obtain⟨U,P,R,I,N⟩:=g2 iQ;obtain⟨aE,al,rfl⟩:=P7 h;have O:=h;clear h;go_enter func121,ntmps121;go_wp2_with fail
 go_loopw [3,8] (λb v wr=>∃i:Nat,i<=a.length/\v=Ph i/\QV c.heap.size wr b (XV (a.take i))/\PG c wr) (λ_ v _=>a.length - (intOf v).toNat)
 case atStart=>exact⟨0,ge _,rfl,Xu _ _,RV⟩
 case round=>
  obtain⟨i,ae,rfl,B,e⟩:=hrel;have m:=B;obtain⟨F,L,rfl⟩:=P7 B
  by_cases A:i<a.length
  ·obtain⟨p,au,s,u,_,n⟩:=Xi O i A;have b{G}(h:G:=by
   have ax:(i:Int)<(a.length:Int):=Pv;obtain⟨x,o⟩:=xH (a[i]);rw[<-o.out] at n;have af:wr.cell? (Pn p i)=some (PI x):=by rw[e.cell (p:=(Pn p i)) u];exact n
   have D:=Y (LL a i A);have w:=Zb (a.take i);rw[hQ] at w;obtain⟨g,k⟩:=xH (XV (a.take i));rw[<-k.out] at w;have l:QV c.heap.size wr (.slice F g.length L) g:=by
    have h:=m;rw[<-k.out] at h;exact h
   rw[<-k.out];have ah:g.length<=i:=Pv;have j:=Vz g x _ wr l Pv;have ap:p<wr.heap.size:=gH u e.size;have M:=e.size;clear n u w
   cases f:hasB g x with
   |true=>
    rw[f] at j;have q:=Y f;clear f;have b{G}(h:G:=by
    go_wp2
    go_roundw
    case rel=>
     refine⟨i+1,by omega,by go_num,?_,e⟩;rw[D.out,<-k.out,<-o.out,ZN,fY q.out];exact l
    case measure=>simp[intOf];omega):=Pq h;exact mr
   |false=>
    rw[f] at j;have q:=Y f;clear f;have b{G}(h:G:=by
    go_wp2_with (at_builtin;refine wpList_append_lies _ rfl _ _ 26 rfl c.heap.size 9 U (PI ByteArray.empty) 1 16 i7 P R I N rfl PK _ _ _ rfl (l.alloc _) (Pn r.heap.size 0) 1 1 [PI x] rfl rfl (Xv r x _ rfl) (o7 x) PK (by unfold maxLen;omega) Pv SC (r.heap.size+1) Qh ?_)
    intro ay ad ak hown' T X _;have S:=(e.alloc M (.cells #[PI x] 9)).grown T SC (λH t=>(Qm l H t).2);clear X;go_wp2
    go_roundw
    case rel=>
     refine⟨i+1,by omega,by go_num,?_,S⟩;rw[D.out,<-k.out,<-o.out,ZN,fT (by rw[q.out];decide)]
     have h:=hown';refine mq ?_;rw[gg,hc];exact h
    case measure=>simp[intOf];omega):=Pq h;exact mr):=Pq h;exact Vt
  ·have b:i=a.length:=Pv;exact Da
abbrev UN (c:Py)(b:Tr)(a:Nat):Prop:=QT (λ_=>True) c b a
def UZ (c:Nat)(b:Py)(e:PO)(d:List Tr):Prop:=∃a:List Nat,b.ownsRow c 22 1 e a.length (a.map Pm)/\Xh (λ_=>True) b d a
def Below.ht {c:Nat->Prop}{b a:Py}(h:PG b a):Uz c b a:=λd _ e=>h.block d e
def QT.nt {d:Nat->Prop}{c:Py}{b:Tr}{a:Nat}(h:QT d c b a):UN c b a:=QT.mono (λ_ _ _=>trivial) _ _ h
def UN.fQ {w w':Py}{b:Tr}{a:Nat}(h:UN w b a)(c:PG w w'):UN w' b a:=QT.fQ (Below.ht c) _ _ h
def UZ.fQ {a:Nat}{w w':Py}{d:PO}{c:List Tr}(h:UZ a w d c)(b:PG w w'):UZ a w' d c:=by
 obtain⟨g,f,e⟩:=h;exact⟨g,Qw (a:=λ_=>True) (Below.ht b) (λ_ _=>trivial) f,Xh.fQ (Below.ht b) _ _ e⟩
def QV.fQ {a:Nat}{w w':Py}{c:PO}{b:List PS}(h:QV a w c b)(d:PG w w'):QV a w' c b:=Qw (a:=λ_=>True) (Below.ht d) (λ_ _=>trivial) h
section
variable {j:Nat}{d:Py}{e:PO}{c:List Tr}(h:UZ j d e c)
include j d e c h
def UZ.form:∃b f,e=.slice b c.length f:=by
 obtain⟨i,g,a⟩:=h;rw[<-Xh.length _ _ a];exact VG g
def UZ.cell (b:Nat)(k:b<c.length):∃a f p,e=.slice (some (Pn a 0)) c.length f/\a<d.heap.size/\d.cell? (Pn a b)=some (Pm p)/\UN d c[b] p:=by
 obtain⟨q,i,g⟩:=h;have o:=Xh.length _ _ g;obtain⟨a,f,rfl,l⟩:=UC i Pv;obtain⟨m,n⟩:=Xh.get _ _ g b k;exact⟨a,f,q[b],by rw[o],(Qm i a rfl).1,l b m,n⟩
end
def UN.cells {a:Py}{c:Tr}{b:Nat}(h:UN a c b):b<a.heap.size/\a.cell? (Pn b 0)=some (Ph c.kd)/\a.cell? (Pn b 1)=some (PI c.tx)/\∃d,a.cell? (Pn b 3)=some d/\UZ 0 a d c.fS:=by
 obtain⟨d,l,e,g,_,f⟩:=QT.qe h;obtain⟨i,j,_,k,_⟩:=gx e;exact⟨fR e,i,j,d,k,l,g,P6.nl _ _ f⟩
def K1 (a:Py)(c:Nat)(H:Nat)(h:a.heap.size=H):∀b e,[Pm c][b]?=some e->(a.alloc (.cells #[Pm c] 22)).cell? (((Pn H 0):Addr).add b)=some e:=by
 subst h;intro b e d
 match b with
 |0=>
  simp only[mx,he] at d;subst d
  show (a.alloc (.cells #[Pm c] 22)).cell? (Pn a.heap.size (0+0))=_
  rw[cell_of (Pz a (.cells #[Pm c] 22))];rfl
 |f+1=>simp at d
def Lw (c:Nat):∀a ∈ [Pm c],a.oneCell'=true:=by
 intro a b;rw[gn.1 b];rfl
def Iz {A:Nat}(c:List Tr)(v:PO)(w:Py)(h:UZ A w v c)(R:c.length<=90000) :
  PN 164 #[v] w λE p=>(∃a,E=PY a/\QV w.heap.size p a (c.map Tr.tx))/\PG w p:=by
 obtain⟨aR,aO,aQ,aJ,aM⟩:=g2 iQ;obtain⟨T,I,rfl⟩:=h.form;have D:=h;clear h;go_enter func164,ntmps164;go_wp2_with fail
 go_loopw [3,8] (λb i wr=>∃a:Nat,a<=c.length/\i=Ph a/\QV w.heap.size wr b ((c.take a).map Tr.tx)/\PG w wr) (λ_ i _=>c.length - (intOf i).toNat)
 case atStart=>exact⟨0,ge _,rfl,Xu _ _,RV⟩
 case round=>
  obtain⟨a,F,rfl,u,e⟩:=hrel;have m:=u;obtain⟨q,r,rfl⟩:=P7 u
  by_cases j:a<c.length
  ·obtain⟨O,L,S,s,P,H,B⟩:=(D.fQ e).cell a j;have b{G}(h:G:=by
   obtain⟨M,_,C,_⟩:=B.cells;have N:(a:Int)<(c.length:Int):=Pv;obtain⟨x,o⟩:=xH ((c[a]).tx);rw[<-o.out] at C;have aK:=e.size;obtain⟨d,k⟩:=xH ((c.take a).map Tr.tx);have g:d.length=a:=by rw[k.out];simp;omega
   rw[<-k.out] at m ⊢;have n:World.ownsRow wr w.heap.size 9 1 (.slice q a r) a (d.map Value.string):=by
    have h:World.ownsRow wr w.heap.size 9 1 (.slice q d.length r) d.length (d.map Value.string):=m;rw[g] at h;exact h
   rw[g];have z:=Y g;clear g;have b{G}(h:G:=by
   clear aT;go_wp2
   go_roundw
   case rel=>
    refine⟨a+1,by omega,by go_num,?_,aL⟩;refine Ah ?_;exact hown'
   case measure=>simp[intOf];omega):=Pq h;exact AV):=Pq h;exact Vt
  ·have b:a=c.length:=Pv;exact Da
def Z0 (c:Tr)(b:Nat)(w:Py)(h:UN w c b):PN 120 #[Pm b] w λe d=>(∃a,e=PY a/\UZ 0 w a c.fS)/\d=w:=by
 obtain⟨i,_,_,a,f,T⟩:=h.cells;obtain⟨g,uc,rfl⟩:=T.form;clear h;go_enter func120,ntmps120;go_wp2;go_ret;exact⟨⟨_,rfl,T⟩,rfl⟩
abbrev sX (a:Nat):PO:=.func (.func a) #[] #[]
def C2 (u:Nat)(o:Tr->Bool)(aL:WU u)(D:∀g n W,UN W g n->PN u #[Pm n] W λd q=>d=PY (PD (o g))/\q=W)(g:Tr)(n:Nat)(p:Py)(h:UN p g n)(ah:g.fS.length<=90000) :
  PN 129 #[Pm n,sX u] p λd q=>(∃A,d=PY A/\UZ p.heap.size q A (g.fS.filter o))/\PG p q:=by
 obtain⟨X,S,T,O,R⟩:=g2 io;have F:=Z0 g n p h;have ae:=Y D;clear h D
 generalize N:g.fS=e at F ah
 clear N g;go_enter func129,ntmps129;go_wp2_with fail;refine cm F ?_;rintro d l ⟨⟨A,rfl,C⟩,rfl⟩;obtain⟨aO,aE,rfl⟩:=C.form;go_wp2_with fail
 go_loopw [5,11] (λb z wr=>∃(a:Nat)(i:List Nat),a<=e.length/\z=Ph a/\wr.ownsRow l.heap.size 22 1 b i.length (i.map Pm)/\Xh (λ_=>True) l ((e.take a).filter o) i/\PG l wr) (λ_ z _=>e.length - (intOf z).toNat)
 case atStart=>exact⟨0,[],ge _,rfl,⟨rfl,fU ⟨rfl,rfl⟩⟩,Xh.nil,RV⟩
 case round=>
  obtain⟨a,i,ak,rfl,L,t,c⟩:=hrel;have k:=L;obtain⟨aD,aH,rfl⟩:=VG L;have E:=Xh.length _ _ t
  by_cases B:a<e.length
  ·obtain⟨v,aJ,f,s,af,H,M⟩:=C.cell a B;have b{G}(h:G:=by
   have al:wr.cell? (Pn v a)=some (Pm f):=by rw[c.cell (p:=(Pn v a)) af];exact H
   have aK:(a:Int)<(e.length:Int):=Pv;have P:=c.size;have j:=Pj ae e[a] f wr (M.fQ c);have I:=Y (ha B);have aI:v<wr.heap.size:=Pv;have aM:i.length<=a:=by rw[E];have:=hu o (e.take a);rw[hQ] at this;omega
   have ad:=Y (Qm k);clear H E
   cases m:o e[a] with
   |true=>
    rw[m] at j;have w:=Y m;clear m;have b{G}(h:G:=by
    have b{G}(h:G:=by
    go_roundw
    case rel=>
     refine⟨a+1,i++[f],by omega,by go_num,?_,?_,U⟩
     ·rw[gg,hc];exact hown'
     ·rw[I.out,lO];simp only[jP,w.out,k7,hq];exact Xh.append (Xh.cons M Xh.nil) _ _ t
    case measure=>simp[intOf];omega):=Pq h;exact B0):=Pq h;exact mr
   |false=>
    rw[m] at j;have w:=Y m;clear m;have b{G}(h:G:=by
    go_wp2
    go_roundw
    case rel=>
     refine⟨a+1,i,by omega,by go_num,k,?_,c⟩;rw[I.out,lO];simp only[jP,w.out,k7,ic,ib,iX];exact t
    case measure=>simp[intOf];omega):=Pq h;exact mr):=Pq h;exact Vt
  ·have b:a=e.length:=Pv;subst b;go_wp2;go_ret;have h:=t;rw[gV] at h;exact⟨⟨_,rfl,i,k,Xh.fQ (Below.ht c) _ _ h⟩,c⟩
def HS:WU 130:=λ_ _=>by kernel_rfl
def Im:WU 163:=λ_ _=>by kernel_rfl
def Uw (a:Tr):Bool:=a.kd==5
def QE (a:Tr):Bool:=a.kd==3||a.kd==4
def Q7 (a:Tr):Bool:=a.kd==5||a.kd==37
section
variable (b:Tr)(c:Nat)(a:Py)(h:UN a b c)
include b c a h
def Jw:PN 130 #[Pm c] a λe d=>e=PY (PD (Uw b))/\d=a:=by
 obtain⟨g,f,_,_⟩:=h.cells;clear h;go_enter func130,ntmps130;go_wp2;go_ret;exact⟨rfl,rfl⟩
def E0:PN 163 #[Pm c] a λf d=>f=PY (PD (QE b))/\d=a:=by
 obtain⟨j,e,_,_⟩:=h.cells;clear h;unfold QE
 generalize b.kd=g at e
 cases i:(g==3)
 all_goals
  go_enter func163,ntmps163;go_wp2;go_ret;exact⟨rfl,rfl⟩
def Ou:PN 119 #[Pm c] a λf d=>f=PY (PD (Q7 b))/\d=a:=by
 obtain⟨j,e,_,_⟩:=h.cells;clear h;unfold Q7
 generalize b.kd=g at e
 cases i:(g==5)
 all_goals
  go_enter func119,ntmps119;go_wp2;go_ret;exact⟨rfl,rfl⟩
end
def Ue (a:Tr):List Tr:=a.fS.filter Uw
def Qi (a:Tr):List Tr:=a.fS.filter QE
section
variable (c:Tr)(d:Nat)(w:Py)(h:UN w c d)(f:c.fS.length<=90000)
include c d w h f
def vy :
  PN 59 #[Pm d] w λb g=>(∃a,b=PY a/\UZ w.heap.size g a (Ue c))/\PG w g:=by
 have e:=C2 130 Uw HS Jw c d w h f;clear h;go_enter func59,ntmps59;exact tj
def tK :
  PN 77 #[Pm d] w λb g=>(∃a,b=PY a/\UZ w.heap.size g a (Qi c))/\PG w g:=by
 have e:=C2 163 QE Im E0 c d w h f;clear h;go_enter func77,ntmps77;exact tj
end
def ownVar (a:Tr):List PS:=if a.kd==2 then [a.tx] else []
mutual
def vw:Tr->List PS
 |.mk a c _ b=>(if a==2 then [c] else [])++(if a==5||a==37 then [] else jE b)
def jE:List Tr->List PS
 |[]=>[]
 |b::a=>vw b++jE a
end
def LH (a:Tr):vw a=ownVar a++(if Q7 a then [] else jE a.fS):=by
 cases a with
 |mk b e d c=>rw[vw];rfl
def Fo:∀b a:List Tr,jE (b++a)=jE b++jE a
 |[],a=>by simp[jE]
 |c::b,a=>by simp[jE,Fo b a]
def F3 (a:List Tr)(b:Nat)(c:b<a.length):jE (a.take (b+1))=jE (a.take b)++vw a[b]:=by
 rw[ha c,Fo];simp[jE]
mutual
def axC:∀a:Tr,(vw a).length<=a.count
 |.mk c e d b=>by
  have h:=ZA b;rw[vw,f9]
  split <;> split <;> simp <;> omega
def ZA:∀a:List Tr,(jE a).length<=Tr.f5 a
 |[]=>by simp[jE]
 |b::a=>by
  have d:=axC b;have c:=ZA a;rw[jE,PW];simp;omega
end
structure oj (b B:Nat)(l:List PS)(w:Py):Prop where
 lt:b<B
 sz:B<=w.heap.size
 own:∃v,w.heap[b]?=some (Qb #[v] 26)/\QV B w v l
def Mn {a b c k g:Nat}{d:List PS}{l:PS}{e f:Py}{j:PO}(u:a<b)(n:b<=e.heap.size)(r:e.heap[a]?=some (Qb #[j] 26))(A:e.ownsRow b 9 1 j d.length (d.map Value.string))(z:g=d.length+1)(q:f.ownsRow b 9 1 (.slice (some (Pn c 0)) g k) g (d.map Value.string++[PI l]))(o:(e.alloc (.cells #[PI l] 9)).grownBy f j.ownBlock) :
  oj a b (d++[l]) (f.setCell (Pn a 0) (.slice (some (Pn c 0)) g k))/\Ap a b e (f.setCell (Pn a 0) (.slice (some (Pn c 0)) g k)):=by
 subst z;have p:∀i,j.ownBlock=some i->b<=i:=λi s=>(Qm A i s).2;have m:Ap a b e (f.setCell (Pn a 0) (.slice (some (Pn c 0)) (d.length+1) k)):=(((Ap.refl a b e).alloc n _).grown o SC p).setCell (p:=(Pn a 0)) (f4 rfl) _;have w:f.heap[a]?=some (Qb #[j] 26):=by
  rw[o.block a SC (λv=>by have:=p a v.symm;omega),gy _ _ _ Pv]
  exact r
 have B:b<=c:=(Qm q c rfl).2;refine⟨⟨u,gr n m.size,_,by rw[gb w];rfl,?_⟩,m⟩
 refine mq ?_;rw[show (d++[l]).length=d.length+1 by simp,hc];exact Qw (a:=λx=>x=c) (λx v _=>gZ f (Pn a 0) _ x (by have C:x=c:=v;show x≠a;omega)) (λy v=>by simpa[Value.ownBlock] using v.symm) q
def yM {G goal:Prop}(b:G->goal)(a:G):goal:=b a
def am8 {a e f:Nat}{j:List PS}{d:Tr}{w:Py}(X:oj a e j w)(r:QT (λx=>x<e/\x≠a) w d f)(aY:j.length<=100000) :
  PN 118 #[Pm f,PZ a 0] w λg o=>g=PY (PD (!Q7 d))/\oj a e (j++ownVar d) o/\Ap a e w o:=by
 obtain⟨aL,aH,aI,ay,aE⟩:=g2 iQ;have aT:f<e/\f≠a:=by
  cases d with
  |mk D n b l=>rw[QT] at r;exact r.1
 have C:∀W,Ap a e w W->Hid (PN 119 #[Pm f] W λg o=>g=PY (PD (Q7 d))/\o=W):=λW p=>Ou d f W (QT.nt (QT.fQ (λx b _=>p.block x b.1 b.2) _ _ r));obtain⟨aX,H,L,_⟩:=(QT.nt r).cells;have ae:=X;obtain⟨al,ak,v,k,s⟩:=X;obtain⟨ad,M,rfl⟩:=P7 s;have N:w.cell? (Pn a 0)=some (.slice ad j.length M):=by rw[cell_of k];rfl
 have U:=Rn k 0;have aM:=fR k;have F:=Y k;obtain⟨n,z⟩:=xE d.tx;obtain⟨D,u⟩:=xE d.kd;obtain⟨a1,E⟩:=xE (Q7 d);rw[<-z] at L;rw[<-u] at H;rw[<-E];have ah:Hid (ownVar d=if D==2 then [n] else []):=by rw[z,u];rfl
 rw[ah.out];simp only[<-E] at C;clear k z u E
 cases aW:(D==2) with
 |false=>
  have c:=C w (Ap.refl _ _ _);go_enter func118,ntmps118;go_wp2_with fail;refine XO ?_;rintro g aQ ⟨rfl,rfl⟩;go_wp2;go_ret;exact⟨rfl,by simpa using ae,Ap.refl _ _ _⟩
 |true=>
  go_enter func118,ntmps118;go_wp2_with fail;refine yM (G:=?G1) (λB=>?_) ?_;rotate_left
  ·refine pA ?_;refine wt 1 (Pm f) ?_;refine wt 2 (Pm f) ?_;refine wt 3 (PZ f 1) ?_;refine hT 0 4 (λK b=>?_) (λK b=>?_)
   ·go_simp;refine U4 ?_;clear b K;refine VP 4 ?_;refine VP 5 ?_;refine UE (listed':=tf 6 2) Qz rfl ?_;exact B
   ·go_simp;refine U4 ?_;clear b K;refine hT 0 5 (λK b=>?_) (λK b=>?_)
    ·go_simp;refine U4 ?_;clear b K;refine VP 5 ?_;exact UE (listed':=tf 6 2) Qz Qz B
    ·go_simp;refine U4 ?_;clear b K;refine VP 0 ?_;exact UE (listed':=tf 6 2) Qz Qz B
  ·refine WB 6 λK b=>?_;refine step_append_lies _ rfl _ _ 26 rfl e 9 aL (PI ByteArray.empty) 1 16 i7 aH aI ay aE rfl PK _ _ _ rfl ((s:World.ownsRow w.drew e 9 1 _ _ _).alloc _) (Pn w.heap.size 0) 1 1 [PI n] rfl rfl (Xv w.drew n _ rfl) (o7 n) PK (by unfold maxLen;omega) Pv SC (w.heap.size+1) Qh ?_
   intro aJ aD m aK O _ _;refine b _ _ ?_;clear b K;have aO:=Y (Mn (e:=w.drew) al ak F.out s rfl aK O);have q:m.heap[a]?=w.heap[a]?:=(O.block a SC (λg=>by have:=(Qm s a g.symm).2;omega)).trans (gy w.drew _ a aM)
   have ap:m.cell? (Pn a 0)=some (.slice ad j.length M):=(gN (w:=w) q).trans N;have aR:m.frozen? (Pn a 0)=false:=(hf (w:=w) q).trans U;have au:a<m.heap.size:=fR (q.trans F.out);clear q N U;refine WB 7 λK b=>?_;go_simp;refine U4 ?_;clear b K ap aR au;refine hj Qz ?_ _;go_simp;obtain⟨S,R⟩:=Pj aO;obtain⟨W,p⟩:=xE (m.setCell (Pn a 0) (.slice (some (Pn aJ 0)) (j.length+1) aD));rw[<-p] at S R ⊢;have A:=(Ap.refl a e w).drew.trans R;clear p H L
   have c:=C W A;go_wp2_with fail;refine XO ?_;rintro g aQ ⟨rfl,rfl⟩;go_wp2;go_ret;exact⟨rfl,S,A⟩
def TS {b a:Nat}{e:Py}{d:PO}{c:List PS}(h:QV b e d c)(m:a<=b):QV a e d c:=by
 refine⟨h.1,?_⟩
 rcases h.2 with g|⟨k,i,j,f,l,rest⟩
 ·exact fU g
 ·exact f4 ⟨k,i,j,f,by omega,rest⟩
abbrev BS (a:Nat):PO:=.func (.func 118) #[] #[PZ a 0]
def AA:WU 118:=λ_ _=>by kernel_rfl
def aCk (O e:Nat):∀(u:Nat)(a:Tr),a.count<=u->∀(k:Nat)(p:List PS)(w:Py),QT (λx=>x<e/\x≠O) w a k->oj O e p w->p.length+a.count<=90000 ->
  PN 36 #[Pm k,BS O] w λj N=>j=PY (.tuple #[])/\oj O e (p++vw a) N/\Ap O e w N:=by
 intro u
 induction u with
 |zero=>
  exact xY
 |succ u ae=>
  intro a d k p w t a8 M;obtain⟨bJ,A,q,n,ax,af⟩:=t.qe;have al:=P6.length _ _ af;have U:k<e/\k≠O:=by
   cases a with
   |mk be r bb bf=>rw[QT] at t;exact t.1
  have b{G}(h:G:=by
  have bG:=AA;have bE:∀W:Py,(binOp .eql 47 (BS O) .nilFunc).run prog W=.ok (PD false) W:=λW=>by kernel_rfl
  have g:=am8 a8 t Pv;have ba:=Y ax;have aX:=Y ae;have a6:=Y D;have bn:=Y d;have aY:=Y M;have aK:=Y C;have a1:=Y (fR q);have ap:=Y U;have X:=Y al;have B:=Y (LH a);have bi:Hid ((ownVar a).length<=1):=by show _<=_;unfold ownVar;split <;> simp
  clear ax ae D d M q C U al
  cases f:Q7 a with
  |true=>
   rw[f] at g B;clear f;have b{G}(h:G:=by
   have L:=z;have F:=i;go_wp2_with fail;exact Uj (v:=.tuple #[]) ⟨rfl,by rw[B.out];simpa using L,F⟩):=Pq h;exact tX
  |false=>
   rw[f] at g B;clear f;have b{G}(h:G:=by
   have aL:=(i.cell (p:=(Pn k 3)) ap.out.1 ap.out.2).trans aK.out;rw[X.out] at aL;have bL:k<aD.heap.size:=gH a1.out i.size;have L:=z;have F:=i;go_wp2_with fail
   go_loopw [23] (λl wr=>∃c:Nat,c<=a.fS.length/\l=Ph c/\oj O e (p++ownVar a++jE (a.fS.take c)) wr/\Ap O e w wr) (λl _=>a.fS.length - (intOf l).toNat)
   case atStart=>exact⟨0,ge _,rfl,by simpa[jE] using L,F⟩
   case round=>
    obtain⟨c,bx,rfl,H,m⟩:=hrel
    by_cases E:c<a.fS.length
    ·obtain⟨o,bz,s,ak⟩:=UC n (by rw[X.out];omega)
     have b{G}(h:G:=by
     obtain⟨aM,aW⟩:=P6.get _ _ af c E;have ay:=Pj ba o rfl;have ah:wr.cell? (Pn o c)=some (Pm A[c]):=by
      rw[m.cell (p:=(Pn o c)) ay.1 ay.2];exact ak c aM
     have bo:QT (λx=>x<e/\x≠O) wr a.fS[c] A[c]:=QT.fQ (λx f bF=>m.block x f.1 f.2) _ _ aW;have bA:o<wr.heap.size:=gH (Qm n o rfl).1 m.size;have a7:=WC a.fS c E;have aE:=F3 a.fS c E;have bq:=ZA (a.fS.take c);have aR:=Pj a6;have aH:=Pj bn;have aJ:=Pj aY;have aI:=Pj bi;have aU:Tr.f5 (a.fS.take c)+(a.fS[c]).count<=Tr.f5 a.fS:=yK
     have g:=aX.out a.fS[c] Pv A[c] _ wr bo H (by rw[gg,gg];omega)
     have bm:=Y aE;obtain⟨bH,ad⟩:=xE (A[c]);rw[<-ad] at ah g;have bD:(c:Int)<(a.fS.length:Int):=Pv;have bI:a.fS.length<=100000:=by have:=Tn a.fS;omega
     clear ak a7 aR aH aJ aI aU ad aE bq;go_wp2_with fail;refine cm g ?_;rintro j bK ⟨rfl,aQ,aT⟩;have aO:=m.trans aT;clear ah;go_wp2
     go_roundw
     case rel=>exact⟨c+1,by omega,by go_num,by rw[bm.out,<-hI];exact aQ,aO⟩
     case measure=>simp[intOf];omega):=Pq h;exact Vt
    ·have o:c=a.fS.length:=Pv;subst o;go_wp2
     go_end0
     refine⟨rfl,?_,m⟩;rw[gV] at H;rw[B.out,<-hI];exact H):=Pq h;exact tX):=Pq h;exact Iw
def am9 {b e d:Nat}{c:Option Addr}{a:Py}(i:a.cell? (Pn b 3)=some (.slice c e d)):PN 120 #[Pm b] a λg f=>g=PY (.slice c e d)/\f=a:=by
 go_enter func120,ntmps120;go_wp2;go_ret;exact⟨rfl,rfl⟩
def QF (a:Tr):List PS:=XV (jE a.fS)
def Yf (a:Tr)(f:Nat)(w:Py)(h:UN w a f)(H:a.count<=80000) :
  PN 54 #[Pm f] w λo C=>(∃t,o=PY t/\QV w.heap.size C t (QF a))/\PG w C:=by
 have aI:QT (λx=>x<w.heap.size) w a f:=QT.mono (λO _ X=>X) _ _ h;obtain⟨p,j⟩:=xE (w.alloc (.cells #[RF] 26));have n:PG w p:=by rw[j];exact QK
 have ad:p.heap.size=w.heap.size+1:=by rw[j];simp
 have aQ:oj w.heap.size (w.heap.size+1) [] p:=⟨by omega,by omega,_,by rw[j];exact Pz _ _,Xu _ _⟩
 have bh{G}(h:G:=by
 obtain⟨t,q,z,B,aL,L⟩:=aI.qe;have A:=P6.length _ _ L;obtain⟨a6,uc,ap⟩:=VG B;subst ap;obtain⟨_,_,_,R,_⟩:=gx z;have N:=am9 (a:=p) (b:=f) ((gN (w:=w) (a:=(Pn f 3)) (n.block f (fR z))).trans R);rw[A] at N;have al:=Y ad;have ae:=Y D;have E:=Y H;have ak:=Y A;have ba:=AA;have bm:a.fS.length<=100000:=by have:=Tn a.fS;omega
 clear h aL z R D H A ad;go_enter func54,ntmps54;go_wp2_with fail;rw[<-j];refine cm N ?_;rintro o aT ⟨rfl,rfl⟩;clear j;go_wp2_with fail
 go_loopw [11] (λl wr=>∃c:Nat,c<=a.fS.length/\l=Ph c/\oj w.heap.size (w.heap.size+1) (jE (a.fS.take c)) wr/\Ap w.heap.size (w.heap.size+1) aT wr) (λl _=>a.fS.length - (intOf l).toNat)
 case atStart=>exact⟨0,ge _,rfl,by simpa[jE] using aQ,Ap.refl _ _ _⟩
 case round=>
  obtain⟨c,aY,rfl,m,g⟩:=hrel;have af:=m
  by_cases u:c<a.fS.length
  ·obtain⟨d,a7,s,U⟩:=UC B (by rw[ak.out];omega)
   have b{G}(h:G:=by
   obtain⟨ay,aM⟩:=P6.get _ _ L c u;have aD:d<w.heap.size:=(Qm B d rfl).1;have M:wr.cell? (Pn d c)=some (Pm q[c]):=by
    rw[g.cell (p:=(Pn d c)) (by show d<_;omega) (by show d≠_;omega),gN (w:=w) (a:=(Pn d c)) (n.block d aD)];exact U c ay
   have aW:QT (λx=>x<w.heap.size+1/\x≠w.heap.size) wr a.fS[c] q[c]:=
    QT.mono (λx e _=>⟨by have i:x<w.heap.size:=e;omega,by have i:x<w.heap.size:=e;omega⟩) _ _ (QT.fQ (I:=λx=>x<w.heap.size) (λx e X=>(g.block x (by have i:x<w.heap.size:=e;omega) (by have i:x<w.heap.size:=e;omega)).trans (n.block x e)) _ _ aM)
   have a1:d<wr.heap.size:=by have:=g.size;have:=Pj al;omega
   have aO:=WC a.fS c u;have ah:=F3 a.fS c u;have aX:=ZA (a.fS.take c);have i:=Pj ae;have ax:=Pj E;have aK:Tr.f5 (a.fS.take c)+(a.fS[c]).count<=Tr.f5 a.fS:=yK
   have k:=aCk w.heap.size (w.heap.size+1) (a.fS[c]).count a.fS[c] Qq q[c] _ wr aW af Pv;have aR:=Y ah;obtain⟨bi,F⟩:=xE (q[c]);rw[<-F] at M k;have a8:(c:Int)<(a.fS.length:Int):=Pv;clear U aO i ax aK F ah aX;go_wp2_with fail;refine cm k ?_;rintro o aU ⟨rfl,aH,aJ⟩;have aE:=g.trans aJ;clear M;go_wp2
   go_roundw
   case rel=>exact⟨c+1,by omega,by go_num,by rw[aR.out];exact aH,aE⟩
   case measure=>simp[intOf];omega):=Pq h;exact Vt
  ·have U:c=a.fS.length:=Pv;subst U;have m:=af;rw[gV] at m;obtain⟨_,aD,v,b,e⟩:=m;obtain⟨s,M,rfl⟩:=P7 e;have aE:wr.cell? (Pn w.heap.size 0)=some (.slice s (jE a.fS).length M):=by rw[cell_of b];rfl
   have aH:=fR b;have d:PG w wr:=n.trans ((g.mono Pv).below Qq);have ah:=ZA a.fS;have k:=Db (jE a.fS) _ wr e (by have:=Pj ae;have:=Pj E;omega)
   clear b ah;go_wp2_with fail;refine cm k ?_;rintro o aU ⟨⟨t,rfl,T⟩,i⟩;obtain⟨ax,ay,rfl⟩:=P7 T;have F:=d.trans (i.mono d.size);go_wp2;go_ret;exact⟨⟨_,rfl,TS T d.size⟩,F⟩):=Pq h;exact tI
def Fp {P:Program}{a:Py}(base:Nat)(c l b:TypeId)(i:TypeInfo)(size:Nat)(f:P.underlying c=some (.slice b))(n:P.info? b=some i)(d:PO)(k:Nat)(m:List PO)(g:a.ownsRow base b size d k m)(e:Option Addr)(j:Nat) :
  (Builtin.append_ #[c,c] l #[d,.slice e 0 j]).run P a=.ok d a:=by
 cases e <;> rcases g.2 with ⟨rfl,rfl⟩|⟨q,o,p,rfl,_,_,r,_⟩ <;>
  simp[Builtin.append_,hx f,sizeOf,typeInfo,Builtin.lenOf,Builtin.firstCells,loadCells,loadCellsFrom,storeCells, *]
def Zi {P:Program}{a:Py}{w:Array Oper}{rest:List Oper}{j:Oper}{f:Act}{Q:Exit->Act->Py->Prop}(E:j.guard=none)(r x:Operand)(l:TypeId)(u:j.op=.call { callee:=.builtin .append,args:=#[r,x],argTypes:=#[l,l] })(base S:Nat)(e:TypeId)(g:TypeInfo)(q:PO)(bytes:Nat)(v:P.underlying l=some (.slice e))(B:P.info? e=some g)(I:g.zero=some q)(hsize:g.size=1)(L:g.bytes=bytes)(O:q.cells.size=1)(c:PO)(i:Nat)(p:List PO)(A:f.eval r=c)(k:a.ownsRow base e 1 c i p)(D:PO)(b:Nat)(news:List PO)(z:f.eval x=D)(d:a.ownsRow S e 1 D b news)(M:∀C ∈ news,C.oneCell'=true)(R:i+b<=maxLen)(hbytes:(i+b) * bytes<=140737488355328)(hbase:base<=a.heap.size)(h:∀m o,o.ownsRow base e 1 m (i+b) (p++news)->a.grownBy o c.ownBlock->wpList P w Q rest (f.put j.dst m) o):wpList P w Q (j::rest) f a:=by
 rcases mC b with rfl|t
 ·have F{G}(h:G:=by
  refine wpList_plain E λK H=>?_;have N:=Fp (P:=P) (a:=a) base l j.type e g 1 v B c i p k n s;unfold Oper.wp;simp[execOp,u,resolve,invoke,builtin,A,z,N,Result.andThen];exact H _ _ m):=Pq h;exact Js
 ·obtain⟨m,H,rfl,_,_⟩:=d.form t;refine wpList_append_lies a E r x l u base e g q 1 bytes v B I hsize L O PK c i p A k (Pn m 0) b H news z d.1 (λn C s=>?_) M t R hbytes hbase _ rfl (λT N o f F _ _=>h _ _ f F);exact Dk
def gp (a:Tr)(body:Bool):List PS:=XV ((if body then QF a else [])++(Ue a).map Tr.tx++(Qi a).map Tr.tx)
def q2 (a:Tr):(Ue a).length<=a.fS.length:=hu _ _
def TI (a:Tr):(Qi a).length<=a.fS.length:=hu _ _
def Ye (a:Tr):(QF a).length<=Tr.f5 a.fS:=gr (Zb _) (ZA _)
def Yg (a:Tr)(d:Nat)(body:Bool)(c:Py)(h:UN c a d)(bv:a.count<=20000) :
  PN 78 #[Pm d,PD body] c λe O=>(∃b,e=PY b/\QV c.heap.size O b (gp a body))/\PG c O:=by
 obtain⟨aH,aD,aE,ax,ay⟩:=g2 iQ;have b{G}(h:G:=by
 have bz:=q2 a;have bB:=TI a;have bm:=Ye a;unfold gp;obtain⟨l,L⟩:=xH ((Ue a).map Tr.tx);have bq:l.length<=20000:=by rw[L.out,gF];omega
 obtain⟨G,H⟩:=xH ((Qi a).map Tr.tx);have br:G.length<=20000:=by rw[H.out,gF];omega
 rw[<-L.out,<-H.out]
 cases body with
 |true=>
  have R:=Yf a d c h Pv;simp only[hq];obtain⟨g,f⟩:=xE (QF a);have aJ:g.length<=20000:=by rw[f];omega
  rw[<-f] at R ⊢;have b{G}(h:G:=by
  go_wp2_with fail;refine cm R ?_;rintro e aK ⟨⟨u1,rfl,P⟩,p⟩;obtain⟨bA,bx,rfl⟩:=P7 P;have I:=p;have m:=h.fQ p;have aI:=P;have j:=vy a d aK m Pv;exact FE):=Pq h;exact Ft
 |false=>
  simp only[ic,ib];obtain⟨g,f⟩:=xE ([]:List PS);have aJ:g.length<=20000:=by rw[f];simp
  have I:PG c c:=RV;have m:UN c a d:=h;have aI:QV c.heap.size c RF g:=by rw[f];exact Xu _ _
  have P:Hid (∀p,p=[]++l++G->p=g++l++G):=λp R=>by rw[R,f]
  rw[Pj P _ rfl];have b{G}(h:G:=by
  have j:=vy a d c m Pv;exact FE):=Pq h;exact Ft):=Pq h;exact nI
section
variable (k:Nat)(f:Tr->Bool)(B:WU k)(a:List Tr)(m:PO)(d:Py){z:Nat}(h:UZ z d m a)(A:a.length<=90000)(g:∀t ∈ a,∀o W,PG d W->UN W t o->PN k #[Pm o] W λe l=>e=PY (PD (f t))/\PG W l)
include k f B a m d z h A g
def atd :
  PN 183 #[m,sX k] d λe l=>(∃c:Int,e=PY (Ph c)/\decide (0<=c)=a.any f)/\PG d l:=zv
def A3 :
  PN 248 #[m,sX k] d λe l=>e=PY (PD (a.any f))/\PG d l:=by
 have c:=atd k f B a m d h A g;exact Jx
end
section
variable (k:Nat)(m:PO)(f:Tr->Bool)(C:WU k)(a:List Tr)(o:PO)(d:Py){A:Nat}(h:UZ A d o a)(B:a.length<=90000)(g:∀z ∈ a,∀t W,PG d W->UN W z t->PN k #[Pm t,m] W λe l=>e=PY (PD (f z))/\PG W l)
include k m f C a o d A h B g
def PT :
  PN 183 #[o,.func (.func k) #[] #[m]] d λe l=>(∃c:Int,e=PY (Ph c)/\decide (0<=c)=a.any f)/\PG d l:=zv
def Xp :
  PN 248 #[o,.func (.func k) #[] #[m]] d λe l=>e=PY (PD (a.any f))/\PG d l:=by
 have c:=PT k m f C a o d h B g;exact Jx
end
def U0 (b:List Tr)(x:PS):Bool:=b.any λa=>decide (a.tx=x)
def MP:WU 289:=λ_ _=>by kernel_rfl
def ajK (e:Tr)(i b:Nat)(x:PS)(a:Py)(h:UN a e i)(l:a.cell? (Pn b 0)=some (PI x)):PN 289 #[Pm i,PZ b 0] a λn j=>n=PY (PD (decide (e.tx=x)))/\PG a j:=by
 obtain⟨o,_,m,_⟩:=h.cells;obtain⟨f,g⟩:=xE e.tx;rw[<-g] at m ⊢;have p:b<a.heap.size:=by
  rcases im b a.heap.size with d|d
  ·exact d
  ·have k:a.heap[b]?=none:=kF d;simp[World.cell?,k] at l
 clear h g
 by_cases c:f=x
 ·subst c;have d:decide (f=f)=true:=hr rfl;rw[d];clear d;go_enter func289,ntmps289;go_wp2_with fail
  go_region
  go_wp2;go_ret;exact⟨rfl,RV.drew⟩
 ·rw[hi c];have d:=pu c;clear c;go_enter func289,ntmps289;go_wp2_with fail
  go_region
  go_wp2;go_ret;exact⟨rfl,RV.drew⟩
def Zz (d:List Tr)(g:PO)(x:PS)(a:Py){l:Nat}(h:UZ l a g d)(p:d.length<=90000) :
  PN 246 #[g,PI x] a λi k=>i=PY (PD (U0 d x))/\PG a k:=by
 obtain⟨b,c⟩:=xE (a.alloc (.cells #[PI x] 9));have f:PG a b:=by rw[c];exact QK
 have q:b.heap.size=a.heap.size+1:=by rw[c];simp
 have j:b.cell? (Pn a.heap.size 0)=some (PI x):=by rw[c,cell_of (Pz _ _)];rfl
 have m:=Xp 289 (PZ a.heap.size 0) (λn=>decide (n.tx=x)) MP d g b (h.fQ f) p (λs _ r W e n=>ajK s r _ x W n ((gN (w:=b) (a:=(Pn a.heap.size 0)) (e.block a.heap.size Pv)).trans j));obtain⟨u,t,rfl⟩:=h.form;clear h q j;go_enter func246,ntmps246;go_wp2_with fail;rw[<-c];refine cm m ?_;rintro i v ⟨rfl,e⟩;have o:=f.trans (e.mono f.size);clear c;go_wp2;go_ret;exact⟨rfl,o⟩
def f1 {b:Py}{a e:Nat}{f:PO}(h:b.cell? (Pn a e)=some f):a<b.heap.size:=by
 rcases im a b.heap.size with c|c
 ·exact c
 ·have d:b.heap[a]?=none:=kF c;simp[World.cell?,d] at h
def PV {c d:Py}{a b:Nat}{e:PO}(f:PG c d)(h:c.cell? (Pn a b)=some e):d.cell? (Pn a b)=some e:=
 (gN (w:=c) (a:=(Pn a b)) (f.block a (f1 h))).trans h
abbrev TQ:PS:=⟨#[101,118,97,108]⟩
abbrev gL:PS:=⟨#[97,114,103,117,109,101,110,116,115]⟩
def Wi:Option Int->PO
 |none=>.nilIface
 |some a=>.iface 34 (Ph a)
abbrev Y7 (c b a:Bool):PO:=.agg #[PD c,PD b,PD a]
def isSp (x:PS):Bool:=decide (x=TQ)||decide (x=gL)
def i6 (a:Bool)(x:PS):Option Int:=if a&&isSp x then some 5 else none
def PU (a:Tr):Bool:=(a.kd==1||a.kd==6)&&decide (a.tx=Wj)
def Wl (c f e:Bool)(x:PS)(d:Py):PN 192 #[PI x,Y7 c f e] d λk g=>k=PY (Wi (i6 c x))/\PG d g:=by
 unfold i6 isSp;have l:=(gi d.heap.size d).alloc Qq (.cells #[PD c,PD f,PD e] 112)
 cases c with
 |false=>
  exact s3
 |true=>
  by_cases b:x=TQ
  ·have i:=WV (a:=TQ) rfl b;rw[hr b];clear b;exact s3
  ·have i:=VX (a:=TQ) rfl b;rw[hi b];clear b
   by_cases a:x=gL
   ·have j:=WV (a:=gL) rfl a;rw[hr a];clear a;exact s3
   ·have j:=VX (a:=gL) rfl a;rw[hi a];clear a;exact s3
section
variable (a:Tr)(d:Nat)(b:Py)(h:UN b a d)
include a d b h
def TG:PN 58 #[Pm d] b λk f=>k=PY (PD (PU a))/\f=b:=by
 obtain⟨m,i,j,_⟩:=h.cells;clear h;unfold PU
 generalize a.kd=e at i
 generalize a.tx=l at j
 by_cases c:l=Wj
 ·have g:=WV (a:=Wj) rfl c;rw[hr c];exact I3
 ·have g:=VX (a:=Wj) rfl c;rw[hi c];exact I3
def Lr:PN 102 #[Pm d] b λf c=>f=PY (PD (Q7 a))/\c=b:=by
 obtain⟨j,e,_,_⟩:=h.cells;clear h;unfold Q7
 generalize a.kd=g at e
 cases i:(g==5)
 all_goals
  go_enter func102,ntmps102;go_wp2;go_ret;exact⟨rfl,rfl⟩
end
def Rj (a:Tr)(b:Nat):Tr:=a.fS.getD b a
def YC (b:Tr)(a:Nat)(h:a<b.fS.length):Rj b a=b.fS[a]:=by simp[Rj,List.getD,h]
section
variable (a:Tr)(d:Nat)(b:Py)(h:UN b a d)
include a d b h
def Ic (g:2<=a.fS.length)(m:a.fS.length<=90000):PN 103 #[Pm d] b λl f=>(∃c,l=PY (Pm c)/\UN b (Rj a 1) c)/\f=b:=by
 obtain⟨q,_,_,t,j,i⟩:=h.cells;obtain⟨r,p,c,rfl,s,o,e⟩:=i.cell 1 Pv;rw[<-YC a 1 Pv] at e;clear h
 generalize k:a.fS.length=n at j g m
 clear k;go_enter func103,ntmps103;go_wp2;go_ret;exact⟨⟨c,rfl,e⟩,rfl⟩
def Ib (i:1<=a.fS.length)(n:a.fS.length<=90000):PN 249 #[Pm d] b λm g=>(∃c,m=PY c/\UZ 0 b c (Rj a 0).fS)/\g=b:=by
 obtain⟨t,_,_,c,k,j⟩:=h.cells;obtain⟨v,s,A,rfl,w,q,e⟩:=j.cell 0 Pv;rw[<-YC a 0 Pv] at e;obtain⟨u,_,_,u2,z,f⟩:=e.cells;obtain⟨p,r,rfl⟩:=f.form;clear h
 generalize l:a.fS.length=o at k i n
 clear l;go_enter func249,ntmps249;go_wp2;go_ret;exact⟨⟨_,rfl,f⟩,rfl⟩
end
def Yc (a:Tr):Bool:=a.kd==3||a.kd==4||a.kd==5
def aBp:WU 251:=λ_ _=>by kernel_rfl
def ET:WU 244:=λ_ _=>by kernel_rfl
def Pf:WU 245:=λ_ _=>by kernel_rfl
def axa:WU 250:=λ_ _=>by kernel_rfl
def O9 (a:Tr)(d:Nat)(b:Py)(h:UN b a d):PN 251 #[Pm d] b λg e=>g=PY (PD (Yc a))/\PG b e:=by
 obtain⟨k,f,_,_⟩:=h.cells;clear h;unfold Yc
 generalize a.kd=c at f
 cases j:(c==3) <;> cases i:(c==4) <;>
 ·go_enter func251,ntmps251;go_wp2;go_ret;exact⟨rfl,RV⟩
def CY (d:Tr)(b k:Nat)(a:List PS)(g:Option Addr)(f:Nat)(w:Py){q:Nat}(h:UN w d b)(r:w.cell? (Pn k 0)=some (.slice g a.length f))(T:QV q w (.slice g a.length f) a)(z:a.length<=90000) :
  PN 244 #[Pm b,PZ k 0] w λn p=>n=PY (PD (hasB a d.tx))/\PG w p:=by
 obtain⟨u,_,s,_⟩:=h.cells;have c:=Vz a d.tx _ w.drew T Pv;clear h
 generalize d.tx=o at s c
 have A:=f1 r;go_enter func244,ntmps244;go_wp2_with fail;refine wp_region_held (S:=λt=>t=w.drew) Qz ?_;refine l6 ?_;refine wh 0 (.slice g a.length f) rfl ?_ (aZ:=fU ⟨by kernel_rfl,λt e=>by cases e;go_simp⟩)
 refine wh 1 (Pm b) rfl ?_;refine wh 2 (Pm b) rfl ?_;refine wh 3 (PZ b 1) rfl ?_;refine wh 4 (PI o) rfl ?_ (aZ:=fU ⟨by kernel_rfl,λt e=>by cases e;go_simp⟩)
 refine Yd 5 λK j=>?_;go_simp;refine l3 ?_;rintro n B ⟨rfl,rfl⟩;refine j.out _ _ rfl (λ_=>?_);clear j K;refine wh 6 (PD (hasB a o)) rfl ?_;refine Y8 ?_;go_wp2;go_ret;exact⟨rfl,RV.drew⟩
def ajM (g:Tr)(e p:Nat)(a:List Tr)(n:Option Addr)(k:Nat)(w:Py){z:Nat}(h:UN w g e)(o:w.cell? (Pn p 0)=some (.slice n a.length k))(T:UZ z w (.slice n a.length k) a)(C:a.length<=90000) :
  PN 245 #[Pm e,PZ p 0] w λr u=>r=PY (PD (U0 a g.tx))/\PG w u:=by
 obtain⟨E,_,q,_⟩:=h.cells;have c:=Zz a _ g.tx w.drew (T.fQ RV.drew) C;clear h
 generalize g.tx=s at q c
 have F:=f1 o;have b:PG w w.drew:=RV.drew;go_enter func245,ntmps245;go_wp2_with fail;refine wp_region_held (S:=λt=>PG w t) Qz ?_;refine l6 ?_;refine wh 0 (.slice n a.length k) b ?_ (aZ:=fU ⟨by kernel_rfl,λt j=>by have B:=PV j o;go_simp⟩)
 refine wh 1 (Pm e) b ?_;refine wh 2 (Pm e) b ?_;refine wh 3 (PZ e 1) b ?_;refine wh 4 (PI s) b ?_ (aZ:=fU ⟨by kernel_rfl,λt j=>by have B:=PV j q;go_simp⟩)
 refine Yd 5 λK d=>?_;go_simp;refine l3 ?_;rintro r D ⟨rfl,A⟩;have f:PG w D:=b.trans (A.mono Qq);refine pJ ?_;clear d K;refine wh 6 (PD (U0 a s)) f ?_;refine Y8 ?_;go_wp2;go_ret;exact⟨rfl,f⟩
def amN (n b:Tr)(e q g:Nat)(w:Py)(h:UN w n e)(p:w.cell? (Pn q 0)=some (Pm g))(b0:UN w b g)(u:1<=b.fS.length)(B:b.fS.length<=90000)(D:(Rj b 0).fS.length<=90000) :
  PN 250 #[Pm e,PZ q 0] w λk s=>k=PY (PD (U0 (Rj b 0).fS n.tx))/\PG w s:=by
 obtain⟨F,_,r,_⟩:=h.cells;have a:PG w w.drew:=RV.drew;have HP:=Ib b g w.drew (b0.fQ a) u B;clear h
 generalize n.tx=o at r
 have H:=f1 p;go_enter func250,ntmps250;go_wp2_with fail;refine wp_region_held (S:=λt=>PG w t) Qz ?_;refine l6 ?_;refine wh 0 (Pm g) a ?_ (aZ:=fU ⟨by kernel_rfl,λt j=>by have C:=PV j p;go_simp⟩)
 refine wh 2 (Pm e) a ?_;refine wh 3 (Pm e) a ?_;refine wh 4 (PZ e 1) a ?_;refine wh 5 (PI o) a ?_ (aZ:=fU ⟨by kernel_rfl,λt j=>by have C:=PV j r;go_simp⟩)
 refine Yd 1 λK d=>?_;go_simp;refine cm HP ?_;rintro k N ⟨⟨L,rfl,T⟩,rfl⟩;obtain⟨M,E,rfl⟩:=T.form;refine d.out _ _ a (λ_=>?_);clear d K;have c:=Zz (Rj b 0).fS _ o w.drew T D;refine Yd 6 λK d=>?_;go_simp;refine l3 ?_;rintro k z ⟨rfl,A⟩;have f:PG w z:=a.trans (A.mono Qq);refine pJ ?_;clear d K;refine wh 7 (PD (U0 (Rj b 0).fS o)) f ?_;refine Y8 ?_;go_wp2;go_ret;exact⟨rfl,f⟩
def Xh.take {d:Nat->Prop}{e:Py}:∀(b:List Tr)(c:List Nat),Xh d e b c->∀a,Xh d e (b.take a) (c.take a)
 |[],c,h,a=>by rw[Xh] at h;subst h;simpa using Xh.nil
 |k::b,c,h,a=>by
  rw[Xh] at h;obtain⟨j,g,rfl,i,f⟩:=h
  cases a with
  |zero=>simpa using Xh.nil
  |succ a=>simpa using Xh.cons i (Xh.take b g f a)
def UZ.take {e:Nat}{k:Py}{d c:Nat}{b:List Tr}(h:UZ e k (.slice (some (Pn d 0)) b.length c) b)(a:Nat)(v:a<=b.length):UZ e k (.slice (some (Pn d 0)) a c) (b.take a):=by
 obtain⟨j,r,f⟩:=h;have A:=Xh.length _ _ f;refine⟨j.take a,?_,Xh.take _ _ f a⟩;have t:(j.take a).length=a:=by rw[hQ];omega
 rw[t];refine⟨by simp;omega,f4 ?_⟩
 rcases r.2 with p|⟨z,u,q,i,l,s,w,m,n,o⟩
 ·exact absurd p.1 Qh
 ·simp only[g7,he,iO] at i;obtain⟨⟨rfl,_,_⟩,_,rfl⟩:=i;refine⟨d,c,q,rfl,l,s,by omega,m,n,?_⟩;have g:=zalcy (List.take a) o;rw[lc,lM Pv] at g;rw[Nat.mul_one,g,<-lu]
def ns (b:List Tr)(a:Nat):PS:=(b.map Tr.tx).getD a PE
def GA (b:List Tr)(a:Nat)(h:a<b.length):ns b a=(b[a]).tx:=by simp[ns,List.getD,h]
def y8 (b:List Tr)(a:Nat):Bool:=U0 (b.take a) (ns b a)
def nL (a:List Tr):Bool:=(List.range a.length).any (y8 a)
def DU (a:List Tr)(v:PO)(w:Py){N:Nat}(h:UZ N w v a)(aI:a.length<=90000) :
  PN 247 #[v] w λC M=>C=PY (PD (nL a))/\PG w M:=by
 obtain⟨aK,n,rfl⟩:=h.form;have o:=h;obtain⟨R,q⟩:=xH (nL a);rw[<-q.out];clear h;go_enter func247,ntmps247;go_wp2_with fail
 go_loopw [7] (λl wr=>∃i:Nat,i<=a.length/\l=Ph i/\(List.range i).any (y8 a)=false/\PG w wr) (λl _=>a.length - (intOf l).toNat)
 case atStart=>exact⟨0,ge _,rfl,rfl,RV⟩
 case round=>
  obtain⟨i,U,rfl,k,j⟩:=hrel;have D:=Y k;clear k
  by_cases p:i<a.length
  ·obtain⟨E,ax,z,s,aE,ap,g⟩:=(o.fQ j).cell i p;have b{G}(h:G:=by
   have aD:(i:Int)<(a.length:Int):=Pv;obtain⟨ay,_,r,_⟩:=g.cells;rw[<-GA a i p] at r;obtain⟨A,u⟩:=xE (ns a i);rw[<-u] at r;have e:PG wr wr.drew:=RV.drew;have c:=Zz (a.take i) _ A wr.drew (((o.fQ j).take i U).fQ e) (by rw[hQ];omega)
   obtain⟨H,T⟩:=xE (U0 (a.take i) A);rw[<-T] at c;have F:Hid (y8 a i=H):=by rw[T,u];rfl
   clear g u T;have al:(i:Int)<=(n:Int):=by
    obtain⟨af,b3,k⟩:=id o;have O:=Xh.length _ _ k
    rcases b3.2 with g|⟨ae,L,ad,s,_,_,ah,_⟩
    ·exact absurd g.1 Qh
    ·simp only[g7] at s;omega
   have aJ:n<=maxLen:=by
    obtain⟨af,b3,k⟩:=o
    rcases b3.2 with g|⟨ae,L,ad,s,_,_,ah,O,_⟩
    ·exact absurd g.1 Qh
    ·simp only[g7] at s;omega
   go_wp2_with fail;refine wp_region_held (S:=λt=>PG wr t) Qz ?_;refine l6 ?_;refine wh 0 (.slice (some (Pn E 0)) a.length n) e ?_;refine wh 1 (Ph i) e ?_;refine wh 3 (Pm z) e ?_;refine wh 4 (Pm z) e ?_;refine wh 5 (PZ z 1) e ?_;refine wh 6 (PI A) e ?_ (aZ:=fU ⟨by kernel_rfl,λt O=>by have aH:=PV O r;go_simp⟩)
   refine wh 2 (.slice (some (Pn E 0)) i n) e ?_;refine Yd 7 λK d=>?_;go_simp;refine l3 ?_;rintro C ak ⟨rfl,X⟩;have f:PG wr ak:=e.trans (X.mono Qq);refine pJ ?_;clear d K;refine Y8 ?_;have B:=j.trans (f.mono j.size)
   cases H with
   |true=>
    have O:R=true:=by
     rw[q.out,nL,jV];exact⟨i,mI.2 p,F.out⟩
    subst O;go_wp2;go_ret;exact⟨rfl,B⟩
   |false=>
    go_wp2
    go_roundw
    case rel=>
     refine⟨i+1,by omega,by go_num,?_,B⟩;rw[List.range_succ,kD,D.out];simp[F.out]
    case measure=>simp[intOf];omega):=Pq h;exact Vt
  ·have c:i=a.length:=Pv;subst c;have b:R=false:=by rw[q.out];exact Pj D
   subst b;go_wp2;go_ret;exact⟨rfl,j⟩
def mm (a:Tr)(b:Bool):Option Int:=if (a.kd==9&&b)||a.fS.any Yc then some 1 else none
def acn (a:Tr)(g:Nat)(b n l:Bool)(c:Py)(h:UN c a g)(v:a.fS.length<=90000):PN 194 #[Pm g,Y7 b n l] c λp q=>p=PY (Wi (mm a b))/\PG c q:=by
 obtain⟨m,e⟩:=xE (c.alloc (.cells #[PD b,PD n,PD l] 112));have d:PG c m:=by rw[e];exact QK
 obtain⟨C,s,_,D,t,k⟩:=h.cells;obtain⟨E,B,rfl⟩:=k.form;have j:=A3 251 Yc aBp a.fS _ m (k.fQ d) v (λa _ g W _ r=>O9 a g W r);unfold mm;clear h
 generalize a.fS.any Yc=z at j
 generalize a.fS.length=A at t j
 generalize a.kd=f at s
 cases o:(f==9&&b) with
 |true=>
  have u:(f==9)=true:=by cases r:(f==9) <;> simp_all
  have i:b=true:=by cases b <;> simp_all
  subst i;clear o;rw[e] at d;clear e;go_enter func194,ntmps194;go_wp2;go_ret;exact⟨rfl,d⟩
 |false=>
  cases u:(f==9) with
  |true=>
   have i:b=false:=by cases b <;> simp_all
   subst i;exact Bj
  |false=>
   exact Bj
def GF {b a:Nat}{f:Py}{e:PO}{c:List Tr}(h:UZ b f e c)(p:a<=b):UZ a f e c:=by
 obtain⟨n,d,g⟩:=h;refine⟨n,⟨d.1,?_⟩,g⟩
 rcases d.2 with j|⟨m,k,l,i,o,rest⟩
 ·exact fU j
 ·exact f4 ⟨m,k,l,i,by omega,rest⟩
def Jp (a:Tr):Bool:=nL (Qi a)||(Qi a).any (λb=>U0 (Ue a) b.tx)||(Qi a).any (λb=>hasB (QF a) b.tx)
def AU (a:Tr):Bool:=nL (Ue a)||(Ue a).any (λb=>hasB (QF a) b.tx)
def og (a:Tr)(body:Bool):Option Int:=if Jp a||(!body&&AU a) then some 9 else none
structure PH (dy:Py)(tA vz:Nat)(LV zU:PO)(b9 jh a2 cD a3:Bool):Prop where
 cF:dy.cell? (Pn vz 0)=some zU
 hr1:∀W,PG dy W->PN 247 #[LV] W λe w'=>e=PY (PD b9)/\PG W w'
 Mj:∀W,PG dy W->PN 248 #[LV,.func (.func 245) #[] #[PZ vz 0]] W λe w'=>e=PY (PD jh)/\PG W w'
 zu:∀W,PG dy W->PN 248 #[LV,.func (.func 244) #[] #[PZ tA 0]] W λe w'=>e=PY (PD a2)/\PG W w'
 Fe:∀W,PG dy W->PN 247 #[zU] W λe w'=>e=PY (PD cD)/\PG W w'
 ha3:∀W,PG dy W->PN 248 #[zU,.func (.func 244) #[] #[PZ tA 0]] W λe w'=>e=PY (PD a3)/\PG W w'
def TO (a:Tr)(e:Py)(m t o:Nat)(n k A:Option Addr)(j l z:Nat)(w:QV o e (.slice n (QF a).length j) (QF a))(q:UZ o e (.slice k (Ue a).length l) (Ue a))(r:UZ o e (.slice A (Qi a).length z) (Qi a))(B:e.cell? (Pn m 0)=some (.slice n (QF a).length j))(v:e.cell? (Pn t 0)=some (.slice k (Ue a).length l))(u:(QF a).length<=90000)(p:(Ue a).length<=90000)(s:(Qi a).length<=90000) :
  PH e m t (.slice A (Qi a).length z) (.slice k (Ue a).length l) (nL (Qi a)) ((Qi a).any λb=>U0 (Ue a) b.tx) ((Qi a).any λb=>hasB (QF a) b.tx) (nL (Ue a)) ((Ue a).any λb=>hasB (QF a) b.tx):=by
 refine⟨v,λW c=>DU _ _ W (r.fQ c) s,λW c=>?_,λW c=>?_,λW c=>DU _ _ W (q.fQ c) p,λW c=>?_⟩
 ·exact Xp 245 _ (λb=>U0 (Ue a) b.tx) Pf (Qi a) _ W (r.fQ c) s (λb _ i f d g=>ajM b i t (Ue a) k l f g (PV d (PV c v)) ((q.fQ c).fQ d) p)
 ·exact Xp 244 _ (λb=>hasB (QF a) b.tx) ET (Qi a) _ W (r.fQ c) s (λb _ i f d g=>CY b i m (QF a) n j f g (PV d (PV c B)) (QV.fQ (QV.fQ w c) d) u)
 ·exact Xp 244 _ (λb=>hasB (QF a) b.tx) ET (Ue a) _ W (q.fQ c) p (λb _ i f d g=>CY b i m (QF a) n j f g (PV d (PV c B)) (QV.fQ (QV.fQ w c) d) u)
def Y9 (a:Tr)(s:Nat)(body:Bool)(w:Py)(h:UN w a s)(aE:a.count<=20000):PN 190 #[Pm s,PD body] w λe ap=>e=PY (Wi (og a body))/\PG w ap:=by
 have b{G}(h:G:=by
 have aO:=q2 a;have aT:=TI a;have aR:=Ye a;have a8:(QF a).length<=20000:=Pv;have aK:=Yf a s w h Pv;unfold og Jp AU;obtain⟨X,E⟩:∃g,g=nL (Qi a):=⟨_,rfl⟩;obtain⟨ak,A⟩:∃g,g=(Qi a).any λp=>U0 (Ue a) p.tx:=⟨_,rfl⟩;obtain⟨T,B⟩:∃g,g=(Qi a).any λp=>hasB (QF a) p.tx:=⟨_,rfl⟩;obtain⟨aH,F⟩:∃g,g=nL (Ue a):=⟨_,rfl⟩;obtain⟨aD,C⟩:∃g,g=(Ue a).any λp=>hasB (QF a) p.tx:=⟨_,rfl⟩;rw[<-E,<-A,<-B,<-F,<-C];have aZ:=Y E
 have aX:=Y A;have a1:=Y B;have ax:=Y F;have ay:=Y C;clear D aR aE E A B F C;go_enter func190,ntmps190;go_wp2_with fail;refine cm aK ?_;rintro e a6 ⟨⟨u1,rfl,af⟩,I⟩;obtain⟨t,n,rfl⟩:=P7 af;have aQ:=vy a s a6 (h.fQ I) Pv;go_wp2_with fail;refine cm aQ ?_;rintro e a7 ⟨⟨u2,rfl,ah⟩,U⟩;obtain⟨o,q,rfl⟩:=ah.form;have H:=I.trans (U.mono I.size);have aL:=QV.fQ af U;have aJ:=tK a s a7 (h.fQ H) Pv;go_wp2_with fail;refine cm aJ ?_
 rintro e d ⟨⟨u3,rfl,ae⟩,L⟩;obtain⟨aW,aU,rfl⟩:=ae.form;have ad:=H.trans (L.mono H.size);have aY:=QV.fQ aL L;have aI:=ah.fQ L;go_wp2_with fail;obtain⟨c,l⟩:=xE ((d.alloc (.cells #[.slice t (QF a).length n] 26)).alloc (.cells #[.slice o (Ue a).length q] 38));have v:PG d c:=by rw[l];exact QK.alloc Qh _
 have bB:c.heap.size=d.heap.size+2:=by rw[l];simp
 have al:c.cell? (Pn d.heap.size 0)=some (.slice t (QF a).length n):=by
  have M:c.heap[d.heap.size]?=some (Qb #[.slice t (QF a).length n] 26):=by rw[l,gy _ _ _ Qh,Pz]
  rw[cell_of M];rfl
 have u:c.cell? (Pn (d.heap.size+1) 0)=some (.slice o (Ue a).length q):=by
  have M:c.heap[d.heap.size+1]?=some (Qb #[.slice o (Ue a).length q] 38):=by
   have m:=Pz (d.alloc (.cells #[.slice t (QF a).length n] 26)) (.cells #[.slice o (Ue a).length q] 38);rw[l];simpa using m
  rw[cell_of M];rfl
 have i:=TO a c d.heap.size (d.heap.size+1) 0 t o aW n q aU (TS (QV.fQ aY v) (ge _)) (GF (aI.fQ v) (ge _)) (GF (ae.fQ v) (ge _)) al u Pv Pv Pv;rw[<-aZ.out,<-aX.out,<-a1.out,<-ax.out,<-ay.out] at i;have S:PG c c:=RV;have f:=ad.trans (v.mono ad.size);rw[<-l];clear h al l
 generalize (Qi a).length=bx at i aT
 generalize (Ue a).length=bz at i aO u
 generalize (QF a).length=bA at a8
 cases body with
 |true=>
  cases X with
  |true=>
   exact CL
  |false=>
   have b{G}(h:G:=by
   cases ak with
   |true=>
    exact F1
   |false=>
    have b{G}(h:G:=by
    cases T with
    |true=>
     exact xB
    |false=>
     exact xB):=Pq h;exact yj):=Pq h;exact uH
 |false=>
  cases X with
  |true=>
   exact CL
  |false=>
   have b{G}(h:G:=by
   cases ak with
   |true=>
    exact F1
   |false=>
    have b{G}(h:G:=by
    cases T with
    |true=>
     exact xB
    |false=>
     refine cm (i.zu _ k) ?_;rintro e P ⟨rfl,R⟩;have j:PG c P:=k.trans (R.mono k.size);have aM:=PV j u;have br:=f1 aM;go_wp2_with fail
     cases aH with
     |true=>
      refine cm (i.Fe _ j) ?_;rintro e N ⟨rfl,O⟩;have m:PG c N:=j.trans (O.mono j.size);go_wp2;go_ret;exact⟨rfl,f.trans (m.mono f.size)⟩
     |false=>
      refine cm (i.Fe _ j) ?_;rintro e N ⟨rfl,O⟩;have m:PG c N:=j.trans (O.mono j.size);have au:=PV m u;have bv:=f1 au;go_wp2_with fail
      cases aD with
      |true=>
       exact GJ
      |false=>
       exact GJ):=Pq h;exact yj):=Pq h;exact uH):=Pq h;exact nI
def Za (a:Tr)(c:Bool):Option Int:=match i6 c a.tx with
 |some b=>some b
 |none=>if hasB (gp (Rj a 0) false) a.tx then some 9 else none
structure YX (b:Nat)(s i d:Bool)(w:Py):Prop where
 c0:w.cell? (Pn b 0)=some (PD s)
 c1:w.cell? (Pn b 1)=some (PD i)
 c2:w.cell? (Pn b 2)=some (PD d)
def YX.new (d:Py)(c b a:Bool):YX d.heap.size c b a (d.alloc (.cells #[PD c,PD b,PD a] 112)):=
 ⟨by rw[cell_of (Pz _ _)];rfl,by rw[cell_of (Pz _ _)];rfl,by rw[cell_of (Pz _ _)];rfl⟩
def YX.fQ {c:Nat}{f e d:Bool}{w b:Py}(h:YX c f e d w)(a:PG w b):YX c f e d b:=⟨PV a h.c0,PV a h.c1,PV a h.c2⟩
def acY (a:Tr)(g:Nat)(p l s:Bool)(w:Py)(h:UN w a g)(aH:1<=a.fS.length)(aJ:a.count<=20000):PN 193 #[Pm g,Y7 p l s] w λn z=>n=PY (Wi (Za a p))/\PG w z:=by
 have b{G}(h:G:=by
 obtain⟨o,A⟩:=xE (w.alloc (.cells #[PD p,PD l,PD s] 112));have u:PG w o:=by rw[A];exact QK
 have ay:YX w.heap.size p l s o:=by rw[A];exact YX.new _ _ _ _
 obtain⟨a7,_,B,L,af,T⟩:=(h.fQ u).cells;obtain⟨C,aL,H,rfl,a8,aX,ad⟩:=T.cell 0 Pv;rw[<-YC a 0 Pv] at ad;have aD:(Rj a 0).count<=20000:=by
  rw[YC a 0 Pv];have:=UO a.fS 0 Pv;omega
 have bi:=f1 ay.c0;unfold Za;have F:=Y (λW=>Wl p l s a.tx W);have ak:Hid (∀W,PG o W->PN 78 #[Pm H,PD false] W λn z=>(∃L,n=PY L/\QV W.heap.size z L (gp (Rj a 0) false))/\PG W z):=λW aI=>Yg (Rj a 0) H false W (ad.fQ aI) aD;have ap:Hid ((gp (Rj a 0) false).length<=90000):=by
  have aO:(Rj a 0).count=1+Tr.f5 (Rj a 0).fS:=by cases (Rj a 0) with|mk be r bb bf=>exact f9 _ _ _ _
  have aQ:=Tn (Rj a 0).fS;have R:=Zb ([]++(Ue (Rj a 0)).map Tr.tx++(Qi (Rj a 0)).map Tr.tx);have E:=q2 (Rj a 0);have c:=TI (Rj a 0)
  show (gp (Rj a 0) false).length<=_
  unfold gp;simp only[ic,ib];simp only[gg,gF,kv] at R;omega
 generalize gp (Rj a 0) false=ax at ak ap
 generalize a.tx=r at B F
 generalize a.fS.length=O at af aH bQ
 generalize i6 p r=ah at F
 obtain⟨aW,ae⟩:=xH (hasB ax r);rw[<-ae.out];clear h D aJ aD;go_enter func193,ntmps193;go_wp2_with fail;rw[<-A];have e:PG o o.drew:=RV.drew;refine wp_region_held (S:=λt=>PG o t) Qz ?_;refine l6 ?_;refine wh 0 (Pm g) e ?_;refine wh 1 (Pm g) e ?_;refine wh 2 (PZ g 1) e ?_;refine wh 3 (PI r) e ?_ (aZ:=fU ⟨by kernel_rfl,λt j=>by have k:=PV j B;go_simp⟩)
 refine wh 4 (Y7 p l s) e ?_ (aZ:=fU ⟨by kernel_rfl,λt j=>by
  have k:=YX.fQ ay j;have aO:=k.c0;have aQ:=k.c1;have R:=k.c2;clear k;go_simp⟩)
 refine Yd 5 λK d=>?_;go_simp;refine cm (F.out _) ?_;rintro n q ⟨rfl,U⟩;rw[<-A] at U;have f:PG o q:=e.trans (U.mono Qq);refine pJ ?_;clear d K;refine wh 6 (Wi ah) f ?_;refine Y8 ?_
 cases ah with
 |some n=>
  unfold Wi;go_wp2;go_ret;exact⟨rfl,u.trans (f.mono u.size)⟩
 |none=>
  unfold Wi;have M:=PV f B;have aR:=PV f af;have N:=PV f aX;have ba:g<q.heap.size:=f1 M;have bn:C<q.heap.size:=f1 N;have aE:¬ O=0:=Pv;go_wp2_with fail;have e:PG q q.drew:=RV.drew;refine wp_region_held (S:=λt=>PG q t) Qz ?_;refine l6 ?_;refine wh 0 (Pm g) e ?_;refine wh 1 (Pm g) e ?_;refine wh 2 (PZ g 3) e ?_;refine wh 3 (.slice (some (Pn C 0)) O aL) e ?_ (aZ:=fU ⟨by kernel_rfl,λt j=>by have k:=PV j aR;go_simp⟩)
  refine wh 4 (PZ C 0) e ?_ (aZ:=fU ⟨by kernel_rfl,λt j=>by have aY:=aE;go_simp⟩)
  refine wh 5 (Pm H) e ?_ (aZ:=fU ⟨by kernel_rfl,λt j=>by have k:=PV j N;go_simp⟩)
  refine wh 7 (Pm g) e ?_;refine wh 8 (Pm g) e ?_;refine wh 9 (PZ g 1) e ?_;refine wh 10 (PI r) e ?_ (aZ:=fU ⟨by kernel_rfl,λt j=>by have k:=PV j M;go_simp⟩)
  refine Yd 6 λK d=>?_;go_simp;refine cm (ak.out _ (f.trans (e.mono f.size))) ?_;rintro n X ⟨⟨u3,rfl,al⟩,aK⟩;obtain⟨a1,bm,rfl⟩:=P7 al;have E:PG q X:=e.trans (aK.mono Qq);refine d.out _ _ E (λ_=>?_);clear d K;have c:=Vz ax r _ X al (by have:=Pj ap;omega)
  rw[<-ae.out] at c;refine Yd 11 λK d=>?_;go_simp;refine l3 ?_;rintro n a6 ⟨rfl,rfl⟩;refine d.out _ _ E (λ_=>?_);clear d K;refine Y8 ?_;have aT:=f.trans (E.mono f.size)
  cases aW <;>
  ·go_wp2;go_ret;exact⟨rfl,u.trans (aT.mono u.size)⟩):=Pq h;exact nI
def Vj (a:Nat->Option Int):Nat->Option Int
 |0=>none
 |b+1=>match Vj a b with
  |some c=>some c
  |none=>a b
def KD {c:Nat->Option Int}{b:Nat}{f:Int}(h:Vj c b=none)(d:c b=some f):∀a,b<a->Vj c a=some f
 |0,e=>absurd e Pv
 |a+1,e=>by
  rw[Vj]
  rcases im b a with g|g
  ·rw[KD h d a g]
  ·have:b=a:=Pv;subst this;rw[h];exact d
def HY {a:Nat->Option Int}{b:Nat}(h:Vj a b=none)(c:a b=none):Vj a (b+1)=none:=by rw[Vj,h];exact c
def VY (c:Bool)(b:List Tr)(a:Nat):Option Int:=match i6 c (ns b a) with
 |some d=>some d
 |none=>if c&&U0 (b.take a) (ns b a) then some 9 else none
def sf (b:Bool)(a:List Tr):Option Int:=Vj (VY b a) a.length
def pn (a:Tr):Bool:=(Qi (Rj a 1)).any λb=>U0 (Rj a 0).fS b.tx
def n0 (b:Tr)(c:Bool):Option Int:=match i6 c b.tx with
 |some a=>some a
 |none=>match sf c (Rj b 0).fS with
  |some a=>some a
  |none=>if pn b then some 9 else none
def amO {e:Nat}{l:Py}{d:PO}{b:List Tr}(h:UZ e l d b)(o:0<b.length):∃c a,d=.slice (some (Pn c 0)) b.length a/\(b.length:Int)<=(a:Int)/\a<=maxLen:=by
 obtain⟨q,g,k⟩:=h;have j:=Xh.length _ _ k
 rcases g.2 with m|⟨c,a,p,i,_,_,n,f,_⟩
 ·omega
 ·exact⟨c,a,by rw[i,j],by omega,f⟩
structure s7 (t:Tr)(p yO yP:Nat)(s i b:Bool)(w:Py):Prop where
 nt:UN w t p
 cN:w.cell? (Pn yO 0)=some (Pm p)
 pl:YX yP s i b w
def s7.fQ {g:Tr}{e i j:Nat}{f d c:Bool}{w b:Py}(h:s7 g e i j f d c w)(a:PG w b):s7 g e i j f d c b:=⟨h.nt.fQ a,PV a h.cN,h.pl.fQ a⟩
def SP (a:Tr)(o:Nat)(g l B:Bool)(w:Py)(h:UN w a o)(aL:2<=a.fS.length)(aQ:a.count<=20000):PN 191 #[Pm o,Y7 g l B] w λe q=>e=PY (Wi (n0 a g))/\PG w q:=by
 have b{G}(h:G:=by
 have ba:∀p,p<a.fS.length->(Rj a p).fS.length<=20000:=λp bA=>by
  rw[YC a p bA];have z:=UO a.fS p bA;have af:(a.fS[p]).count=1+Tr.f5 (a.fS[p]).fS:=by cases a.fS[p] with|mk be r bb bf=>exact f9 _ _ _ _
  have s:=Tn (a.fS[p]).fS;omega
 have cg:=ba 0 Pv;have ce:=ba 1 Pv;obtain⟨u,N⟩:=xE ((w.alloc (.cells #[Pm o] 22)).alloc (.cells #[PD g,PD l,PD B] 112));have A:PG w u:=by rw[N];exact QK.alloc Qh _
 have E:s7 a o w.heap.size (w.heap.size+1) g l B u:=by
  refine⟨h.fQ A,?_,?_⟩
  ·have z:u.heap[w.heap.size]?=some (Qb #[Pm o] 22):=by rw[N,gy _ _ _ Qh,Pz]
   rw[cell_of z];rfl
  ·have z:=YX.new (w.alloc (.cells #[Pm o] 22)) g l B;rw[N];simpa using z
 have aI:Hid (∀W,PG u W->PN 249 #[Pm o] W λe q=>(∃M,e=PY M/\UZ 0 W M (Rj a 0).fS)/\q=W):=λW F=>Ib a o W (E.fQ F).nt Pv Pv;have bI:Hid (∀x W,PN 192 #[PI x,Y7 g l B] W λe q=>e=PY (Wi (i6 g x))/\PG W q):=λx W=>Wl g l B x W;have b7:Hid (∀W,PG u W->PN 103 #[Pm o] W λe q=>(∃n,e=PY (Pm n)/\UN W (Rj a 1) n)/\q=W):=λW F=>Ic a o W (E.fQ F).nt aL Pv
 have bB:Hid (∀n W,UN W (Rj a 1) n->PN 77 #[Pm n] W λe q=>(∃M,e=PY M/\UZ W.heap.size q M (Qi (Rj a 1)))/\PG W q):=λn W aO=>tK _ n W aO Pv;have aY:Hid (∀v W bm,PG u W->UZ bm W v (Qi (Rj a 1))->PN 248 #[v,.func (.func 250) #[] #[PZ w.heap.size 0]] W λe q=>e=PY (PD (pn a))/\PG W q):=λv W bm F ak=>
  Xp 250 _ (λi=>U0 (Rj a 0).fS i.tx) axa _ v W ak (by have:=TI (Rj a 1);omega) (λi _ s t j H=>amN i a s w.heap.size o t H ((E.fQ F).fQ j).cN ((E.fQ F).fQ j).nt Pv Pv Pv)
 obtain⟨_,_,aT,_⟩:=E.nt.cells;unfold n0;obtain⟨ad,ax⟩:=xE (sf g (Rj a 0).fS);rw[<-ax];have aJ:Hid (∀aE e,aE<(Rj a 0).fS.length->Vj (VY g (Rj a 0).fS) aE=none->VY g (Rj a 0).fS aE=some e->ad=some e):=λaE e H z af=>by rw[ax];exact KD z af _ H
 have bn:Hid (Vj (VY g (Rj a 0).fS) (Rj a 0).fS.length=none->ad=none):=λz=>by rw[ax];exact z
 generalize pn a=b6 at aY
 generalize Qi (Rj a 1)=cq at bB aY
 generalize (Rj a 0).fS=P at aI aJ bn cg
 generalize a.tx=r at aT
 have bv:=E.cN;have aW:=E.pl;clear h aL aQ D bQ ba ce ax;have br:=Y (bI r)
 generalize cj:i6 g r=bz at br
 clear cj;have aD:=Y bv;have bF:=Y aT;have a6:=aW;clear bv aT aW;go_enter func191,ntmps191;go_wp2_with fail;rw[<-N];have c:PG u u.drew:=RV.drew;have aW:=f1 bF.out;refine wp_region_held (S:=λt=>PG u t) Qz ?_;refine l6 ?_;refine wh 0 (Pm o) c ?_ (aZ:=fU ⟨by kernel_rfl,λt j=>by have k:=PV j aD.out;go_simp⟩)
 refine wh 1 (Pm o) c ?_;refine wh 2 (PZ o 1) c ?_;refine wh 3 (PI r) c ?_ (aZ:=fU ⟨by kernel_rfl,λt j=>by have k:=PV j bF.out;go_simp⟩)
 refine wh 4 (Y7 g l B) c ?_ (aZ:=fU ⟨by kernel_rfl,λt j=>by
  have k:=YX.fQ a6 j;have b1:=k.c0;have z:=k.c1;have af:=k.c2;clear k;go_simp⟩)
 refine Yd 5 λK d=>?_;go_simp;refine cm (br.out _) ?_;rintro e bN ⟨rfl,bx⟩;rw[<-N] at bx;have f:PG u bN:=c.trans (bx.mono Qq);refine pJ ?_;clear d K;refine wh 6 (Wi bz) f ?_;refine Y8 ?_
 cases bz with
 |some e=>
  unfold Wi;go_wp2;go_ret;exact⟨rfl,A.trans (f.mono A.size)⟩
 |none=>
  unfold Wi;have ap:=PV f aD.out;have bJ:=f1 ap;have aR:=Pj aI bN f;go_wp2_with fail;refine cm aR ?_;rintro e bW ⟨⟨M,rfl,T⟩,rfl⟩;obtain⟨cC,cr,rfl⟩:=T.form;have bX:=T;clear T ap bJ;go_wp2_with fail
  go_loopw [22] (λp wr=>∃i:Nat,i<=P.length/\p=Ph i/\Vj (VY g P) i=none/\PG bW wr) (λp _=>P.length - (intOf p).toNat)
  case atStart=>exact⟨0,ge _,rfl,rfl,RV⟩
  case round=>
   obtain⟨i,aL,rfl,bH,ae⟩:=hrel;have O:=Y bH;clear bH;have C:=f.trans (ae.mono f.size)
   by_cases ah:i<P.length
   ·obtain⟨cy,cw,n,ak,b2,aQ,H⟩:=(bX.fQ ae).cell i ah;simp only[g7] at ak;obtain⟨rfl,_,rfl⟩:=ak;have cx:(i:Int)<(P.length:Int):=Pv;obtain⟨bZ,_,al,_⟩:=H.cells;rw[<-GA P i ah] at al;have U:Hid (VY g P i=(match i6 g (ns P i) with|some e=>some e|none=>if g&&U0 (P.take i) (ns P i) then some 9 else none)):=rfl
    generalize ns P i=x at al U
    have bK:=Y (Pj bI x)
    generalize i6 g x=bG at bK U
    have bU:=YX.fQ a6 C;have bL:=Y al;clear H;go_wp2_with fail;have c:PG wr wr.drew:=RV.drew;refine wp_region_held (S:=λt=>PG wr t) Qz ?_;refine l6 ?_;refine wh 0 (Pm n) c ?_;refine wh 1 (Pm n) c ?_;refine wh 2 (PZ n 1) c ?_;refine wh 3 (PI x) c ?_ (aZ:=fU ⟨by kernel_rfl,λt j=>by have k:=PV j bL.out;go_simp⟩)
    refine wh 4 (Y7 g l B) c ?_ (aZ:=fU ⟨by kernel_rfl,λt j=>by
  have k:=YX.fQ bU j;have b1:=k.c0;have z:=k.c1;have af:=k.c2;clear k;go_simp⟩)
    refine Yd 5 λK d=>?_;go_simp;refine cm (bK.out _) ?_;rintro e s ⟨rfl,bY⟩;have R:PG wr s:=c.trans (bY.mono Qq);refine d.out _ _ R (λ_=>?_);clear d K;refine wh 6 (Wi bG) R ?_;refine wpAnyH_done Qz ?_ _;go_simp;have a1:=ae.trans (R.mono ae.size);have L:=C.trans (R.mono C.size);have bP:=Y (PV R bL.out);clear al bZ aQ b2
    cases bG with
    |some e=>
     have a8:ad=some e:=Pj aJ i e ah O.out U.out;subst a8;unfold Wi;go_wp2;go_ret;exact⟨rfl,A.trans (L.mono A.size)⟩
    |none=>
     unfold Wi;have aK:=YX.fQ a6 L;have cp:=f1 aK.c0;have c:PG s s.drew:=RV.drew
     cases g with
     |false=>
      have aH:Hid (VY false P i=none):=Pj U;go_wp2_with fail;refine wp_region_held (S:=λt=>PG s t) Qz ?_;change wpAnyH _ _ _ _ _ _ _ _ (World.drew _);refine wh 0 (PZ (w.heap.size+1) 0) c ?_;refine wh 1 (PD false) c ?_ (aZ:=fU ⟨by kernel_rfl,λt j=>by have k:=PV j aK.c0;go_simp⟩)
      refine wh 2 (PD false) c ?_;refine wh 3 undef c ?_ (aZ:=f4 ⟨by kernel_rfl,rfl⟩);refine wh 5 undef c ?_ (aZ:=f4 ⟨by kernel_rfl,rfl⟩);refine wh 7 undef c ?_ (aZ:=f4 ⟨by kernel_rfl,rfl⟩);refine wh 8 undef c ?_ (aZ:=f4 ⟨by kernel_rfl,rfl⟩);refine wh 9 undef c ?_ (aZ:=f4 ⟨by kernel_rfl,rfl⟩);refine wh 10 undef c ?_ (aZ:=f4 ⟨by kernel_rfl,rfl⟩);refine Yd 4 λK d=>?_;go_simp;refine d.out _ _ c (λ_=>?_);clear d K;refine wh 6 undef c ?_ (aZ:=f4 ⟨by kernel_rfl,rfl⟩);refine Yd 11 λK d=>?_;go_simp
      refine d.out _ _ c (λ_=>?_);clear d K;refine wh 12 (PD false) c ?_;refine wpAnyH_done Qz ?_ _;go_simp;go_wp2
      go_roundw
      case rel=>exact⟨i+1,by omega,by go_num,HY O.out aH.out,a1.drew⟩
      case measure=>simp[intOf];omega
     |true=>
      have bS:=Pj aI s.drew L.drew;have bq:=Y (PV L aD.out);have cn:=f1 bq.out;have cB:=f1 bP.out;obtain⟨a7,T⟩:=xE (U0 (P.take i) x);have aH:Hid (VY true P i=if a7 then some 9 else none):=by rw[T];exact Pj U
      have b5:=Y T;clear T;go_wp2_with fail;refine wp_region_held (S:=λt=>PG s t) Qz ?_;change wpAnyH _ _ _ _ _ _ _ _ (World.drew _);refine wh 0 (PZ (w.heap.size+1) 0) c ?_;refine wh 1 (PD true) c ?_ (aZ:=fU ⟨by kernel_rfl,λt j=>by have k:=PV j aK.c0;go_simp⟩)
      refine wh 2 (PD true) c ?_;refine wh 3 (Pm o) c ?_ (aZ:=fU ⟨by kernel_rfl,λt j=>by have k:=PV j bq.out;go_simp⟩)
      refine wh 5 (Ph i) c ?_;refine wh 7 (Pm n) c ?_;refine wh 8 (Pm n) c ?_;refine wh 9 (PZ n 1) c ?_;refine wh 10 (PI x) c ?_ (aZ:=fU ⟨by kernel_rfl,λt j=>by have k:=PV j bP.out;go_simp⟩)
      refine Yd 4 λK d=>?_;go_simp;refine cm bS ?_;rintro e bD ⟨⟨u5,rfl,X⟩,rfl⟩;obtain⟨b8,bE,rfl,cz,ck⟩:=amO X Pv;refine d.out _ _ c (λ_=>?_);clear d K;have bo:=Zz (P.take i) _ x s.drew (X.take i Pv) (by rw[hQ];omega)
      rw[<-b5.out] at bo;have cA:(i:Int)<=(bE:Int):=Pv;refine wh 6 (.slice (some (Pn b8 0)) i bE) c ?_;refine Yd 11 λK d=>?_;go_simp;refine cm bo ?_;rintro e bi ⟨rfl,aX⟩;have ay:PG s bi:=c.trans (aX.mono Qq);refine d.out _ _ ay (λ_=>?_);clear d K;refine wh 12 (PD a7) ay ?_;refine wpAnyH_done Qz ?_ _;go_simp;have bR:=a1.trans (ay.mono a1.size);have ci:=L.trans (ay.mono L.size)
      cases a7 with
      |true=>
       have a8:ad=some 9:=Pj aJ i 9 ah O.out aH.out;subst a8;go_wp2;go_ret;exact⟨rfl,A.trans (ci.mono A.size)⟩
      |false=>
       go_wp2
       go_roundw
       case rel=>exact⟨i+1,by omega,by go_num,HY O.out aH.out,bR⟩
       case measure=>simp[intOf];omega
   ·have R:i=P.length:=Pv;subst R;have aK:ad=none:=Pj bn O.out;subst aK;have ap:=PV C aD.out;have bJ:=f1 ap;have aR:=Pj b7 wr C;go_wp2_with fail;refine cm aR ?_;rintro e s ⟨⟨n,rfl,aO⟩,rfl⟩;have ay:=Pj bB n s aO;go_wp2_with fail;refine cm ay ?_;rintro e bD ⟨⟨u5,rfl,X⟩,al⟩;obtain⟨a7,a1,rfl⟩:=X.form;have L:=C.trans (al.mono C.size);have U:=Pj aY _ bD _ L X
    cases b6 <;>
    ·go_wp2_with fail;refine cm U ?_;rintro e bi ⟨rfl,aX⟩;have aH:=L.trans (aX.mono L.size);go_wp2;go_ret;exact⟨rfl,A.trans (aH.mono A.size)⟩):=Pq h;exact nI
