import Derived.Test.YticfnaiehdpbmaaGreatDoorFa5
set_option maxRecDepth 100000
set_option maxHeartbeats 8000000
set_option linter.all false
namespace Go.Proofs.YticfnaiehdpbmaaGreatDoor
open Go.RowKit Go.Proofs.Tryz
def Xd {b:gy}{a:Um}(c:Pe)(e d:Nat)(f:Ug b.l a d≠.out)(h:QC b c d e):Pq 226 #[Qi b] c (QT b c e (NV c.heap.size) (Ug b.l a d)):=
 ami (c:=a) c e d _ rfl f h
section
variable {e:gy} {l:Um} (M:FC e l) (N:∃ j,jW e.l j l) (aC:pf l)
include e l M N aC
def aue:hs e 148 NV (n4 e.l l):=by
 intro w a n aK z bA h;have b{G}(h:G:=by
 unfold n4 TI at z;have i:=Y z;have B:=Y bA;clear z bA;go_enter func148,ntmps148
 cases X:Qm e.l QL n with
 | out=>
  exact Tc
 | f0 E H=>
  have d:=Qh e QL w n a h Pm;exact mi
 | ok aJ A=>
  have d:=Qh e QL w n a h Pm;have b{G}(h:G:=by
  have b{G}(h:G:=by
  have S:=c;clear h
  cases X:gC e.l A with
  | out=>
   exact Tc
  | f0 E H=>
   have d:=gH e v A a S;exact rN
  | ok U C=>
   have d:=gH e v A a S;have b{G}(h:G:=by
   intro m W p;obtain⟨⟨aN,rfl,rfl⟩,c,f⟩:=p;have q:=t.next f;have T:=c
   cases X:Ug e.l l C with
   | out=>
    exact Tc
   | f0 E H=>
    have d:=Xd (a:=l) W a C (by rw[X];nofun) T
    exact ry
   | ok aO I=>
    have d:=Xd (a:=l) W a C (by rw[X];nofun) T
    have b{G}(h:G:=by
    have b{G}(h:G:=by
    cases X:QO e.l l a I with
    | out=>
     exact Tc
    | f0 E H=>
     exact JP
    | ok ax aI=>
     have ak:=XQ aC X;have d:=RV M N O a I _ rfl (by rw[X];nofun) ad
     have b{G}(h:G:=by
     intro m wb p;obtain⟨⟨ay,rfl,aj⟩,c,f⟩:=p;have ap:=ah.next f;have b{G}(h:G:=by
     have aG:=c.ap D ad.base.size;have b{G}(h:G:=by
     have d:=QA 5 U (.slice (some (O7 s.heap.size 0)) 2 2) (s.alloc (.cells #[O5 ai,O5 F] 22)) ⟨_,_,_,rfl⟩;have b{G}(h:G:=by
     obtain⟨ac,aD,aF⟩:=made aG am (PE.pair (I:=gp w.heap.size) r au) (by simp[maxLen]) #[O5 ai,O5 F] rfl 2 rfl 5 U (s.heap.size+1) rfl;exact Uz i.out.symm ac.nv aD aF):=O6 h;exact lS):=O6 h;exact LL):=O6 h;exact Fi):=O6 h;exact YU):=O6 h;exact LQ):=O6 h;exact YU):=O6 h;exact YU):=O6 h;exact o0):=O6 h;exact YU):=O6 h;exact kM
def amk:hs e 157 NV (WV e.l l):=by
 intro w a n ba aD bA h;have b{G}(h:G:=by
 unfold WV TI at aD;have i:=Y aD;have B:=Y bA;clear aD bA;go_enter func157,ntmps157
 cases X:Qm e.l QL n with
 | out=>
  exact Tc
 | f0 S ac=>
  have d:=Qh e QL w n a h Pm;exact mi
 | ok a8 z=>
  have d:=Qh e QL w n a h Pm;have b{G}(h:G:=by
  have b{G}(h:G:=by
  have aF:=c;clear h;have d:=x6 e v z a aF
  cases g:gS e.l z with
  | true=>
   rw[g] at d i;rw[fL rfl] at i;clear g;go_wp2_with fail;refine cm d ?_;rintro m T ⟨rfl,W⟩;have C:=t.next (Ap.of W);have U:=aF.fH W
   cases X:gC e.l z with
   | out=>
    exact Tc
   | f0 S ac=>
    have d:=gH e T z a U;exact xp
   | ok aJ E=>
    have d:=gH e T z a U;have b{G}(h:G:=by
    intro m A p;obtain⟨⟨aY,rfl,rfl⟩,c,f⟩:=p;have q:=C.next f;have H:=c
    cases X:Ug e.l l E with
    | out=>
     exact Tc
    | f0 S ac=>
     have d:=Xd (a:=l) A a E (by rw[X];nofun) H
     exact ry
    | ok bc I=>
     have d:=Xd (a:=l) A a E (by rw[X];nofun) H
     have b{G}(h:G:=by
     have b{G}(h:G:=by
     cases X:QO e.l l a I with
     | out=>
      exact Tc
     | f0 S ac=>
      exact JP
     | ok ax aW=>
      have ak:=XQ aC X;have d:=RV M N O a I _ rfl (by rw[X];nofun) ad
      have b{G}(h:G:=by
      intro m wb p;obtain⟨⟨ay,rfl,aj⟩,c,f⟩:=p;have ap:=ah.next f;have aO:=c;have aX:=Y o.out;have b{G}(h:G:=by
      have aN:=aO.ap D ad.base.size;have b{G}(h:G:=by
      have d:=QA 37 aJ (.slice (some (O7 s.heap.size 0)) 2 2) (s.alloc (.cells #[O5 ai,O5 F] 22)) ⟨_,_,_,rfl⟩;have b{G}(h:G:=by
      obtain⟨aG,aI,aK⟩:=made aN am (PE.pair (I:=gp w.heap.size) r au) (by simp[maxLen]) #[O5 ai,O5 F] rfl 2 rfl 37 aJ (s.heap.size+1) rfl;exact Uz i.out.symm aG.nv aI aK):=O6 h;exact lS):=O6 h;exact LL):=O6 h;exact Fi):=O6 h;exact YU):=O6 h;exact LQ):=O6 h;exact YU):=O6 h;exact YU
  | false=>
   rw[g] at d i;rw[fK Pm] at i;clear g;go_wp2_with fail;refine cm d ?_;rintro m T ⟨rfl,W⟩;have C:=t.next (Ap.of W);have U:=aF.fH W
   cases X:Ug e.l l z with
   | out=>
    exact Tc
   | f0 S ac=>
    have d:=Xd (a:=l) T a z (by rw[X];nofun) U
    exact xp
   | ok aJ E=>
    have d:=Xd (a:=l) T a z (by rw[X];nofun) U
    have b{G}(h:G:=by
    intro m A p;obtain⟨⟨aY,rfl,I,rfl,ad⟩,c,f⟩:=p;have q:=C.next f;have H:=c;have O:=Ub ad C.size;have r:=Qa.mono (J:=λk=>w.heap.size<=k/\k<A.heap.size) (λ_ g aQ=>⟨g,aQ⟩) _ _ O
    cases X:QO e.l l a E with
    | out=>
     exact Tc
    | f0 S ac=>
     have d:=RV M N A a E _ rfl (by rw[X];nofun) H
     exact ry
    | ok ax aW=>
     have ak:=XQ aC X;have d:=RV M N A a E _ rfl (by rw[X];nofun) H
     have b{G}(h:G:=by
     intro m wb p;obtain⟨⟨ay,rfl,aj⟩,c,f⟩:=p;have ap:=q.next f;have aO:=c;have aX:=Y o.out;replace r:=Qa.fH (λk g _=>f.block k g.2 (by have a7:=O4 o;have a6:=g.1;omega)) _ _ r
     have d:=Ze A.heap.size ax ay wb aj ak;go_wp2_with fail;refine cm d ?_;rintro m s ⟨rfl,aV,D⟩;have am:=ap.trans ((Ap.of D).mono q.size);have aN:=aO.ap D H.base.size;replace r:=Qa.fH (λk g _=>D.block k g.2) _ _ r;obtain⟨F,rfl,aS⟩:=aV.nv;have au:=Qa.mono (J:=λk=>gp w.heap.size k/\A.heap.size<=k) (λ_ g _=>⟨f9 q.size g,g⟩) _ _ aS;have d:=QA 37 O8 (.slice (some (O7 s.heap.size 0)) 2 2) (s.alloc (.cells #[O5 I,O5 F] 22)) ⟨_,_,_,rfl⟩
     have b{G}(h:G:=by
     obtain⟨aG,aI,aK⟩:=made aN am (PE.pair (I:=gp w.heap.size) r au) (by simp[maxLen]) #[O5 I,O5 F] rfl 2 rfl 37 O8 (s.heap.size+1) rfl;exact Uz i.out.symm aG.nv aI aK):=O6 h;exact lS):=O6 h;exact YU):=O6 h;exact YU):=O6 h;exact o0):=O6 h;exact YU):=O6 h;exact kM
end
def tU {f:gy}{e a:Pe}{j i:Nat}(m:QC f a j i)(g:Ap f.R e.heap.size e a)(b:Int)(d:Py)(c:Int)(k:Nat)(l:k=a.heap.size) :
  NV e.heap.size (a.alloc (Qc b d c Q8)) (.mk b d c []) (O5 k)/\QC f (a.alloc (Qc b d c Q8)) j i/\Ap f.R e.heap.size e (a.alloc (Qc b d c Q8)):=by
 subst l;exact⟨(EV.new (KV.nil _ _) g.size b d c).nv,m.alloc _,g.alloc g.size _⟩
def h3 {a:gy}{d c:Pe}{b e:Nat}(i:QC a c b e)(g:Ap a.R d.heap.size d c)(f:b+1<a.l.length) :
  QC a (c.setCell (O7 a.R 1) (O3 ((b:Int)+1))) (b+1) e/\Ap a.R d.heap.size d (c.setCell (O7 a.R 1) (O3 ((b:Int)+1))):=
 ⟨i.sn (b+1) f O9,g.setCell (p:=(O7 a.R 1)) (fU rfl) _⟩
def we {e:gy}(f:Nat)(r:WM f)(w:Pe)(c n:Nat)(o:PR Tr)(bA:o≠.out)(q:Nat)(b:RI Ue (fx e.l n)=some q)(b8:oF q=f)(i:∀ a,QC e a n c->Pq f #[Qi e] a (QT e a c (NV a.heap.size) o))(h:QC e w n c) :
  Pq 347 #[Qi e] w (QT e w c (NV w.heap.size) o):=by
 have s:Hid (∀ a:Pe,QC e a n c->(Instr.lookup 231 (.map (some e.mV)) (Pj (fx e.l n)) true).run prog a=.ok (.tuple #[.func (.func f) #[PL e.R 0] #[],Pv true]) a):=λa g=>by
  have:=DH e (fx e.l n) a g.base.rP;rw[b] at this;simp only[L6,b8] at this;exact this
 have A:=h;have R:=Ap.refl e.R w.heap.size w;have HP:=Y i;have t:=Y bA;clear h bA b b8 i;go_enter func347,ntmps347;go_wp2_with fail;refine pY ?_;refine FA ?_;refine wg 3 (.map (some e.mV)) rfl (fM ⟨by kernel_rfl,λa g=>by have B:=QC.c5 g;go_simp⟩) A.drew ?_
 exact Iq
def axY {e:gy}(w:Pe)(c n:Nat)(x:Sg)(i:RI Ue (fx e.l n)=none)(f:iu 0 (fx e.l n)=some x)(h:QC e w n c):Pq 347 #[Qi e] w (QT e w c (NV w.heap.size) (.ok (.mk x.kd O8 0 []) (n+1))):=by
 have b{G}(h:G:=by
 have B:=Y (p7 h.base.ends h.lt f);clear f;have z{G}(h:G:=by
 have b{G}(h:G:=by
 have d:=Xt e 0 U n c l;rw[F.out] at d;simp only[ml,jG,Option.isSome] at d;have b{G}(h:G:=by
 have M:=C.next (Ap.of D);have H:=l.fH D;have b{G}(h:G:=by
 have r:(t.alloc (.cells #[Pj x.tx,O3 x.kd,O3 x.parts,O3 x.str] 275)).heap[t.heap.size]? = some (.cells #[Pj x.tx,O3 x.kd,O3 x.parts,O3 x.str] 275):=Ph _ _;have ad:=Y r;clear r;have d:=Ti e (t.alloc (.cells #[Pj x.tx,O3 x.kd,O3 x.parts,O3 x.str] 275)) n c N;have z{G}(h:G:=by
 clear q;have b{G}(h:G:=by
 have bN:=O4 B;obtain⟨aj,g⟩:=h3 E I bN;have o:=Y (tU (aj.alloc (.cells #[O3 (Qe e.l n).kd,Pj (Qe e.l n).tx,O3 (Qe e.l n).n,O3 ((Qe e.l n).pl:Int)] 144)) (g.alloc g.size (.cells #[O3 (Qe e.l n).kd,Pj (Qe e.l n).tx,O3 (Qe e.l n).n,O3 ((Qe e.l n).pl:Int)] 144)) x.kd O8 0 (wt.heap.size+1) P7);have d:=QA x.kd O8 Q8 (wt.alloc (.cells #[O3 (Qe e.l n).kd,Pj (Qe e.l n).tx,O3 (Qe e.l n).n,O3 ((Qe e.l n).pl:Int)] 144)) ⟨_,_,_,rfl⟩;exact uG):=O6 h;exact wK):=O6 h;exact Lq):=O6 h;exact Fq):=O6 h;exact pR):=O6 h;exact C8):=O6 h;exact Kg):=O6 h;exact rt
section
variable {e:gy} (w:Pe) (c n:Nat) (i:RI Ue (fx e.l n)=none) (f:iu 0 (fx e.l n)=none)
include e w c n i f
def MW (g:(Qe e.l n).kd=1)(h:QC e w n c):Pq 347 #[Qi e] w (QT e w c (NV w.heap.size) (.ok (.mk 23 (Qe e.l n).tx 0 []) (n+1))):=by
 have b{G}(h:G:=by
 clear f;have aj:=Y (V6 h.base.ends h.lt (by rw[g];decide))
 have aC:((Qe e.l n).kd==1)=true:=by rw[g];decide
 have aF:((Qe e.l n).kd==4)=false:=by rw[g];decide
 have aD:((Qe e.l n).kd==3)=false:=by rw[g];decide
 clear g;have b{G}(h:G:=by
 have bN:=O4 aj;obtain⟨ak,r⟩:=h3 E I bN;have o:=Y (tU (ak.alloc (.cells #[O3 (Qe e.l n).kd,Pj (Qe e.l n).tx,O3 (Qe e.l n).n,O3 ((Qe e.l n).pl:Int)] 144)) (r.alloc r.size (.cells #[O3 (Qe e.l n).kd,Pj (Qe e.l n).tx,O3 (Qe e.l n).n,O3 ((Qe e.l n).pl:Int)] 144)) 23 (Qe e.l n).tx 0 (wt.heap.size+1) P7);have d:=QA 23 (Qe e.l n).tx Q8 (wt.alloc (.cells #[O3 (Qe e.l n).kd,Pj (Qe e.l n).tx,O3 (Qe e.l n).n,O3 ((Qe e.l n).pl:Int)] 144)) ⟨_,_,_,rfl⟩;exact uG):=O6 h;exact sU):=O6 h;exact rt
def Wa (g:(Qe e.l n).kd=4)(h:QC e w n c):Pq 347 #[Qi e] w (QT e w c (NV w.heap.size) (.ok (.mk 18 (Qe e.l n).tx 0 []) (n+1))):=by
 have b{G}(h:G:=by
 clear f;have aj:=Y (V6 h.base.ends h.lt (by rw[g];decide))
 have aC:((Qe e.l n).kd==1)=false:=by rw[g];decide
 have aF:((Qe e.l n).kd==4)=true:=by rw[g];decide
 have aD:((Qe e.l n).kd==3)=false:=by rw[g];decide
 clear g;have b{G}(h:G:=by
 have bN:=O4 aj;obtain⟨ak,r⟩:=h3 E I bN;have o:=Y (tU (ak.alloc (.cells #[O3 (Qe e.l n).kd,Pj (Qe e.l n).tx,O3 (Qe e.l n).n,O3 ((Qe e.l n).pl:Int)] 144)) (r.alloc r.size (.cells #[O3 (Qe e.l n).kd,Pj (Qe e.l n).tx,O3 (Qe e.l n).n,O3 ((Qe e.l n).pl:Int)] 144)) 18 (Qe e.l n).tx 0 (wt.heap.size+1) P7);have d:=QA 18 (Qe e.l n).tx Q8 (wt.alloc (.cells #[O3 (Qe e.l n).kd,Pj (Qe e.l n).tx,O3 (Qe e.l n).n,O3 ((Qe e.l n).pl:Int)] 144)) ⟨_,_,_,rfl⟩;exact uG):=O6 h;exact sU):=O6 h;exact rt
def Sb (g:(Qe e.l n).kd=3)(h:QC e w n c):Pq 347 #[Qi e] w (QT e w c (NV w.heap.size) (.ok (.mk 17 O8 (Qe e.l n).n []) (n+1))):=by
 have b{G}(h:G:=by
 clear f;have aj:=Y (V6 h.base.ends h.lt (by rw[g];decide))
 have aC:((Qe e.l n).kd==1)=false:=by rw[g];decide
 have aF:((Qe e.l n).kd==4)=false:=by rw[g];decide
 have aD:((Qe e.l n).kd==3)=true:=by rw[g];decide
 clear g;have b{G}(h:G:=by
 have bN:=O4 aj;obtain⟨ak,r⟩:=h3 E I bN;have o:=Y (tU (ak.alloc (.cells #[O3 (Qe e.l n).kd,Pj (Qe e.l n).tx,O3 (Qe e.l n).n,O3 ((Qe e.l n).pl:Int)] 144)) (r.alloc r.size (.cells #[O3 (Qe e.l n).kd,Pj (Qe e.l n).tx,O3 (Qe e.l n).n,O3 ((Qe e.l n).pl:Int)] 144)) 17 O8 (Qe e.l n).n (wt.heap.size+1) P7);have d:=QA 17 O8 Q8 (wt.alloc (.cells #[O3 (Qe e.l n).kd,Pj (Qe e.l n).tx,O3 (Qe e.l n).n,O3 ((Qe e.l n).pl:Int)] 144)) ⟨_,_,_,rfl⟩;exact uG):=O6 h;exact sU):=O6 h;exact rt
def Oq (r:(Qe e.l n).kd≠1)(g:(Qe e.l n).kd≠4)(o:(Qe e.l n).kd≠3)(h:QC e w n c):Pq 347 #[Qi e] w (QT e w c (NV w.heap.size) (.f0 3 (Qe e.l n).pl)):=by
 have b{G}(h:G:=by
 clear f;have ak:((Qe e.l n).kd==1)=false:=gG.2 r;have au:((Qe e.l n).kd==4)=false:=gG.2 g;have am:((Qe e.l n).kd==3)=false:=gG.2 o;clear r o g;have b{G}(h:G:=by
 have d:=VX e 3 (wt.alloc (.cells #[O3 (Qe e.l n).kd,Pj (Qe e.l n).tx,O3 (Qe e.l n).n,O3 ((Qe e.l n).pl:Int)] 144)) n c ai;go_wp2_with fail;refine cm d ?_;rintro m ap ⟨rfl,aj⟩;exact⟨rfl,QV rfl (ac.next (Ap.of aj))⟩):=O6 h;exact sU):=O6 h;exact rt
end
def Wd:WM 155:=λ_ _=>by kernel_rfl
def aKy:WM 156:=λ_ _=>by kernel_rfl
def Ny:WM 157:=λ_ _=>by kernel_rfl
def Tl {e:Py}{d:Nat}(h:RI Ue e=some d):d<3:=by
 unfold RI at h
 cases a:Ue.find? (λc=>decide (e=c.1)) with
 | none=>rw[a] at h;cases h
 | some c=>
  rw[a] at h;have b:=h7 a;simp only[Option.map_some,hc] at h;subst h;simp only[Ue,gP,jz,jt] at b
  rcases b with rfl|rfl|rfl <;> decide
def HR {e:gy}{n:Um}(o:FC e n)(p:∃ a,jW e.l a n)(q:pf n):hs e 347 NV (WH e.l n):=by
 intro f d b l a i h;unfold WH at a
 cases c:RI Ue (fx e.l b) with
 | some m=>
  have r:=Tl c;have j:m=0\/m=1\/m=2:=O9;rw[c] at a
  rcases j with rfl|rfl|rfl
  ·exact we 155 Wd f d b l i 0 c rfl (λg k=>wd o g d b l a i k) h
  ·exact we 156 aKy f d b l i 1 c rfl (λg k=>amj o p g d b l a i k) h
  ·exact we 157 Ny f d b l i 2 c rfl (λg k=>amk o p q g d b l a i k) h
 | none=>
  rw[c] at a;simp only at a
  cases g:iu 0 (fx e.l b) with
  | some x=>
   rw[g] at a;subst a;exact axY f d b x c g h
  | none=>
   rw[g] at a;simp only at a
   by_cases k:(Qe e.l b).kd=1
   ·rw[fL k] at a;subst a;exact MW f d b c g k h
   ·by_cases m:(Qe e.l b).kd=4
    ·rw[fK k,fL m] at a;subst a;exact Wa f d b c g m h
    ·by_cases j:(Qe e.l b).kd=3
     ·rw[fK k,fK m,fL j] at a;subst a;exact Sb f d b c g j h
     ·rw[fK k,fK m,fK j] at a;subst a;exact Oq f d b c g k m j h
def x2 {e:gy}{j:Um}(k:FC e j)(w:Pe)(a c:Nat)(u:PR Tr)(z:(Qe e.l c).kd≠6)(l:UE e.l j a c=u)(A:u≠.out)(h:QC e w c a):Pq 152 #[Qi e] w (QT e w a (EV w.heap.size) u):=by
 have ad:=RD e.R 160;have S:=Y z;clear z;have b{G}(h:G:=by
 unfold UE at l;have i:=Y l;have B:=Y A;clear l A;go_enter func152,ntmps152;have d:=sI e w c a h S.out;go_wp2_with fail;refine cm d ?_;rintro m wk ⟨rfl,E,H⟩;have ba:=R.next H;clear h
 cases X:Vu e.l j a (c+1) with
 | out=>
  exact Tc
 | f0 N T=>
  have d:=wd k wk a (c+1) _ rfl (by rw[X];nofun) E
  exact EP
 | ok U n=>
  have d:=wd k wk a (c+1) _ rfl (by rw[X];nofun) E
  have b{G}(h:G:=by
  have b{G}(h:G:=by
  have t:=ba.next f;have C:=g;have s:=Ub F ba.size
  cases X:Qw e.l j.st a n with
  | out=>
   exact Tc
  | f0 N T=>
   have d:=oS k q a n C (by rw[X];nofun)
   exact rN
  | ok ac W=>
   have d:=oS k q a n C (by rw[X];nofun)
   have b{G}(h:G:=by
   intro m v p;obtain⟨⟨ah,rfl,D,rfl,P⟩,g,f⟩:=p;have O:=t.next f;replace s:=yz s f o.out t.size P;have d:=QA (Q7 (Qe e.l c).tx) O8 (.slice (some (O7 v.heap.size 0)) 2 2) (v.alloc (.cells #[O5 r,O5 D] 22)) ⟨_,_,_,rfl⟩;have b{G}(h:G:=by
   obtain⟨I,L,M⟩:=made g O s (by simp[maxLen]) #[O5 r,O5 D] rfl 2 rfl (Q7 (Qe e.l c).tx) O8 (v.heap.size+1) rfl;exact Uz i.out.symm I L M):=O6 h;exact lS):=O6 h;exact YU):=O6 h;exact nP):=O6 h;exact YU):=O6 h;exact kM
def aML {b:Nat}{g:Pe}{c d e f:Px}(a:g.heap[b]? = some (.cells #[c,d,e,f] 144)):ph b g c d e f:=
 ⟨by rw[cell_of a];rfl,by rw[cell_of a];rfl,by rw[cell_of a];rfl,by rw[cell_of a];rfl,TB a,fI a⟩
def apM {e:gy}{C:Um}(N:FC e C):hs e 224 NV (Xl e.l C):=by
 have aV:=RD e.R 224;intro w j n aY ay L h;have b{G}(h:G:=by
 unfold Xl at ay;have i:=Y ay;have B:=Y L;clear ay L;go_enter func224,ntmps224;have d:=Ti e w n j h;unfold ke at d;go_wp2_with fail;refine cm d ?_;rintro m wt ⟨rfl,T⟩;have I:=R.next (Ap.of T);have E:=h.fH T;clear h;have b{G}(h:G:=by
 have s:Hid ((wt.alloc (.cells #[O3 (Qe e.l n).kd,Pj (Qe e.l n).tx,O3 (Qe e.l n).n,O3 ((Qe e.l n).pl:Int)] 144)).heap[wt.heap.size]? = some (.cells #[O3 (Qe e.l n).kd,Pj (Qe e.l n).tx,O3 (Qe e.l n).n,O3 ((Qe e.l n).pl:Int)] 144)):=Ph _ _;have ax:Hid (e.R<wt.heap.size):=hn o.out I.size
 cases X:C.pr 2 j n with
 | out=>
  exact Tc
 | f0 aF aG=>
  have b{G}(h:G:=by
  rw[X] at d i;simp only[QK] at i;clear X;have b{G}(h:G:=by
  exact⟨rfl,QV i.out.symm (ac.next f)⟩):=O6 h;exact YT):=O6 h;exact Jh
 | ok t a=>
  have b{G}(h:G:=by
  have b{G}(h:G:=by
  have b{G}(h:G:=by
  have am:=ac.next f;have O:=g;have c:=Ub F ac.size;replace s:=Y ((f.block _ (fI s.out) (by have:=O4 ax;omega)).trans s.out)
  have d:=TN e q a j O;go_wp2_with fail;refine cm d ?_;rintro m wf ⟨rfl,A⟩;have D:=am.next (Ap.of A);have U:=O.fH A;replace c:=TP c (Ap.of A) o.out;replace s:=Y ((A.block _ (fI s.out)).trans s.out)
  by_cases k:fx e.l a=iX
  ·rw[fL k] at i;have aC:((fx e.l a).toList==[61])=true:=VL (a:=iX) rfl k;have aD:Hid (Qm e.l iX a=.ok () (a+1)):=by
    show _=_
    unfold Qm;rw[fL k]
   clear k;obtain⟨u1,aS,S,_,_⟩:=c.opens;obtain⟨aI,_,_,_,_⟩:=fZ S;clear S
   by_cases l:t.kd=23
   ·have aj:(t.kd != 23)=false:=by rw[l];rfl
    rw[fL (fM l)] at i;clear l;exact IP
   ·have aj:(t.kd != 23)=true:=bne_iff_ne.2 l
    by_cases z:t.kd=36
    ·have ak:(t.kd != 36)=false:=by rw[z];rfl
     rw[fL (fU z)] at i;clear l z;exact IP
    ·have ak:(t.kd != 36)=true:=bne_iff_ne.2 z;rw[fK (λap=>ap.elim l z)] at i;clear l z;obtain⟨aZ,aX,a1,a6,tf,a7⟩:=aML s.out;have d:=BN e 1 (Qe e.l n) wf;unfold ke at d;go_wp2_with fail;refine cm d ?_;rintro m aW ⟨rfl,au⟩;exact⟨rfl,QV i.out.symm (D.next (Ap.of au))⟩
  ·rw[fK k] at i;have aC:((fx e.l a).toList==[61])=false:=Vt (a:=iX) rfl k;clear k;go_wp2;go_ret;exact Uz i.out.symm ⟨r,rfl,c⟩ U D):=O6 h;exact nP):=O6 h;exact YU):=O6 h;exact Jh):=O6 h;exact wK):=O6 h;exact kM
def Gd {i:gy}{a:Nat}{f g:Pe}{m l:Nat}{b c d e:Px}(h:QC i f m l)(n:i.lo<=a)(o:f.heap[a]? = some Un)
  (k:g=(((f.setCell (O7 a 0) b).setCell (O7 a 1) c).setCell (O7 a 2) d).setCell (O7 a 3) e) :
  QC i g m l/\Below a f g/\ph a g b c d e:=by
 have j:Below a f g:=by
  rw[k];exact((((f2 _ f).setCell (p:=(O7 a 0)) Qp b).setCell (p:=(O7 a 1)) Qp c).setCell (p:=(O7 a 2)) Qp d).setCell (p:=(O7 a 3)) Qp e
 refine⟨h.ap j n,j,je ?_⟩;rw[k];exact lR o b c d e
section
variable {e:gy} (w:Pe) (c n:Nat)
include e w c n
def SW (a:(Qe e.l n).kd=1)(h:QC e w n c):Pq 348 #[Qi e] w λb g=>b=PK (Pv true)/\Pn w g:=by
 have l:=f2 w.heap.size w;have i:((Qe e.l n).kd==1)=true:=by rw[a];decide
 have j:((Qe e.l n).kd==3)=false:=by rw[a];decide
 have k:((Qe e.l n).kd==4)=false:=by rw[a];decide
 exact Ac
def aCN (a:(Qe e.l n).kd=3)(h:QC e w n c):Pq 348 #[Qi e] w λb g=>b=PK (Pv true)/\Pn w g:=by
 have l:=f2 w.heap.size w;have i:((Qe e.l n).kd==1)=false:=by rw[a];decide
 have j:((Qe e.l n).kd==3)=true:=by rw[a];decide
 have k:((Qe e.l n).kd==4)=false:=by rw[a];decide
 exact Ac
def aCO (a:(Qe e.l n).kd=4)(h:QC e w n c):Pq 348 #[Qi e] w λb g=>b=PK (Pv true)/\Pn w g:=by
 have l:=f2 w.heap.size w;have i:((Qe e.l n).kd==1)=false:=by rw[a];decide
 have j:((Qe e.l n).kd==3)=false:=by rw[a];decide
 have k:((Qe e.l n).kd==4)=true:=by rw[a];decide
 exact Ac
end
section
variable {e:gy} (w:Pe) (c n:Nat) (A:(Qe e.l n).kd≠1) (t:(Qe e.l n).kd≠3) (r:(Qe e.l n).kd≠4)
include e w c n A t r
def aCP (d:Nat)(i:RI Ue (fx e.l n)=some d)(h:QC e w n c):Pq 348 #[Qi e] w λg m=>g=PK (Pv true)/\Pn w m:=by
 have b{G}(h:G:=by
 have q:Hid (∀ a:Pe,QC e a n c->(Instr.lookup 231 (.map (some e.mV)) (Pj (fx e.l n)) true).run prog a=.ok (.tuple #[.func (.func (oF d)) #[PL e.R 0] #[],Pv true]) a):=λa s=>HD
 clear h A t r i;have b{G}(h:G:=by
 refine wg 6 (.tuple #[.func (.func (oF d)) #[PL e.R 0] #[],Pv true]) rfl (fM ⟨by kernel_rfl,λa s=>by have T:=q.out a s;go_simp⟩) l ?_
 refine wh 7 (.tuple #[.func (.func (oF d)) #[PL e.R 0] #[],Pv true]) l ?_;refine wh 8 (.func (.func (oF d)) #[PL e.R 0] #[]) l ?_;refine wh 9 (Pv true) l ?_;refine wh 10 (.func (.func (oF d)) #[PL e.R 0] #[]) l ?_;refine wh 11 (Pv true) l ?_;refine YN ?_;go_wp2;go_ret;exact⟨rfl,p⟩):=O6 h;exact z1):=O6 h;exact zh
def T1 (i:RI Ue (fx e.l n)=none)(I:kW (fx e.l n)=none)(h:QC e w n c):Pq 348 #[Qi e] w λg N=>g=PK (Pv false)/\Pn w N:=by
 have b{G}(h:G:=by
 have b{G}(h:G:=by
 have aD:Hid (∀ a:Pe,QC e a n c->(Instr.lookup 229 (.map (some e.mS)) (Pj (fx e.l n)) true).run prog a=.ok (.tuple #[.agg #[Qn,O3 0,O3 0,O3 0],Pv false]) a):=λa s=>by
  have:=YB e (fx e.l n) a s.base.gJ;rw[I] at this;exact this
 clear h A t r i I;have b{G}(h:G:=by
 have b{G}(h:G:=by
 refine wpAnyH_ready (rs:=[5,10]) Qs P7 (AllReadyH.cons rfl (λK k=>?_) (AllReadyH.cons rfl (λK k=>?_) AllReadyH.nil))
 ·have b{G}(h:G:=by
  have b{G}(h:G:=by
  refine rg ?_;refine Ye 11 λK k=>?_;go_simp;have D:=d.alloc (.cells #[Qn,O3 0,O3 0,O3 0] 275);have M:=m.alloc m.size (.cells #[Qn,O3 0,O3 0,O3 0] 275);exact HB):=O6 h;exact EH):=O6 h;go_simp;exact JJ
 ·have b{G}(h:G:=by
  have b{G}(h:G:=by
  refine Ye 11 λK k=>?_;go_simp;clear U R ac ad ah ai;obtain⟨aG,C⟩:=xE ((((B.setCell (O7 f.heap.size 0) (Qn)).setCell (O7 f.heap.size 1) (O3 0)).setCell (O7 f.heap.size 2) (O3 0)).setCell (O7 f.heap.size 3) (O3 0));obtain⟨aC,O,⟨aI,aF,s2,aJ,aK,aN⟩⟩:=Gd (b:=Qn) (c:=O3 0) (d:=O3 0) (e:=O3 0) d ak.out aj.out C;have D:=aC;have M:=m.trans (O.mono p.size);rw[<-C];clear C;exact HB):=O6 h;exact EH):=O6 h;go_simp;exact ET):=O6 h;exact L0):=O6 h;exact z1):=O6 h;exact HW):=O6 h;exact zh
def NU (x:Sg)(i:RI Ue (fx e.l n)=none)(M:kW (fx e.l n)=some x)(h:QC e w n c):Pq 348 #[Qi e] w λg aC=>g=PK (Pv (decide (x.parts<2)))/\Pn w aC:=by
 have b{G}(h:G:=by
 have b{G}(h:G:=by
 have aD:Hid (∀ a:Pe,QC e a n c->(Instr.lookup 229 (.map (some e.mS)) (Pj (fx e.l n)) true).run prog a=.ok (.tuple #[.agg #[Pj x.tx,O3 x.kd,O3 x.parts,O3 x.str],Pv true]) a):=λa s=>by
  have:=YB e (fx e.l n) a s.base.gJ;rw[M] at this;exact this
 clear h A t r i M;have b{G}(h:G:=by
 have b{G}(h:G:=by
 refine wpAnyH_ready (rs:=[5,10]) Qs P7 (AllReadyH.cons rfl (λK k=>?_) (AllReadyH.cons rfl (λK k=>?_) AllReadyH.nil))
 ·have b{G}(h:G:=by
  have b{G}(h:G:=by
  refine rg ?_;refine Ye 11 λK k=>?_;go_simp;have D:=d.alloc (.cells #[Pj x.tx,O3 x.kd,O3 x.parts,O3 x.str] 275);have O:=m.alloc m.size (.cells #[Pj x.tx,O3 x.kd,O3 x.parts,O3 x.str] 275);exact Lv):=O6 h;exact LY):=O6 h;go_simp;exact JJ
 ·have b{G}(h:G:=by
  have b{G}(h:G:=by
  refine Ye 11 λK k=>?_;go_simp;clear U R ac ad ah ai;obtain⟨aG,C⟩:=xE ((((B.setCell (O7 f.heap.size 0) (Pj x.tx)).setCell (O7 f.heap.size 1) (O3 x.kd)).setCell (O7 f.heap.size 2) (O3 x.parts)).setCell (O7 f.heap.size 3) (O3 x.str));obtain⟨N,I,⟨aI,aF,s2,aJ,aK,aN⟩⟩:=Gd (b:=Pj x.tx) (c:=O3 x.kd) (d:=O3 x.parts) (e:=O3 x.str) d ak.out aj.out C;have D:=N;have O:=m.trans (I.mono p.size);rw[<-C];clear C N I;exact Lv):=O6 h;exact LY):=O6 h;go_simp;exact ET):=O6 h;exact L0):=O6 h;exact z1):=O6 h;exact HW):=O6 h;exact zh
end
def Tp (b:gy):pd b 348 (hO b.l):=by
 intro g e a h;unfold hO
 by_cases f:(Qe b.l a).kd=1
 ·rw[f];exact SW g e a f h
 ·by_cases d:(Qe b.l a).kd=3
  ·rw[d];exact aCN g e a d h
  ·by_cases c:(Qe b.l a).kd=4
   ·rw[c];exact aCO g e a c h
   ·rw[gG.2 f,gG.2 d,gG.2 c];simp only[m6]
    cases k:RI Ue (fx b.l a) with
    | some i=>exact aCP g e a f d c i k h
    | none=>
     cases l:kW (fx b.l a) with
     | none=>exact T1 g e a f d c k l h
     | some x=>
      have i:=NU g e a f d c x k l h
      cases j:decide (x.parts<2) with
      | true=>rw[j] at i;simpa[Option.filter,j] using i
      | false=>rw[j] at i;simpa[Option.filter,j] using i
