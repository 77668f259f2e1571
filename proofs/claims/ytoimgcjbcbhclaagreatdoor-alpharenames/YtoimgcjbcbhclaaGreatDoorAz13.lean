import Derived.Test.YtoimgcjbcbhclaaGreatDoorAz12
set_option maxRecDepth 100000
set_option maxHeartbeats 0
set_option linter.all false
namespace Go.Proofs.YtoimgcjbcbhclaaGreatDoor
open Go.RowKit Go.Proofs.Tryz
def axu (w:LK)(p tb aw no cn bC:Nat)(tx:LW)(ev:Bool)(P aR:List LW)(aQ:Option Addr)(h:FnK w p tb aw no 5 tx cn bC false ev P aR) :
  MC 128 #[MX tb,LC p,Pv (.pointer aQ) false] w (XR w aQ no 5 tx false ev ((P++[Nr])++aR)):=by
 have A{G}(h:G:=by
 have ht:=hide cg;have A{G}(h:G:=by
 have A{G}(h:G:=by
 clear k8 gR;go_wp2_with fail;obtain⟨w2,bW⟩:∃ w2,w2=w1.setCell (LD w.heap.size 1) (L9 false):=⟨_,rfl⟩;have A{G}(h:G:=by
 have bE:w2.heap[w.heap.size]? = some (NK #[.pointer aQ,L9 false] 112):=by rw[bW,heap_set cD.out];rfl
 have A{G}(h:G:=by
 have A{G}(h:G:=by
 have ea:Hid (w2.cell? (LD w.heap.size 1)=some (L9 false)):=by show _=_;rw[cell_of cU.out];rfl
 have A{G}(h:G:=by
 have A{G}(h:G:=by
 have A{G}(h:G:=by
 have A{G}(h:G:=by
 have A{G}(h:G:=by
 clear U K;have A{G}(h:G:=by
 refine axv ?_;exact zalad ⟨by decide,rfl⟩):=LG h;exact axw):=LG h;exact apT):=LG h;exact axx):=LG h;exact abX):=LG h;exact axy):=LG h;exact zsj):=LG h;exact apU):=LG h;exact axz):=LG h;exact axA):=LG h;exact apS):=LG h;exact zsp):=LG h;exact zse
def axB (w:LK)(p tb aw no cn bC:Nat)(tx:LW)(dk ev:Bool)(P aR:List LW)(aQ:Option Addr)(h:FnK w p tb aw no 37 tx cn bC dk ev P aR) :
  MC 128 #[MX tb,LC p,Pv (.pointer aQ) true] w (XR w aQ no 37 tx true false ((P++[Nr])++aR)):=by
 have A{G}(h:G:=by
 have A{G}(h:G:=by
 have A{G}(h:G:=by
 have cv:w1.heap[w.heap.size]? = some (NK #[.pointer aQ,L9 true] 112):=by rw[c9];exact qG
 have A{G}(h:G:=by
 have iX:w1.cell? (LD w.heap.size 1)=some (L9 true):=by rw[cell_of cv];rfl
 have A{G}(h:G:=by
 have es:=hide c1;have ht:=hide cg;have jr:=hide c0;have nt:=hide bO;have A{G}(h:G:=by
 clear en jA bT;exact axC):=LG h;exact zsp):=LG h;exact azG):=LG h;exact axp):=LG h;exact axq):=LG h;exact axr):=LG h;exact zsv
section
variable (w:LK) (p tb aw no cn bC:Nat) (tx:LW) (ev:Bool) (P aR:List LW) (aQ:Option Addr)
include w p tb aw no cn bC tx ev P aR aQ
def ath (h:FnK w p tb aw no 37 tx cn bC true ev P aR) :
  MC 128 #[MX tb,LC p,Pv (.pointer aQ) false] w (XR w aQ no 37 tx true false ((P++[Nr])++aR)):=by
 have A{G}(h:G:=by
 have es:=hide c1;have ht:=hide cg;have jr:=hide c0;have nt:=hide bO;have A{G}(h:G:=by
 have A{G}(h:G:=by
 clear k8 gR;exact axC):=LG h;exact apS):=LG h;exact zsp):=LG h;exact zse
def ati (h:FnK w p tb aw no 37 tx cn bC false ev P aR) :
  MC 128 #[MX tb,LC p,Pv (.pointer aQ) false] w (XR w aQ no 37 tx false ev ((P++[Nr])++aR)):=by
 have A{G}(h:G:=by
 have es:=hide c1;have ht:=hide cg;have jr:=hide c0;have nt:=hide bO;have A{G}(h:G:=by
 have A{G}(h:G:=by
 clear k8 gR;go_wp2_with fail;obtain⟨fQ,bW⟩:∃ fQ,fQ=w1.setCell (LD w.heap.size 1) (L9 false):=⟨_,rfl⟩;have A{G}(h:G:=by
 have bE:fQ.heap[w.heap.size]? = some (NK #[.pointer aQ,L9 false] 112):=by rw[bW,heap_set cD.out];rfl
 have A{G}(h:G:=by
 have ea:Hid (fQ.cell? (LD w.heap.size 1)=some (L9 false)):=by show _=_;rw[cell_of sO.out];rfl
 have A{G}(h:G:=by
 have A{G}(h:G:=by
 have A{G}(h:G:=by
 refine cm (Ur aQ false no (some (LD fn 0)) 1 1 false none aq) ?_;have A{G}(h:G:=by
 have cJ:bh.heap[w.heap.size]? = some (NK #[.pointer aQ,L9 false] 112):=by rw[fe.block _ LM];exact Lu sO
 have gM:bh.heap[w.heap.size+1]? = some (NK #[Pe,L9 false] 112):=by rw[fe.block _ LM];exact Lu AD
 have qV:bh.cell? (LD w.heap.size 0)=some (.pointer aQ):=by rw[cell_of cJ];rfl
 have qW:bh.cell? (LD w.heap.size 1)=some (L9 false):=by rw[cell_of cJ];rfl
 have la:=Ny cJ;have jG:=lt_of_heap cJ;refine ah9 ?_;clear U K n5;refine Qh 14 λK U=>?_;go_simp;refine zlm ?_;clear U K;refine abY ?_;obtain⟨w2,bW⟩:∃ w2,w2=(bh.setCell (LD w.heap.size 0) (MX a')).setCell (LD w.heap.size 1) (L9 false):=⟨_,rfl⟩;have A{G}(h:G:=by
 have cU:Hid (w2.heap[w.heap.size]? = some (NK #[MX a',L9 false] 112)):=by show _=_;rw[bW,heap_set (heap_set cJ _)];rfl
 have A{G}(h:G:=by
 have ea:Hid (w2.cell? (LD w.heap.size 1)=some (L9 false)):=by show _=_;rw[cell_of cU.out];rfl
 have A{G}(h:G:=by
 refine ug 0 (Pv (MX a') false) rfl (zalad ⟨by kernel_rfl,λX aB=>by have aJ:=Md aB fj.out;have E:=Md aB ea.out;go_simp⟩) aE ?_
 have A{G}(h:G:=by
 have A{G}(h:G:=by
 have A{G}(h:G:=by
 clear U K gM;have A{G}(h:G:=by
 refine axv ?_;exact axD):=LG h;exact axw):=LG h;exact apT):=LG h;exact axx):=LG h;exact abX):=LG h;exact zsj):=LG h;exact axE):=LG h;exact axF):=LG h;exact axG):=LG h;exact axH):=LG h;exact axy):=LG h;exact axI):=LG h;exact axJ):=LG h;exact axK):=LG h;exact apS):=LG h;exact zsp):=LG h;exact zse
end
def apV (w:LK)(p tb aw no cn bC:Nat)(kd:Int)(tx:LW)(st dk ev:Bool)(P aR:List LW)(aQ:Option Addr)(N:kd=5\/kd=37)(h:FnK w p tb aw no kd tx cn bC dk ev P aR) :
  MC 128 #[MX tb,LC p,Pv (.pointer aQ) st] w (XR w aQ no kd tx (st||dk) (!(st||dk)&&ev) ((P++[Nr])++aR)):=by
 rcases N with rfl|rfl
 ·
  cases st with
  | true=>exact aFx w p tb aw no cn bC tx dk ev P aR aQ h
  | false=>
   cases dk with
   | true=>exact axt w p tb aw no cn bC tx ev P aR aQ h
   | false=>exact axu w p tb aw no cn bC tx ev P aR aQ h
 ·
  cases st with
  | true=>exact axB w p tb aw no cn bC tx dk ev P aR aQ h
  | false=>
   cases dk with
   | true=>exact ath w p tb aw no cn bC tx ev P aR aQ h
   | false=>exact ati w p tb aw no cn bC tx ev P aR aQ h
def Y0 (t:Tr)(b:Bool)(h:t.count<=20000):(namesT t b).length<=70000:=by
 unfold namesT;have E:=Qs ((if b then RV t else [])++(Tj t).map Tr.tx++(O0 t).map Tr.tx);have O:=Xp t;have ao:=Rk t;have aM:=VD t;have bw:=NG t.kids;have h6:=Ou t;have h7:(if b then RV t else []).length<=Tr.counts t.kids:=by
  split
  ·exact aM
  ·exact zalae _
 simp only[zalab,zalag] at E;omega
def aib {a:Ad}(h:a.N9.Nodup):∀ k ∈ a.ks,k.N9.Nodup:=by
 intro k N;rw[P9,zalgk] at h;have key:∀ (l:List Ad),(Ad.Nv l).Nodup->k ∈ l->k.N9.Nodup:=by
  intro l
  induction l with
  | nil=>intro _ aA;cases aA
  | cons x l aU=>
   intro av aA;rw[Ad.Nv,zaldy] at av
   rcases zalas.1 aA with rfl|aA
   ·exact av.1
   ·exact aU av.2.1 aA
 exact key a.ks h.2 N
def TW.nodup {I:Nat->Prop}{tb aw:Nat}{aK aL post:List Nat}{ah:List Us}{w:LK}{a:Ad}(h:TW I tb aw aK ah w)(bv:aK=aL++(a.N9++post)):a.N9.Nodup:=by
 have E:=h.nd;rw[bv,zaldy] at E;have O:=E.2.1;rw[zaldy] at O;exact O.1
def atj (a pr b6:Ad)(ks:List Ad)(bd:a.ks=pr::b6::ks)(fD:a.kd=5\/a.kd=37)(I:Nat->Prop)(tb aw:Nat)(aK aL post:List Nat)(ah:List Us)(v:LY)(ch:List Sc)(st:Bool)(w:LK)
  (bv:aK=aL++(a.N9++post)) (aO:TW I tb aw aK ah w) (aN:MZ I w a) (ak:a.tr.ill=0) (eR:VU I w v ch) (am:a.cnt<=20000) :
  MC 128 #[MX tb,LC a.p,Pv v st] w λe w'=>(∃ b0,e=MN (Pv b0 (st||MW b6.tr))/\VU (λb=>I b\/(w.heap.size<=b/\b<w'.heap.size)) w' b0 (ak2 a.tr pr.tr b6.tr aL.length ch st))/\LX w w':=by
 obtain⟨aQ,rfl⟩:=eR.ptr;have j0:pr ∈ a.ks:=by rw[bd];simp
 have qt:b6 ∈ a.ks:=by rw[bd];simp
 have fT:=aN.parts pr j0;have bA:=aN.parts b6 qt;obtain⟨_,_,c0,c1,_⟩:=aN.cells;obtain⟨g,cap,c3,_,ct,d1,_⟩:=aN.anw bd;obtain⟨_,_,_,u,bO,T⟩:=(Nj.nt fT.nat).cells;obtain⟨eq,uc,rfl⟩:=T.form;have tB:=UJ a.ks pr j0;have qu:=UJ a.ks b6 qt;have h5:=OA a;have vJ:=Ad.ND pr;have hcb2:=Ad.ND b6;have qH:=Ou pr.tr;have bF:=NG pr.tr.kids;have ey:=Y0 b6.tr true LM
 have U:FnK w a.p tb aw aL.length a.kd a.tx pr.p b6.p (MW b6.tr) (Vm b6.tr) (pr.tr.kids.map Tr.tx) (namesT b6.tr true):=by
  refine⟨c0,c1,⟨g,_,cap,by omega,c3,ct,d1⟩,aO.word.1,λX aB=>aO.num bv (Fm.of aB),λX aB=>?_,⟨eq,uc,by rw[zalag];exact bO,λX aB=>?_⟩,λX aB=>?_,λX aB=>?_,by rw[zalag];omega,ey⟩
  ·exact ZB b6.tr b6.p X (VA.later (Nj.nt bA.nat) aB)
  ·rw[zalag];exact aaG pr.tr.kids _ X (U5.later T aB) LM
  ·exact acI b6.tr b6.p true X (VA.later (Nj.nt bA.nat) aB) LM
  ·exact ak1 b6 X (MZ.later (I:=I) (λb _ ab=>aB.block b ab) _ bA) (aib (aO.nodup bv) b6 qt) (Ot ak b6 qt) LM
 refine(apV w a.p tb aw aL.length pr.p b6.p a.kd a.tx st (MW b6.tr) (Vm b6.tr) _ _ aQ fD U).mono ?_;rintro e w' ⟨⟨b,nv,v2,rfl,bz,a5,bx,Cz⟩,g0⟩;refine⟨⟨MX b,rfl,?_⟩,g0⟩;have BO:VU (λb=>I b\/(w.heap.size<=b/\b<w'.heap.size)) w' (.pointer aQ) ch:=VU.later (λb _ ab=>g0.block b ab) _ _ (VU.mono (λb D _=>zalad D) _ _ eR);have hlow:∀ eJ,Value.pointer aQ=MX eJ->eJ<w.heap.size:=by
  intro eJ e
  rcases eR.form with h|⟨a',h,ab⟩
  ·rw[h] at e;cases e
  ·rw[h] at e;cases e;exact ab
 obtain⟨ky,gl,_⟩:=a.NC;unfold ak2;rw[ky,gl];have bK:=g0.size;refine⟨b,nv,v2,rfl,zalal ⟨bz,lt_of_heap a5⟩,a5,Qr bx,λg hg=>zalal ⟨(Me bx g hg).2,(Me bx g hg).1⟩,?_,?_,?_⟩
 ·show ((List.map Tr.tx pr.tr.kids++[Nr])++namesT b6.tr true).length<=100000
  simp only[zalab,zalag,zalbf,zaldv];omega
 ·intro eJ e
  rcases Cz with ⟨_,rfl⟩|⟨_,a',Dr,rfl,_,O,_⟩
  ·have:=hlow eJ e;omega
  ·
   cases e;exact O
 ·rcases Cz with ⟨E,rfl⟩|⟨E,a',Dr,rfl,O,ao,aM,bw⟩
  ·rw[E,zalah MK];exact BO
  ·rw[E,zalak rfl];exact⟨a',Dr,.pointer aQ,rfl,zalal ⟨O,lt_of_heap aM⟩,aM,Qr bw,λg hg=>zalal ⟨(Me bw g hg).2,(Me bw g hg).1⟩,by simp,λeJ e=>by have:=hlow eJ e;omega,BO⟩
def av8:(prog.info? 56).map (λi=>(i.zero,i.size,i.bytes))=some (some (.agg #[LJ 0,LJ 0,L9 false]),3,24):=by kernel_rfl
def TW.push {I:Nat->Prop}{tb aw:Nat}{aK:List Nat}{ah:List Us}{w aq:LK}{v:LY}{g cap n:Nat}{u:Us}(h:TW I tb aw aK ah w)(a0:w.heap[tb]? = some (NK #[.map (some aw),v] 108))
  (av:n=ah.length+1) (hown:aq.ownsRow 0 56 3 (.slice (some (LD g 0)) n cap) n (Ph (ah++[u]))) (cS:w.grownBy aq v.ownBlock) (hg:v.ownBlock=some g\/w.heap.size<=g) :
  TW I tb aw aK (ah++[u]) (aq.setCell (LD tb 1) (.slice (some (LD g 0)) n cap))/\Fm (λb=>b<w.heap.size/\b≠tb/\v.ownBlock≠some b) w (aq.setCell (LD tb 1) (.slice (some (LD g 0)) n cap)):=by
 obtain⟨⟨b0,E,O,ao,aM⟩,bw,h6,h7,dp,dt⟩:=h;have lO:b0=v:=by rw[a0] at E;simpa using E.symm
 subst lO;subst av;have hset:∀ k,k≠tb->(aq.setCell (LD tb 1) (.slice (some (LD g 0)) (ah.length+1) cap)).heap[k]? = aq.heap[k]?:=λk N=>Qu N _;have bB:∀ k,k<w.heap.size->k≠tb->b0.ownBlock≠some k->(aq.setCell (LD tb 1) (.slice (some (LD g 0)) (ah.length+1) cap)).heap[k]? = w.heap[k]?:=λk a b c=>(hset k b).trans (cS.block k a (λe=>c e.symm));have y8:aq.heap[tb]? = some (NK #[.map (some aw),b0] 108):=(cS.block tb (lt_of_heap E) (λe=>aM e.symm)).trans E
 have bK:w.heap.size<=(aq.setCell (LD tb 1) (.slice (some (LD g 0)) (ah.length+1) cap)).heap.size:=by simpa using cS.size
 have hR:g≠tb:=by
  rcases hg with hg|hg
  ·exact λe=>aM (by rw[hg,e])
  ·have:=lt_of_heap E;omega
 have m2:Fm (λb=>b<w.heap.size/\b≠tb/\b0.ownBlock≠some b) w (aq.setCell (LD tb 1) (.slice (some (LD g 0)) (ah.length+1) cap)):=⟨cS.os,cS.tape,cS.output,bK,λb D _=>bB b D.1 D.2.1 D.2.2⟩;have cz:∀ b,I b->b<w.heap.size/\b≠tb/\b0.ownBlock≠some b:=λb D=>⟨(h7 b D).1,(h7 b D).2,ao b D⟩
 refine⟨⟨⟨.slice (some (LD g 0)) (ah.length+1) cap,by rw[heap_set y8];rfl,?_,λb D e=>?_,λe=>?_⟩,?_,h6,λb D=>⟨zalau (h7 b D).1 bK,(h7 b D).2⟩,λp ae=>⟨(dp p ae).1,Cl.fm m2 (cz p (dp p ae).1) (dp p ae).2⟩,dt⟩,m2⟩
 ·exact ayU
 ·exact ay6
 ·exact hR (by simpa[Value.ownBlock] using e)
 ·rw[bB aw (lt_of_heap bw) (h7 aw h6).2 (ao aw h6)];exact bw
def aaZ (w:LK)(a b:Int)(c:Bool)(t:TypeId)(H:Nat)(h:w.heap.size=H):∀ j u,(usC (a,b,c))[j]? = some u->(w.alloc (.cells #[LJ a,LJ b,L9 c] t)).cell? (((LD H 0):Addr).add j)=some u:=by
 intro j u aT;subst h;have aJ:∀ k,(w.alloc (.cells #[LJ a,LJ b,L9 c] t)).cell? (((LD w.heap.size 0):Addr).add k)=#[Value.int .i64 a,LJ b,L9 c][k]?:=λk=>by
  rw[Addr.add_mid,zalda,cell_of (LP _ _)]
 rw[aJ]
 match j,aT with
 | 0,aT=>simpa[usC] using aT
 | 1,aT=>simpa[usC] using aT
 | 2,aT=>simpa[usC] using aT
 | _+3,aT=>simp[usC] at aT
def air (u:Us):∀ x ∈ usC u,x.oneCell'=true:=by
 intro x af;simp only[usC,zalas,zalcw,zalfb] at af
 rcases af with rfl|rfl|rfl <;> rfl
def aG6 (w:LK)(p tb aw no:Nat)(aQ:Option Addr)(st dk:Bool)(dj:Option Addr)(kn cY:Nat)(tx:LW)(hH:Int)(fg:Bool)(I:Nat->Prop)(aK:List Nat)(ah:List Us)(Q:LK->Prop)(c0:w.cell? (LD p 0)=some (LJ 23))(c1:w.cell? (LD p 1)=some (LQ tx))(c3:w.cell? (LD p 3)=some (.slice dj kn cY))(lE:I p)(bm:ah.length<=20000)
  (aO:TW I tb aw aK ah w) (hnum:∀ X,Fm I w X->(Instr.lookup 44 (.map (some aw)) (LC p) false).run prog X=.ok (LJ (no:Int)) X)
  (bB:∀ X,LX w X->MC 118 #[LC p] X λe w'=>e=MN (L9 dk)/\w'=X)
  (Cm:∀ X,LX w X->MC 123 #[.pointer aQ,LQ tx] X λe w'=>e=MN (.tuple #[LJ hH,L9 fg])/\w'=X)
  (h9:∀ X,TW I tb aw aK (ah++[((no:Int),hH,fg)]) X->Fm I w X->MC 127 #[MX tb,.slice dj kn cY,Pv (.pointer aQ) (st||dk)] X λe w'=>e=MN (.tuple #[])/\Q w') :
  MC 68 #[MX tb,LC p,Pv (.pointer aQ) st] w λe w'=>e=MN (.tuple #[])/\Q w':=by
 obtain⟨a6,b4,bL,bM,bP⟩:=zalbl av8;have bF:=cell_lt c0;have hn:=(aO.ne p lE).2;have cK:=hide c3;have es:=hide c1;have rg:=hide lE;have eu:=hide aO;have nC:=hide hnum;have dm:=hide bB;have D3:=hide Cm;have gY:=hide h9;clear bB h9 Cm c3 c1 lE hnum
 cases st with
 | true=>
  rw[zalco] at gY;have A{G}(h:G:=by
  have A{G}(h:G:=by
  have A{G}(h:G:=by
  have ea:Hid (bn.cell? (LD w.heap.size 1)=some (L9 true)):=(tn.cell (zalal uU.out) lM).trans (Lu AU);have A{G}(h:G:=by
  refine ug 5 (Pv (.pointer aQ) true) rfl (zalad ⟨by kernel_rfl,λX aB=>by have aJ:=Md aB fj.out;have E:=Md aB ea.out;go_simp⟩) dK ?_
  exact aDx):=LG h;exact aAH):=LG h;exact zsh):=LG h;exact azU):=LG h;exact zsx
 | false=>
  rw[zalbn] at gY;have A{G}(h:G:=by
  have A{G}(h:G:=by
  have A{G}(h:G:=by
  have ea:Hid (bn.cell? (LD w.heap.size 1)=some (L9 dk)):=(tn.cell (zalal uU.out) lM).trans (Lu AU);have A{G}(h:G:=by
  refine ug 5 (Pv (.pointer aQ) dk) rfl (zalad ⟨by kernel_rfl,λX aB=>by have aJ:=Md aB fj.out;have E:=Md aB ea.out;go_simp⟩) dK ?_
  exact aDx):=LG h;exact aAH):=LG h;exact zsh):=LG h;exact azU):=LG h;exact zsr
