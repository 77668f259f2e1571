import Derived.Test.YtoimgcjbcbhclaaGreatDoorAz15
import Derived.Test.YtoimgcjbcbhclaaGreatDoorAz13
set_option maxRecDepth 100000
set_option maxHeartbeats 0
set_option linter.all false
namespace Go.Proofs.YtoimgcjbcbhclaaGreatDoor
open Go.RowKit Go.Proofs.Tryz
def awk:(prog.info? 57).map (λi=>(i.zero,i.size,i.bytes))=some (some (.agg #[LJ 0,LJ 0,L9 false]),3,24):=by kernel_rfl
def Sz.look {I:Nat->Prop}{aI aw be aZ:Nat}{aK aL post:List Nat}{ah:List Us}{w X:LK}{a:Ad}(h:Sz I aI aw be aZ aK ah w)(bv:aK=aL++(a.N9++post))(aB:Fm I w X) :
  (Instr.lookup 44 (.map (some aw)) (LC a.p) false).run prog X=.ok (LJ (aL.length:Int)) X:=by
 have aA:a.p ∈ aK:=by rw[bv,P9];simp
 have E:=XQ aw aK.length (Ro aK) a.p X (by rw[aB.stay aw h.inb.2.1 (h.ne aw h.inb.2.1).1];exact h.map) (Cl.fm aB (h.cl _ aA).1 (h.cl _ aA).2) (λe he=>Cl.fm aB (h.cl _ (Uh he)).1 (h.cl _ (Uh he)).2)
 exact axm
def Sz.push {I:Nat->Prop}{aI aw be aZ:Nat}{aK:List Nat}{ah:List Us}{w aq:LK}{v:LY}{g cap n:Nat}{u:Us}(h:Sz I aI aw be aZ aK ah w)(a0:w.heap[be]? = some (NK #[v] 52))
  (av:n=ah.length+1) (hown:aq.ownsRow 0 57 3 (.slice (some (LD g 0)) n cap) n (Ph (ah++[u]))) (cS:w.grownBy aq v.ownBlock) (hg:v.ownBlock=some g\/w.heap.size<=g) :
  Sz I aI aw be aZ aK (ah++[u]) (aq.setCell (LD be 0) (.slice (some (LD g 0)) n cap))/\Fm I w (aq.setCell (LD be 0) (.slice (some (LD g 0)) n cap)):=by
 obtain⟨fM,fS,en,⟨b0,E,O,ao,aM⟩,h6,h7,dp,dt⟩:=h;have lO:b0=v:=by rw[a0] at E;simpa using E.symm
 subst lO;subst av;have hset:∀ k,k≠be->(aq.setCell (LD be 0) (.slice (some (LD g 0)) (ah.length+1) cap)).heap[k]? = aq.heap[k]?:=λk N=>Qu N _;have bB:∀ k,k<w.heap.size->k≠be->b0.ownBlock≠some k->(aq.setCell (LD be 0) (.slice (some (LD g 0)) (ah.length+1) cap)).heap[k]? = w.heap[k]?:=λk a b c=>(hset k b).trans (cS.block k a (λe=>c e.symm));have y8:aq.heap[be]? = some (NK #[b0] 52):=(cS.block be (lt_of_heap E) (λe=>aM e.symm)).trans E
 have bK:w.heap.size<=(aq.setCell (LD be 0) (.slice (some (LD g 0)) (ah.length+1) cap)).heap.size:=by simpa using cS.size
 have hR:g≠be:=by
  rcases hg with hg|hg
  ·exact λe=>aM (by rw[hg,e])
  ·have:=lt_of_heap E;omega
 have cz:∀ b,I b->b<w.heap.size/\b≠be/\b0.ownBlock≠some b:=λb D=>⟨(h7 b D).1,(h7 b D).2,ao b D⟩;have m2:Fm I w (aq.setCell (LD be 0) (.slice (some (LD g 0)) (ah.length+1) cap)):=⟨cS.os,cS.tape,cS.output,bK,λb D _=>bB b (cz b D).1 (cz b D).2.1 (cz b D).2.2⟩;have N:∀ b,I b->(aq.setCell (LD be 0) (.slice (some (LD g 0)) (ah.length+1) cap)).heap[b]? = w.heap[b]?:=λb D=>bB b (cz b D).1 (cz b D).2.1 (cz b D).2.2
 refine⟨⟨(N aI h6.1).trans fM,(N aw h6.2.1).trans fS,(N aZ h6.2.2).trans en,⟨.slice (some (LD g 0)) (ah.length+1) cap,by rw[heap_set y8];rfl,?_,λb D e=>?_,λe=>?_⟩,h6,λb D=>⟨zalau (h7 b D).1 bK,(h7 b D).2⟩,λp ae=>⟨(dp p ae).1,Cl.fm m2 (dp p ae).1 (dp p ae).2⟩,dt⟩,m2⟩
 ·exact ayU
 ·exact ay6
 ·exact hR (by simpa[Value.ownBlock] using e)
def find_last (l:List Sc)(c:Sc)(s:LW)(b:Bool):Qb (l++[c]).reverse s b=if hasB c.nms s then (c.own,b) else Qb l.reverse s (b && !c.opn):=by
 rw[zalgr];rfl
def Z5 (ah:List Us)(u:Us):Ph ah++usC u=Ph (ah++[u]):=by
 rw[WQ]
 congr 1
def am3 (a b c:LY)(t:TypeId)(x:LY){w:LK}{u:Nat}(h:w.heap[u]? = some (NK #[a,b,c] t)):((w.setCell (LD u 1) x).heap[u]? = some (NK #[a,x,c] t))/\((w.setCell (LD u 2) x).heap[u]? = some (NK #[a,b,x] t)):=by
 constructor <;> rw[heap_set h] <;> rfl
def aHa (w:LK)(p aI aw be aZ no:Nat)(v:LY)(ps:List (LY × Sc))(st:Bool)(tx:LW)(I:Nat->Prop)(aK:List Nat)(ah:List Us)(c0:w.cell? (LD p 0)=some (LJ 23))(c1:w.cell? (LD p 1)=some (LQ tx))(aO:Sz I aI aw be aZ aK ah w)
  (hnum:∀ X,Fm I w X->(Instr.lookup 44 (.map (some aw)) (LC p) false).run prog X=.ok (LJ (no:Int)) X) (a7:RR I w v ps) (ee:0<ps.length) (bF:ps.length<=20000) (bm:ah.length<=20000) :
  MC 70 #[LC p,v,L9 st,MX aI,MX be,MX aZ] w λe w'=>e=MN (.tuple #[]) /\
   Sz I aI aw be aZ aK (ah++[((no:Int),(Qb ((ps.map Prod.snd).reverse) tx true).1,(Qb ((ps.map Prod.snd).reverse) tx true).2)]) w'/\Fm I w w':=by
 obtain⟨a6,b4,bL,bM,bP⟩:=zalbl awk;have g3:=cell_lt c0;obtain⟨g,cap,k7,_,_⟩:=a7.1.form ee;subst k7;have A{G}(h:G:=by
 have bz:LX w w1:=by rw[c9];exact Qn
 have h8:=hnum w1 (Fm.of bz);have n0:w.cell? (LD aI 0)=some (.map (some aw)):=by rw[cell_of aO.num];rfl
 have ey:=lt_of_heap aO.num;have eu:=hide aO;have bo:=hide a7;have es:=hide c1;rw[c9] at h8;clear hnum c1 c9;go_enter func70,ntmps70;go_wp2_with fail;have Er:Hid (LX w ((w.alloc (.cells #[.slice (some (LD g 0)) ps.length cap] 114)).alloc (.cells #[LJ (no:Int),LJ (-1),L9 true] 57))):=Qn.alloc MP _
 go_loopw [11] (λi wr=>∃ (k:Nat) (fg:Bool),k<=ps.length/\i=LJ ((k:Int) - 1)/\wr.heap[w.heap.size+1]? = some (NK #[LJ (no:Int),LJ (-1),L9 fg] 57)/\wr.heap[w.heap.size]? = some (NK #[.slice (some (LD g 0)) ps.length cap] 114)/\LX w wr/\Qb ((ps.map Prod.snd).reverse) tx true=Qb (((ps.take k).map Prod.snd).reverse) tx fg) (λi _=>(intOf i+1).toNat)
 case atStart=>
  refine⟨ps.length,true,Nh,rfl,?_,?_,Er.out,by rw[zalaq]⟩
  ·have:=LP (w.alloc (.cells #[.slice (some (LD g 0)) ps.length cap] 114)) (.cells #[LJ (no:Int),LJ (-1),L9 true] 57);simpa using this
  ·rw[zalaa _ _ _ MP];exact LP _ _
 case round=>
  obtain⟨k,fg,N,rfl,aS,a0,g0,yt⟩:=hrel;have nR:=hide aS;have eh:=hide a0;have cB:=hide g0;have z3:=hide yt;clear aS a0 yt
  cases k with
  | zero=>
   have hneg:¬ (((0:Nat):Int) - 1 ≥ 0):=LM;obtain⟨hH,yS⟩:∃ hH:Int,hH = -1:=⟨_,rfl⟩;rw[<-yS] at nR;have rd:Hid (Qb ((ps.map Prod.snd).reverse) tx true=(hH,fg)):=by
    show _=_
    rw[z3.out,yS];rfl
   clear yS;have sa:=cB.out.size;have i5:Hid (Sz I aI aw be aZ aK ah wr):=eu.out.later cB.out;obtain⟨iB,gj,iA,_,zy⟩:=i5.out.out;obtain⟨aQ,cc,rfl⟩:=LZ iA;have ll:=hide gj;have gE:=hide iA;have ue:=lt_of_heap gj;have Ds:wr.cell? (LD be 0)=some (.slice aQ ah.length cc):=by rw[cell_of gj];rfl
   have u0:wr.cell? (LD (w.heap.size+1) 0)=some (LJ (no:Int)):=by rw[cell_of nR.out];rfl
   have u1:wr.cell? (LD (w.heap.size+1) 1)=some (LJ hH):=by rw[cell_of nR.out];rfl
   have u2:wr.cell? (LD (w.heap.size+1) 2)=some (L9 fg):=by rw[cell_of nR.out];rfl
   have IA:=lt_of_heap nR.out;clear gj c0 n0 h8
   go_wp2_with (at_builtin;refine wpList_append_lies _ rfl _ _ 52 rfl 0 57 a6 (.agg #[LJ 0,LJ 0,L9 false]) 3 24 underlying52 b4 bL bM bP rfl MK _ _ _ rfl (gE.out.alloc _) (LD wr.heap.size 0) 1 1 (usC ((no:Int),hH,fg)) rfl rfl (aaZ wr _ _ _ _ _ MP) (air _) MK (by unfold maxLen;omega) LM (zalae _) (wr.heap.size+1) MP ?_)
   intro hv cap3 aq hown3 dD dc _;rw[Z5] at hown3;have mc:Hid (Sz I aI aw be aZ aK ah (World.alloc wr (.cells #[LJ (no:Int),LJ hH,L9 fg] 57))):=i5.out.later Qn;have fp:(World.alloc wr (.cells #[LJ (no:Int),LJ hH,L9 fg] 57)).heap[be]? = some (NK #[.slice aQ ah.length cc] 52):=(zalaa wr _ be ue).trans ll.out;have A{G}(h:G:=by
   have rc:Hid (Fm I w (World.alloc wr (.cells #[LJ (no:Int),LJ hH,L9 fg] 57))):=Fm.of (cB.out.alloc sa _);exact ay2):=LG h;exact aAN
  | succ k=>
   have ex:k<ps.length:=LM;have Hi:(((k+1:Nat):Int) - 1)=(k:Int):=LM;rw[Hi];have dI:((k:Int) ≥ 0):=LM;have eY:(k:Int)<(ps.length:Int):=LM;obtain⟨x,pk⟩:∃ x,ps[k]=x:=⟨_,rfl⟩;have k9:x ∈ ps:=pk ▸ zalao ex;have tU:=bo.out.later (w':=wr) (λb _ ab=>cB.out.block b ab);obtain⟨hrow,_,hall⟩:=tU;obtain⟨km,_,y5⟩:=hall x k9;have h5:=abS ps k ex;rw[pk] at h5;have hlen3:3 * k+2<ps.length * 3:=LM;rw[Nat.mul_comm 3 k] at h5 hlen3
   have ct:wr.cell? (LD g (k * 3))=some (LJ x.2.own):=by rw[hrow.cellAt (k * 3) LM];exact h5.1
   have d1:wr.cell? (LD g (k * 3+1))=some x.1:=by rw[hrow.cellAt (k * 3+1) LM];exact h5.2.1
   have d2:wr.cell? (LD g (k * 3+2))=some (L9 x.2.opn):=by rw[hrow.cellAt (k * 3+2) LM];exact h5.2.2
   have z6:=hide (λX (aB:X=wr.drew)=>YJ (B:=0) x.2.nms tx x.1 X (by rw[aB];exact L8 (w:=wr) (I:=λ_=>True) (λ_ _ _=>rfl) (λ_ _=>trivial) km) y5)
   have rb:Hid (Qb ((ps.map Prod.snd).reverse) tx true=if hasB x.2.nms tx then (x.2.own,fg) else Qb (((ps.take k).map Prod.snd).reverse) tx (fg && !x.2.opn)):=by
    show _=_
    rw[z3.out,zalac ex,pk,zalam];exact find_last _ _ _ _
   obtain⟨lY,pD,jk⟩:=LZ km;obtain⟨DD,bQ⟩:=x;obtain⟨mC,lZ,IK⟩:=bQ;simp only at ct d1 d2 z6 rb jk;subst jk;have qf:wr.cell? (LD w.heap.size 0)=some (.slice (some (LD g 0)) ps.length cap):=by rw[cell_of eh.out];rfl
   have rJ:wr.cell? (LD p 1)=some (LQ tx):=Md cB.out es.out;have de:=(Me hrow g rfl).1;have qN:=lt_of_heap eh.out;have hpl2:=cell_lt rJ;clear hall h5 k9 pk c0 n0 h8;go_wp2_with fail;have uG:=hide ct;have wM:=hide d2;obtain⟨wd,cb⟩:∃ wd,wd=wr.drew:=⟨_,rfl⟩;have aE:LX wr wd:=by rw[cb];exact O4.drew
   have Fq:=hide cb;have iW:=Md aE qf;have bH:=Md aE d1;have a8:=Md aE rJ;have KC:=cell_lt iW;have Ia:=cell_lt bH;have Ib:=cell_lt a8;clear qf ct d1 d2 rJ;refine wp_region_held (S:=λX=>X=wd) Nw ?_;refine alv ?_;rw[<-cb];clear cb;refine wh 0 (.slice (some (LD g 0)) ps.length cap) rfl ?_ (hy:=zalad ⟨by kernel_rfl,λX aB=>by cases aB;go_simp⟩)
   refine wh 1 (LJ (k:Int)) rfl ?_;refine wh 2 (Mc g (k * 3)) rfl ?_ (hy:=zalad ⟨by kernel_rfl,λX aB=>by cases aB;go_simp⟩)
   refine wh 3 (Mc g (k * 3+1)) rfl ?_ (hy:=zalad ⟨by kernel_rfl,λX aB=>by cases aB;go_simp⟩)
   refine wh 4 (.slice lY lZ.length pD) rfl ?_ (hy:=zalad ⟨by kernel_rfl,λX aB=>by cases aB;go_simp⟩)
   refine wh 5 (LC p) rfl ?_;refine wh 6 (LC p) rfl ?_;refine wh 7 (Mc p 1) rfl ?_;refine wh 8 (LQ tx) rfl ?_ (hy:=zalad ⟨by kernel_rfl,λX aB=>by cases aB;go_simp⟩)
   refine UK 9 λK U=>?_;go_simp;refine cm (Lu z6 wd Fq.out) ?_;rintro e aq ⟨rfl,h'⟩;rw[h'];refine U.out _ _ rfl (λ_=>?_);clear U K h' aq;refine wpAnyH_done Nw ?_ _;clear bH a8 Ia Ib;have hX:Hid (LX w wd):=cB.out.trans (aE.mono cB.out.size);have p3:Hid (wd.heap[w.heap.size+1]? = some (NK #[LJ (no:Int),LJ (-1),L9 fg] 57)):=by
    show _=_
    rw[aE.block _ (lt_of_heap nR.out)];exact Lu nR
   have AR:Hid (wd.heap[w.heap.size]? = some (NK #[.slice (some (LD g 0)) ps.length cap] 114)):=by
    show _=_
    rw[aE.block _ (lt_of_heap eh.out)];exact Lu eh
   have ct:=Md aE uG.out;have d2:=Md aE wM.out;have oe:=lt_of_heap p3.out;have zE:=Ny p3.out;have K':wd.cell? (LD (w.heap.size+1) 1)=some (LJ (-1)):=by rw[cell_of p3.out];rfl
   have La:wd.cell? (LD (w.heap.size+1) 2)=some (L9 fg):=by rw[cell_of p3.out];rfl
   have JI:=cell_lt ct;have Lc:=zE 1;have Ld:=zE 2;clear zE de qN hpl2
   cases a2:hasB lZ tx with
   | true=>
    rw[a2] at rb;have fh:=hide a2;clear a2;have Kp:be<w.heap.size:=by
     obtain⟨iB,gj,_⟩:=eu.out.out;exact lt_of_heap gj
    obtain⟨wz,d7⟩:∃ wz,wz=wd.setCell (LD (w.heap.size+1) 1) (LJ mC):=⟨_,rfl⟩;have cB:Hid (LX w wz):=by
     show Below _ _ _
     rw[d7];exact hX.out.setCell (p:=(LD (w.heap.size+1) 1)) MP _
    have i5:Hid (Sz I aI aw be aZ aK ah wz):=eu.out.later cB.out;have sa:=cB.out.size;obtain⟨iB,gj,iA,_,zy⟩:=i5.out.out;obtain⟨aQ,cc,rfl⟩:=LZ iA;have ll:=hide gj;have gE:=hide iA;have ue:=lt_of_heap gj;have d':be≠w.heap.size+1:=LM;have hne2:w.heap.size+1≠be:=LM;have Ds:wd.cell? (LD be 0)=some (.slice aQ ah.length cc):=by
     have E:wz.heap[be]? = wd.heap[be]?:=by rw[d7];exact Qu d' _
     rw[E] at gj;rw[cell_of gj];rfl
    have K9:wd.cell? (LD (w.heap.size+1) 0)=some (LJ (no:Int)):=by rw[cell_of p3.out];rfl
    have rd:Hid (Qb ((ps.map Prod.snd).reverse) tx true=(mC,fg)):=Lu rb;rw[d7] at cB i5 ll gE ue sa;clear gj d7;go_simp
    go_wp2_with (at_builtin;refine wpList_append_lies _ rfl _ _ 52 rfl 0 57 a6 (.agg #[LJ 0,LJ 0,L9 false]) 3 24 underlying52 b4 bL bM bP rfl MK _ _ _ rfl (gE.out.alloc _) (LD wd.heap.size 0) 1 1 (usC ((no:Int),mC,fg)) rfl rfl (aaZ (wd.setCell (LD (w.heap.size+1) 1) (LJ mC)) _ _ _ _ _ MP) (air _) MK (by unfold maxLen;omega) LM (zalae _) (wd.heap.size+1) MP ?_)
    intro hv cap3 aq hown3 dD dc _;rw[Z5] at hown3;have mc:Hid (Sz I aI aw be aZ aK ah (World.alloc (wd.setCell (LD (w.heap.size+1) 1) (LJ mC)) (.cells #[LJ (no:Int),LJ mC,L9 fg] 57))):=i5.out.later Qn;have fp:(World.alloc (wd.setCell (LD (w.heap.size+1) 1) (LJ mC)) (.cells #[LJ (no:Int),LJ mC,L9 fg] 57)).heap[be]? = some (NK #[.slice aQ ah.length cc] 52):=(zalaa (wd.setCell (LD (w.heap.size+1) 1) (LJ mC)) _ be ue).trans ll.out;have A{G}(h:G:=by
    have rc:Hid (Fm I w (World.alloc (wd.setCell (LD (w.heap.size+1) 1) (LJ mC)) (.cells #[LJ (no:Int),LJ mC,L9 fg] 57))):=Fm.of (cB.out.alloc sa _);exact ay2):=LG h;exact aAN
   | false=>
    rw[a2] at rb;have fh:=hide a2;clear a2
    cases IK with
    | true=>
     have fH:Hid ((wd.setCell (LD (w.heap.size+1) 2) (L9 false)).heap[w.heap.size+1]? = some (NK #[LJ (no:Int),LJ (-1),L9 false] 57)/\(wd.setCell (LD (w.heap.size+1) 2) (L9 false)).heap[w.heap.size]? = some (NK #[.slice (some (LD g 0)) ps.length cap] 114)/\LX w (wd.setCell (LD (w.heap.size+1) 2) (L9 false))):=
      ⟨(am3 _ _ _ _ _ p3.out).2,by rw[Qu MP];exact AR.out,hX.out.setCell (p:=(LD (w.heap.size+1) 2)) MP _⟩
     have rd:Hid (Qb ((ps.map Prod.snd).reverse) tx true=Qb (((ps.take k).map Prod.snd).reverse) tx false):=by
      show _=_
      rw[rb.out];simp
     go_simp;go_wp2
     go_roundw
     case rel=>exact⟨k,false,by omega,by go_num,fH.out.1,fH.out.2.1,fH.out.2.2,rd.out⟩
     case measure=>simp[intOf]
    | false=>
     have rd:Hid (Qb ((ps.map Prod.snd).reverse) tx true=Qb (((ps.take k).map Prod.snd).reverse) tx fg):=by
      show _=_
      rw[rb.out];simp
     go_simp;go_wp2
     go_roundw
     case rel=>exact⟨k,fg,by omega,by go_num,p3.out,AR.out,hX.out,rd.out⟩
     case measure=>simp[intOf]):=LG h;exact aqC
def an1:TM 70:=λ_ _=>by kernel_rfl
def Ua {x:Ad}:∀ {al:List Ad},x ∈ al->x.cnt<=Ad.cnts al
 | [],h=>by cases h
 | e::al,h=>by
  rw[Ad.cnts]
  rcases zalas.1 h with rfl|h
  ·omega
  ·have:=Ua h;omega
structure KL (m:Nat)(J:Nat->Prop)(aI aw be aZ hW:Nat)(aK aL post:List Nat)(ah:List Us)(v:LY)(ps:List (LY × Sc))(al:List Ad)(dj:Option Addr)(cY:Nat)(w2:LK):Prop where
 wk:WalkC m
 ad:aK=aL++(Ad.Nv al++post)
 rw:Sz J aI aw be aZ aK ah w2
 box:w2.heap[hW]? = some (NK #[v] 114)/\J hW
 rr:RR J w2 v ps
 kn:∀ k ∈ al,k.cnt<=m/\MZ J w2 k/\k.tr.ill=0/\WS k.tr
 row:w2.ownsRow 0 22 1 (.slice dj al.length cY) (al.map Ad.p).length ((al.map Ad.p).map LC)
 rj:∀ g,(Value.slice dj al.length cY).ownBlock=some g->J g
 pos:0<ps.length
 len:ps.length+Ad.cnts al<=20000/\ah.length+Ad.cnts al<=20000
def KL.step {m:Nat}{J:Nat->Prop}{aI aw be aZ hW:Nat}{aK aL post:List Nat}{ah:List Us}{v:LY}{ps:List (LY × Sc)}{al:List Ad}{dj:Option Addr}{cY:Nat}{w2 wr:LK}(h:KL m J aI aw be aZ hW aK aL post ah v ps al dj cY w2)(st:Bool){k:Nat}(aC:k<al.length)
  (hg:Sz J aI aw be aZ aK (ah++Rh (rl m) ((al.take k).map Ad.tr) aL.length ((ps.map Prod.snd).reverse) st) wr) (an:Fm J w2 wr) :
  ∃ g q,dj=some (LD g 0)/\g<wr.heap.size/\wr.cell? (LD g k)=some (LC q)/\wr.cell? (LD hW 0)=some v/\wr.cell? (LD aZ 0)=some (wkV aI be aZ)/\hW<wr.heap.size/\aZ<wr.heap.size /\
   MC 70 #[LC q,v,L9 st,MX aI,MX be,MX aZ] wr λe w'=>e=MN (.tuple #[])/\Sz J aI aw be aZ aK (ah++Rh (rl m) ((al.take (k+1)).map Ad.tr) aL.length ((ps.map Prod.snd).reverse) st) w'/\Fm J w2 w':=by
 obtain⟨g,cap,a0,hcell⟩:=OB h.row (by rw[zalag];omega)
 have A{G}(h:G:=by
 have de:=(Me h.row g rfl).1;have hmem:=zalao aC;have vJ:=Zu al k aC;have iU:=Xv (f:=rl m) (Zv m) ((al.take k).map Ad.tr) aL.length ((ps.map Prod.snd).reverse) st;rw[Xe] at iU;have BS:=h.len;have gZ:aK=(aL++Ad.Nv (al.take k))++((al[k]).N9++(Ad.Nv (al.drop (k+1))++post)):=by
  rw[h.ad];exact ayG
 obtain⟨a9,bD,b8,e0⟩:=h.kn _ hmem;have eR:=h.wk (al[k]) a9 J aI aw be aZ aK _ _ _ v ps st wr gZ hg (MZ.later an.stay _ bD) b8 e0 (h.rr.later an.stay) h.pos LM (by rw[zalab];omega)
 have A{G}(h:G:=by
 have jh:=abP (rl m) (al.map Ad.tr) k (by rw[zalag];exact aC) aL.length ((ps.map Prod.snd).reverse) st
 refine⟨g,(al[k]).p,rfl,zalau de an.size,?_,?_,?_,zalau (lt_of_heap h.box.1) an.size,zalau (lt_of_heap h.rw.wlk) an.size,eR.mono ?_⟩
 ·rw[an.cell (h.rj g rfl) de,hcell k (by rw[zalag];exact aC),zalcx]
 ·rw[an.cell h.box.2 (lt_of_heap h.box.1),cell_of h.box.1];rfl
 ·rw[an.cell h.rw.inb.2.2 (lt_of_heap h.rw.wlk),cell_of h.rw.wlk];rfl
 ·rintro e w' ⟨rfl,E,O⟩;refine⟨rfl,?_,an.trans O⟩;rw[zaldl,jh,<-zalax];rw[pd] at E;rw[zaldl] at E;simpa using E):=LG h;exact aB8):=LG h;exact Tf
def YQ {G:Prop}(h:G:=by
 obtain⟨k,N,rfl,hg,dq⟩:=hrel;have ic:=hide hg;have eP:=hide dq;clear hg dq
 by_cases aC:k<al.length
 ·obtain⟨g,q,o8,de,dU,Kt,vL,jG,fC,eR⟩:=fv.out.step _ aC ic.out eP.out;subst o8;have eY:(k:Int)<(al.length:Int):=LM;have ag:=hide eR;clear eR;go_wp2_with fail;refine NJ ?_;rintro e cM ⟨rfl,Cn,gJ⟩;have z4:=hide Cn;have i0:=hide gJ;clear Cn gJ;exact aDw
 ·have cA:k=al.length:=LM;subst cA;rw[zalaq] at ic;go_wp2_with fail
  first
  | (go_end0;exact⟨rfl,Lu pL _ ic.out eP.out⟩)
  | (refine Ug (v:=.tuple #[]) ⟨rfl,?_⟩;exact Lu pL _ ic.out eP.out)):G:=h
def awj {m:Nat}(ce:WalkC m)(a:Ad)(aA:a.cnt<=m+1)(I:Nat->Prop)(aI aw be aZ:Nat)(aK aL post:List Nat)(ah:List Us)(v:LY)(ps:List (LY × Sc))(st:Bool)(w:LK)
  (bv:aK=aL++(a.N9++post)) (aO:Sz I aI aw be aZ aK ah w) (aa:MZ I w a) (ak:a.tr.ill=0) (c6:WS a.tr) (a7:RR I w v ps) (ee:0<ps.length) (bF:ps.length+a.cnt<=20000) (bm:ah.length+a.cnt<=20000)
  (hx:a.kd≠23) (dt:a.kd≠9) (ei:a.kd≠13) (h6:a.kd≠6) (an:MF a.tr=false) :
  MC 70 #[LC a.p,v,L9 st,MX aI,MX be,MX aZ] w λe w'=>e=MN (.tuple #[])/\Sz I aI aw be aZ aK (ah++Rh (rl m) a.tr.kids (aL.length+1) ((ps.map Prod.snd).reverse) st) w'/\Fm I w w':=by
 obtain⟨_,dq,c0,_,kv,c3,hrow⟩:=aa.cells;have A{G}(h:G:=by
 have hrow1:=hrow.1;have hrow2:=hrow.2;obtain⟨g,cap,k7,_,_⟩:=a7.1.form ee;subst k7;have A{G}(h:G:=by
 have bz:LX w w1:=by rw[c9];exact Qn
 have eB:w1.heap.size=w.heap.size+1:=by rw[c9];simp
 have A{G}(h:G:=by
 have hcnt:=OA a;have bB:Pq I w w1:=λb _ ab=>bz.block b ab;have fv:Hid (KL m J aI aw be aZ w.heap.size aK (aL++[a.p]) post ah (.slice (some (LD g 0)) ps.length cap) ps a.ks dj cY w1):=
  ⟨ce,by rw[bv,P9];simp,by rw[c7];exact aO.more bz,⟨by rw[c9];exact LP _ _,by rw[c7];exact zalal ⟨Nh,by omega⟩⟩,(a7.later bB).mono eM,
   λk N=>⟨by have E:=Ua N;omega,MZ.mono (λb D _=>eM b D) _ (MZ.later bB _ (aa.parts k N)),Ot ak k N,c6.part N⟩,
   Qr (L8 bB hrow2 hrow1),λg hg=>eM g (hrow2 g hg),ee,by omega,by omega⟩
 have pL:Hid (∀ L,Sz J aI aw be aZ aK (ah++Rh (rl m) (a.ks.map Ad.tr) (aL++[a.p]).length ((ps.map Prod.snd).reverse) st) L->Fm J w1 L->Sz I aI aw be aZ aK (ah++Rh (rl m) a.tr.kids (aL.length+1) ((ps.map Prod.snd).reverse) st) L/\Fm I w L):=λL E O=>by
  refine⟨?_,(Fm.of bz).trans (O.less eM)⟩;have ao:=E.less aO eM;rw[zalab,zalbm] at ao;rw[a.NC.2.2];exact ao
 have bN:=hide (QL a.tr a.p w1 (Nj.nt (Nj.later bB _ _ aa.nat)));rw[an] at bN;have fW:=an1;have ex:a.ks.length<=20000:=by have:=P8 a.ks;omega
 rw[c9] at bN fv pL;clear hrow2 aa ak eB c9 hcnt c7 eM bv an
 generalize a.p=p at *
 generalize a.kd=kd at *
 generalize a.ks=al at *
 go_enter func70,ntmps70;go_wp2_with fail;refine Y5 ?_;rintro e w2 ⟨rfl,rfl⟩;go_wp2_with fail;have A{G}(h:G:=by
 rw[<-c9] at fv pL ⊢;clear c9
 go_loopw [213] (λi wr=>∃ k:Nat,k<=al.length/\i=LJ k/\Sz J aI aw be aZ aK (ah++Rh (rl m) ((al.take k).map Ad.tr) (aL++[p]).length ((ps.map Prod.snd).reverse) st) wr/\Fm J w1 wr) (λi _=>al.length - (intOf i).toNat)
 case atStart=>exact⟨0,zalae _,rfl,by simpa[Rh] using fv.out.rw,Fm.refl _ _⟩
 case round=>exact YQ):=LG h;exact aqC):=LG h;exact aBH):=LG h;exact aqC):=LG h;exact aqH
def RR.push {I J:Nat->Prop}{w wz:LK}{v b0 nv:LY}{ps:List (LY × Sc)}{c:Sc}(h:RR I w v ps)(W:Pq I w wz)(eM:∀ b,I b->J b)(hrow:wz.ownsRow 0 116 3 b0 (ps.length+1) (rgCells ps++[LJ c.own,nv,L9 c.opn]))(aT:∀ g,b0.ownBlock=some g->J g)(av:Na 0 wz nv c.nms)(n':∀ g,nv.ownBlock=some g->J g)(ab:c.nms.length<=90000):RR J wz b0 (ps++[(nv,c)]):=by
 have E:=(h.later W).mono eM;refine⟨?_,aT,λx af=>?_⟩
 ·rw[zalab,ahJ];exact hrow
 ·rcases zalat.1 af with af|af
  ·exact E.2.2 x af
  ·rw[zalaf.1 af];exact⟨av,n',ab⟩
def aHb {m:Nat}(ce:WalkC m)(a:Ad)(aA:a.cnt<=m+1)(I:Nat->Prop)(aI aw be aZ:Nat)(aK aL post:List Nat)(ah:List Us)(v:LY)(ps:List (LY × Sc))(st:Bool)(w:LK)
  (bv:aK=aL++(a.N9++post)) (aO:Sz I aI aw be aZ aK ah w) (aa:MZ I w a) (ak:a.tr.ill=0) (c6:WS a.tr) (a7:RR I w v ps) (ee:0<ps.length) (bF:ps.length+a.cnt<=20000) (bm:ah.length+a.cnt<=20000)
  (ei:a.kd=13) :
  MC 70 #[LC a.p,v,L9 st,MX aI,MX be,MX aZ] w λe w'=>e=MN (.tuple #[])/\Sz I aI aw be aZ aK (ah++Rh (rl m) a.tr.kids (aL.length+1) (⟨aL.length,[a.tx],false⟩::(ps.map Prod.snd).reverse) st) w'/\Fm I w w':=by
 obtain⟨_,dq,c0,c1,kv,c3,hrow⟩:=aa.cells;have A{G}(h:G:=by
 rw[ei] at c0;have A{G}(h:G:=by
 have pM:Hid (∀ (wz:LK) (b0:LY) (nv:LY) (J:Nat->Prop),J=(λb=>I b\/(w.heap.size<=b/\b<wz.heap.size))->LX w wz->wz.heap[w.heap.size]? = some (NK #[b0] 114) ->
   wz.ownsRow w.heap.size 116 3 b0 (ps.length+1) (rgCells ps++[LJ (aL.length:Int),nv,L9 false])->Na w.heap.size wz nv [a.tx] ->
   KL m J aI aw be aZ w.heap.size aK (aL++[a.p]) post ah b0 (ps++[(nv,⟨aL.length,[a.tx],false⟩)]) a.ks dj cY wz /\
   ∀ L,Sz J aI aw be aZ aK (ah++Rh (rl m) (a.ks.map Ad.tr) (aL++[a.p]).length (((ps++[(nv,(⟨aL.length,[a.tx],false⟩:Sc))]).map Prod.snd).reverse) st) L->Fm J wz L->Sz I aI aw be aZ aK (ah++Rh (rl m) a.tr.kids (aL.length+1) (⟨aL.length,[a.tx],false⟩::(ps.map Prod.snd).reverse) st) L/\Fm I w L):=by
  intro wz b0 nv J c7 gt hbox gf jd;have eM:∀ b,I b->J b:=λb D=>by rw[c7];exact zalad D
  have bB:Pq I w wz:=λb _ ab=>gt.block b ab;have hcnt:=OA a;have gs:=lt_of_heap hbox;refine⟨⟨ce,by rw[bv,P9];simp,by rw[c7];exact aO.more gt,⟨hbox,by rw[c7];exact zalal ⟨Nh,gs⟩⟩,
   a7.push bB eM (Qj gf (zalae _)) (λg hg=>by have E:=Me gf g hg;rw[c7];exact zalal ⟨E.2,E.1⟩) (Ob jd (zalae _)) (λg hg=>by have E:=Me jd g hg;rw[c7];exact zalal ⟨E.2,E.1⟩) MP,
   λk N=>⟨by have E:=Ua N;omega,MZ.mono (λb D _=>eM b D) _ (MZ.later bB _ (aa.parts k N)),Ot ak k N,c6.part N⟩,
   Qr (L8 bB hrow.2 hrow.1),λg hg=>eM g (hrow.2 g hg),by simp,by simp;omega,by omega⟩,λL E O=>?_⟩
  refine⟨?_,(Fm.of gt).trans (O.less eM)⟩;have ao:=E.less aO eM;rw[zalab,zalbm] at ao;rw[a.NC.2.2];simpa using ao
 have A{G}(h:G:=by
 have es:=hide c1;have hpl2:ps.length<=20000:=LM;clear aa ak bv bF bm aA c1
 generalize a.p=p at *
 generalize a.kd=kd at *
 generalize a.ks=al at *
 generalize a.tx=tx at *
 have A{G}(h:G:=by
 have ba:=hide bz;have eW:=hide hB;have xi:Hid (w1.cell? (LD aI 0)=some (.map (some aw))):=Md bz n0;have ka:Hid (w1.cell? (LD p 1)=some (LQ tx)):=Md bz es.out;have A{G}(h:G:=by
 have A{G}(h:G:=by
 refine uc 1 (.map (some aw)) rfl (zalad ⟨by kernel_rfl,λX aB=>by have aJ:=Md aB xi.out;go_simp⟩) aE ?_
 have A{G}(h:G:=by
 have br{G}(h:G:=by
 have ip:Na w.heap.size (wd.alloc (.cells #[LQ tx] 9)) (.slice (some (LD wd.heap.size 0)) 1 1) [tx]:=⟨rfl,zalal ⟨wd.heap.size,1,#[LQ tx],rfl,zalan eB aE.size,LP _ _,Nh,by decide,rfl,rfl⟩⟩;have br{G}(h:G:=by
 have pO:Hid (w1.heap.size<=fn):=by show _<=_;rw[de];exact aE.size
 clear de iV;refine azJ ?_;have nJ:=hide (put_any (aL.length:Int) (some (LD fn 0)) 1 1 false (.slice (some (LD g 0)) ps.length cap) ps.length (rgCells ps) w.heap.size dA (Md cP mI.out) (L8 (I:=λ_=>True) (λb _ ab=>(ba.out.trans (cP.mono ba.out.size)).block b ab) (λ_ _=>trivial) dv.out.1) ee LM dv.out.ones);refine Qh 10 λK U=>?_;have A{G}(h:G:=by
 have oc:bn.ownsRow w.heap.size 116 3 b0 (ps.length+1) (rgCells ps++[LJ (aL.length:Int),.slice (some (LD fn 0)) 1 1,L9 false]):=Qj gN (zalan eB cP.size);have A{G}(h:G:=by
 have A{G}(h:G:=by
 have gX:=hide oc;have kJ:=hide hne5;have d5:=hide ec;have nN:=hide cP;clear o4 hne5;refine Qh 11 λK U=>?_;have A{G}(h:G:=by
 have gf:wz.ownsRow w.heap.size 116 3 (.slice va (ps.length+1) ck) (ps.length+1) (rgCells ps++[LJ (aL.length:Int),.slice (some (LD fn 0)) 1 1,L9 false]):=
  L8 (I:=λb=>dA.heap.size<=b) (λb D _=>hset b (by have E:=(Lu nN).size;have O:dA.heap.size<=b:=D;omega)) (λb D=>(Lu kJ b D).2) gX.out
 have jd:Na w.heap.size wz (.slice (some (LD fn 0)) 1 1) [tx]:=
  L8 (I:=λb=>b=fn) (λb D _=>hset b (by have ao:=Lu pO;have O:b=fn:=D;omega)) (λb D=>by simpa[Value.ownBlock] using D.symm) nx.out
 have A{G}(h:G:=by
 go_loopw [213] (λi wr=>∃ k:Nat,k<=al.length/\i=LJ k/\Sz (λb=>I b\/(w.heap.size<=b/\b<wz.heap.size)) aI aw be aZ aK (ah++Rh (rl m) ((al.take k).map Ad.tr) (aL++[p]).length (((ps++[(Value.slice (some (LD fn 0)) 1 1,(⟨aL.length,[tx],false⟩:Sc))]).map Prod.snd).reverse) st) wr/\Fm (λb=>I b\/(w.heap.size<=b/\b<wz.heap.size)) wz wr) (λi _=>al.length - (intOf i).toNat)
 case atStart=>exact⟨0,zalae _,rfl,by simpa[Rh] using fv.out.rw,Fm.refl _ _⟩
 case round=>exact YQ):=LG h;exact aAL):=LG h;go_simp;exact aAw):=LG h;exact aAf):=LG h;exact aBd):=LG h;exact aAA):=LG h;exact azv):=LG h;exact ztx):=LG h;exact aAj):=LG h;exact auq):=LG h;exact aBe):=LG h;exact azS):=LG h;exact aBX):=LG h;exact zsw):=LG h;exact aqH
def rl6 {m:Nat}(ce:WalkC m)(a:Ad)(aA:a.cnt<=m+1)(I:Nat->Prop)(aI aw be aZ:Nat)(aK aL post:List Nat)(ah:List Us)(v:LY)(ps:List (LY × Sc))(st:Bool)(w:LK)
  (bv:aK=aL++(a.N9++post)) (aO:Sz I aI aw be aZ aK ah w) (aa:MZ I w a) (ak:a.tr.ill=0) (c6:WS a.tr) (a7:RR I w v ps) (ee:0<ps.length) (bF:ps.length+a.cnt<=20000) (bm:ah.length+a.cnt<=20000)
  (h6:a.kd=6) :
  MC 70 #[LC a.p,v,L9 st,MX aI,MX be,MX aZ] w λe w'=>e=MN (.tuple #[])/\Sz I aI aw be aZ aK (ah++Rh (rl m) a.tr.kids (aL.length+1) (⟨aL.length,(namesT a.tr false),false⟩::(ps.map Prod.snd).reverse) st) w'/\Fm I w w':=by
 obtain⟨_,dq,c0,c1,kv,c3,hrow⟩:=aa.cells;have A{G}(h:G:=by
 rw[h6] at c0;have A{G}(h:G:=by
 have g6:=a.ND;have pR:Hid ((namesT a.tr false).length<=90000):=by
  show _<=_
  have E:(namesT a.tr false).length<=_:=Qs _;rw[zalab,zalab,zalag,zalag] at E;have O:=Xp a.tr;have ao:=Rk a.tr;have bw:=Ou a.tr;have h6:=NG a.tr.kids;simp only[zalct,zalfg,zaldv] at E;omega
 have jw:Hid (∀ X,LX w X->MC 54 #[LC a.p,L9 false] X λe w'=>(∃ u,e=MN u/\Na X.heap.size w' u (namesT a.tr false))/\LX X w'):=λX aB=>VZ a.tr a.p false X (Nj.nt (Nj.later (λb _ ab=>aB.block b ab) _ _ aa.nat)) LM;have pM:Hid (∀ (wz:LK) (b0:LY) (nv:LY) (J:Nat->Prop),J=(λb=>I b\/(w.heap.size<=b/\b<wz.heap.size))->LX w wz->wz.heap[w.heap.size]? = some (NK #[b0] 114) ->
   wz.ownsRow w.heap.size 116 3 b0 (ps.length+1) (rgCells ps++[LJ (aL.length:Int),nv,L9 false])->Na w.heap.size wz nv (namesT a.tr false) ->
   KL m J aI aw be aZ w.heap.size aK (aL++[a.p]) post ah b0 (ps++[(nv,⟨aL.length,(namesT a.tr false),false⟩)]) a.ks dj cY wz /\
   ∀ L,Sz J aI aw be aZ aK (ah++Rh (rl m) (a.ks.map Ad.tr) (aL++[a.p]).length (((ps++[(nv,(⟨aL.length,(namesT a.tr false),false⟩:Sc))]).map Prod.snd).reverse) st) L->Fm J wz L->Sz I aI aw be aZ aK (ah++Rh (rl m) a.tr.kids (aL.length+1) (⟨aL.length,(namesT a.tr false),false⟩::(ps.map Prod.snd).reverse) st) L/\Fm I w L):=by
  intro wz b0 nv J c7 gt hbox gf jd;have eM:∀ b,I b->J b:=λb D=>by rw[c7];exact zalad D
  have bB:Pq I w wz:=λb _ ab=>gt.block b ab;have hcnt:=OA a;have gs:=lt_of_heap hbox;refine⟨⟨ce,by rw[bv,P9];simp,by rw[c7];exact aO.more gt,⟨hbox,by rw[c7];exact zalal ⟨Nh,gs⟩⟩,
   a7.push bB eM (Qj gf (zalae _)) (λg hg=>by have E:=Me gf g hg;rw[c7];exact zalal ⟨E.2,E.1⟩) (Ob jd (zalae _)) (λg hg=>by have E:=Me jd g hg;rw[c7];exact zalal ⟨E.2,E.1⟩) pR.out,
   λk N=>⟨by have E:=Ua N;omega,MZ.mono (λb D _=>eM b D) _ (MZ.later bB _ (aa.parts k N)),Ot ak k N,c6.part N⟩,
   Qr (L8 bB hrow.2 hrow.1),λg hg=>eM g (hrow.2 g hg),by simp,by simp;omega,by omega⟩,λL E O=>?_⟩
  refine⟨?_,(Fm.of gt).trans (O.less eM)⟩;have ao:=E.less aO eM;rw[zalab,zalbm] at ao;rw[a.NC.2.2];simpa using ao
 have A{G}(h:G:=by
 have hpl2:ps.length<=20000:=LM;clear aa ak bv bF bm aA c1 g6
 generalize a.p=p at *
 generalize a.kd=kd at *
 generalize a.ks=al at *
 generalize namesT a.tr false=aR at *
 have A{G}(h:G:=by
 have ba:=hide bz;have eW:=hide hB;have xi:Hid (w1.cell? (LD aI 0)=some (.map (some aw))):=Md bz n0;have A{G}(h:G:=by
 have aE:LX w1 w1.drew:=O4.drew;refine MR 8 (λX=>LX w1 X) Nw ?_;obtain⟨wd,cb⟩:∃ wd,wd=w1.drew:=⟨_,rfl⟩;rw[<-cb] at aE ⊢;clear cb;refine aqV ?_;refine uc 1 (.map (some aw)) rfl (zalad ⟨by kernel_rfl,λX aB=>by have aJ:=Md aB xi.out;go_simp⟩) aE ?_
 have A{G}(h:G:=by
 have eB:=ba.out.size;refine Qh 5 λK U=>?_;go_simp;refine cm (Lu jw wd (ba.out.trans (aE.mono ba.out.size))) ?_;rintro e dA ⟨⟨u,rfl,aS⟩,GO⟩;have cP:LX w1 dA:=aE.trans (GO.mono aE.size);have ip:Na w.heap.size dA u aR:=Ob aS (zalan eB aE.size);have oe:∀ g,u.ownBlock=some g->w1.heap.size<=g:=λg hg=>zalan aE.size (Me aS g hg).2;obtain⟨dF,dG,hF⟩:=LZ aS;refine ad2 ?_;clear U K;subst hF;have pO:=hide oe;clear oe
 refine uh 6 (.agg #[LJ (aL.length:Int),.slice dF aR.length dG,L9 false]) cP ?_;have nJ:=hide (put_any (aL.length:Int) dF aR.length dG false (.slice (some (LD g 0)) ps.length cap) ps.length (rgCells ps) w.heap.size dA (Md cP mI.out) (L8 (I:=λ_=>True) (λb _ ab=>(ba.out.trans (cP.mono ba.out.size)).block b ab) (λ_ _=>trivial) dv.out.1) ee LM dv.out.ones);refine Qh 7 λK U=>?_;have A{G}(h:G:=by
 have oc:bn.ownsRow w.heap.size 116 3 b0 (ps.length+1) (rgCells ps++[LJ (aL.length:Int),.slice dF aR.length dG,L9 false]):=Qj gN (zalan eB cP.size);have A{G}(h:G:=by
 have A{G}(h:G:=by
 have gX:=hide oc;have kJ:=hide hne5;have d5:=hide ec;have nN:=hide cP;clear o4 hne5;refine Qh 8 λK U=>?_;have A{G}(h:G:=by
 have gf:wz.ownsRow w.heap.size 116 3 (.slice va (ps.length+1) ck) (ps.length+1) (rgCells ps++[LJ (aL.length:Int),.slice dF aR.length dG,L9 false]):=
  L8 (I:=λb=>dA.heap.size<=b) (λb D _=>hset b (by have E:=(Lu nN).size;have O:dA.heap.size<=b:=D;omega)) (λb D=>(Lu kJ b D).2) gX.out
 have jd:Na w.heap.size wz (.slice dF aR.length dG) aR:=
  L8 (I:=λb=>w1.heap.size<=b) (λb D _=>hset b (by have O:w1.heap.size<=b:=D;omega)) (λb D=>Lu pO b D) nx.out
 have A{G}(h:G:=by
 go_loopw [213] (λi wr=>∃ k:Nat,k<=al.length/\i=LJ k/\Sz (λb=>I b\/(w.heap.size<=b/\b<wz.heap.size)) aI aw be aZ aK (ah++Rh (rl m) ((al.take k).map Ad.tr) (aL++[p]).length (((ps++[(Value.slice dF aR.length dG,(⟨aL.length,aR,false⟩:Sc))]).map Prod.snd).reverse) st) wr/\Fm (λb=>I b\/(w.heap.size<=b/\b<wz.heap.size)) wz wr) (λi _=>al.length - (intOf i).toNat)
 case atStart=>exact⟨0,zalae _,rfl,by simpa[Rh] using fv.out.rw,Fm.refl _ _⟩
 case round=>exact YQ):=LG h;exact aAL):=LG h;go_simp;exact aAw):=LG h;exact aAf):=LG h;exact aBd):=LG h;exact aAA):=LG h;exact aAj):=LG h;exact aBe):=LG h;exact azS):=LG h;exact aBX):=LG h;exact zsw):=LG h;exact aqH
def rl9 {m:Nat}(ce:WalkC m)(a x y:Ad)(bd:a.ks=[x,y])(aA:a.cnt<=m+1)(I:Nat->Prop)(aI aw be aZ:Nat)(aK aL post:List Nat)(ah:List Us)(v:LY)(ps:List (LY × Sc))(st:Bool)(w:LK)
  (bv:aK=aL++(a.N9++post)) (aO:Sz I aI aw be aZ aK ah w) (aa:MZ I w a) (ak:a.tr.ill=0) (c6:WS a.tr) (a7:RR I w v ps) (ee:0<ps.length) (bF:ps.length+a.cnt<=20000) (bm:ah.length+a.cnt<=20000)
  (dt:a.kd=9) :
  MC 70 #[LC a.p,v,L9 st,MX aI,MX be,MX aZ] w λe w'=>e=MN (.tuple #[])/\Sz I aI aw be aZ aK (ah++(rl m x.tr (aL.length+1) ((ps.map Prod.snd).reverse) st++rl m y.tr (aL.length+1+x.tr.count) (⟨0,[],true⟩::(ps.map Prod.snd).reverse) st)) w'/\Fm I w w':=by
 obtain⟨_,dq,c0,_⟩:=aa.cells;rw[dt] at c0;obtain⟨dn,cap2,c3,n7,dH,aW,Ct⟩:=aa.anw bd;have af:=aa.parts x (by rw[bd];simp)
 have hy:=aa.parts y (by rw[bd];simp)
 have i7:w.cell? (LD a.p 3)=some (.slice (some (LD dn 0)) 2 cap2):=c3;clear c3;have hcnt:=OA a;rw[bd,Ad.cnts,Ad.cnts,Ad.cnts] at hcnt;obtain⟨g,cap,k7,_,_⟩:=a7.1.form ee;subst k7;have jB:aK=(aL++[a.p])++(x.N9++(y.N9++post)):=by rw[bv,P9 a,bd,Ad.Nv,Ad.Nv,Ad.Nv];simp
 have mQ:aK=(aL++[a.p]++x.N9)++(y.N9++post):=by rw[jB];simp
 have yX:(aL++[a.p]).length=aL.length+1:=by simp
 have r6:(aL++[a.p]++x.N9).length=aL.length+1+x.tr.count:=by rw[zalab,yX,Ad.Qk,Ad.ND]
 have ki:=Ot ak x (by rw[bd];simp)
 have Cv:=Ot ak y (by rw[bd];simp)
 have k8:WS x.tr:=c6.part (by rw[bd];simp)
 have H4:WS y.tr:=c6.part (by rw[bd];simp)
 have CB:=Zv m x.tr (aL.length+1) ((ps.map Prod.snd).reverse) st;rw[x.ND] at CB;have cy:Hid (∀ (wd:LK),LX w wd->MC 70 #[LC x.p,.slice (some (LD g 0)) ps.length cap,L9 st,MX aI,MX be,MX aZ] wd λe w'=>e=MN (.tuple #[])/\Sz (λb=>I b\/(w.heap.size<=b/\b<wd.heap.size)) aI aw be aZ aK (ah++rl m x.tr (aL.length+1) ((ps.map Prod.snd).reverse) st) w'/\Fm (λb=>I b\/(w.heap.size<=b/\b<wd.heap.size)) wd w'):=λwd D=>by
  have h:=ce x LM (λb=>I b\/(w.heap.size<=b/\b<wd.heap.size)) aI aw be aZ aK _ _ ah (.slice (some (LD g 0)) ps.length cap) ps st wd jB (aO.more D) (MZ.mono (λb D _=>zalad D) _ (MZ.later (λb _ ab=>D.block b ab) _ af)) ki k8 ((a7.later (λb _ ab=>D.block b ab)).mono λb D=>zalad D) ee LM LM;rw[yX] at h;exact h
 have fb:Hid (∀ (wd w2 bn:LK) (b0:LY),LX w wd->Sz (λb=>I b\/(w.heap.size<=b/\b<wd.heap.size)) aI aw be aZ aK (ah++rl m x.tr (aL.length+1) ((ps.map Prod.snd).reverse) st) w2->Fm (λb=>I b\/(w.heap.size<=b/\b<wd.heap.size)) wd w2->LX w2 bn ->
   bn.ownsRow w2.heap.size 116 3 b0 (ps.length+1) (rgCells ps++[LJ 0,QJ,L9 true]) ->
   MC 70 #[LC y.p,b0,L9 st,MX aI,MX be,MX aZ] bn λe w'=>e=MN (.tuple #[])/\Sz I aI aw be aZ aK (ah++(rl m x.tr (aL.length+1) ((ps.map Prod.snd).reverse) st++rl m y.tr (aL.length+1+x.tr.count) (⟨0,[],true⟩::(ps.map Prod.snd).reverse) st)) w'/\Fm I w w'):=λwd w2 bn b0 D hA BQ ec gN=>by
  obtain⟨J,c7⟩:∃ J:Nat->Prop,J=λb=>I b\/(w.heap.size<=b/\b<wd.heap.size):=⟨_,rfl⟩;rw[<-c7] at hA BQ;have eM:∀ b,I b->J b:=λb D=>by rw[c7];exact zalad D
  have vq:Fm I w w2:=(Fm.of D).trans (BQ.less eM);have tm:Fm I w bn:=vq.trans (Fm.of ec);have g0:=D.size;have h:=ce y LM (λb=>J b\/(w2.heap.size<=b/\b<bn.heap.size)) aI aw be aZ aK _ _ _ b0 (ps++[(QJ,⟨0,[],true⟩)]) st bn mQ (hA.more ec) (MZ.mono (λb D _=>zalad (eM b D)) _ (MZ.later tm.stay _ hy)) Cv H4
   (a7.push tm.stay (λb D=>zalad (eM b D)) (Qj gN (zalae _)) (λg hg=>by have E:=Me gN g hg;exact zalal ⟨E.2,E.1⟩) (Ql _ _) (λg hg=>by cases hg) MP) MP OM (by rw[zalab];omega)
  rw[r6] at h;refine h.mono ?_;rintro e cM ⟨rfl,E,O⟩;refine⟨rfl,?_,tm.trans (O.less λb D=>zalad (eM b D))⟩;have ao:=E.less aO (λb D=>zalad (eM b D));rw[zalax] at ao;simpa using ao
 have w5:Hid (I aZ/\I a.p/\I dn):=⟨aO.inb.2.2,aa.cells.1,Ct⟩;have dv:=hide a7;have fC:=lt_of_heap aO.wlk;have dx:w.cell? (LD aZ 0)=some (wkV aI be aZ):=by rw[cell_of aO.wlk];rfl
 have fW:=an1;have hpl2:ps.length<=20000:=LM;clear ak bv jB mQ bF bm aA ki Cv CB hcnt yX r6
 generalize rl m x.tr (aL.length+1) ((ps.map Prod.snd).reverse) st=iK at *
 generalize rl m y.tr (aL.length+1+x.tr.count) (⟨0,[],true⟩::(ps.map Prod.snd).reverse) st=xm at *
 generalize a.p=p at *
 generalize x.p=na at *
 generalize y.p=gO at *
 have uI:=hide dH;have jt:=hide aW;have cK:=hide i7;have fZ:=hide dx;clear dH aW i7 dx bd dt;go_enter func70,ntmps70;go_wp2_with fail;have A{G}(h:G:=by
 have bz:LX w w1:=by rw[c9];exact Qn
 have hB:w1.heap[w.heap.size]? = some (NK #[.slice (some (LD g 0)) ps.length cap] 114):=by rw[c9];exact LP _ _
 rw[<-c9];clear c9 c0;have eW:=hide hB;obtain⟨wd,cb⟩:∃ wd,wd=w1.drew:=⟨_,rfl⟩;have aE:LX w1 wd:=by rw[cb];exact O4.drew
 have eO:LX w wd:=bz.trans (aE.mono bz.size);have Cc:wd.heap[w.heap.size]? = some (NK #[.slice (some (LD g 0)) ps.length cap] 114):=by rw[aE.block _ (lt_of_heap hB)];exact hB
 have iW:wd.cell? (LD w.heap.size 0)=some (.slice (some (LD g 0)) ps.length cap):=by rw[cell_of Cc];rfl
 have bH:=Md eO fZ.out;have a8:=Md eO cK.out;have eI:=Md eO uI.out;have hX:=hide eO;have sm:=cell_lt iW;have l1:=cell_lt bH;have l2:=cell_lt a8;have l3:=cell_lt eI;refine MR 9 (λX=>X=wd) Nw ?_;rw[<-cb];clear cb hB Cc;refine uc 0 (wkV aI be aZ) rfl (zalad ⟨by kernel_rfl,λX aB=>by cases aB;go_simp⟩) rfl ?_
 refine uh 1 (LC p) rfl ?_;refine uh 2 (LC p) rfl ?_;refine uh 3 (Mc p 3) rfl ?_;refine uc 4 (.slice (some (LD dn 0)) 2 cap2) rfl (zalad ⟨by kernel_rfl,λX aB=>by cases aB;go_simp⟩) rfl ?_
 refine uc 5 (Mc dn 0) rfl (zalad ⟨by kernel_rfl,λX aB=>by cases aB;go_simp⟩) rfl ?_
 refine uc 6 (LC na) rfl (zalad ⟨by kernel_rfl,λX aB=>by cases aB;go_simp⟩) rfl ?_
 refine uc 7 (.slice (some (LD g 0)) ps.length cap) rfl (zalad ⟨by kernel_rfl,λX aB=>by cases aB;go_simp⟩) rfl ?_
 refine uh 8 (L9 st) rfl ?_;refine Qh 9 λK U=>?_;go_simp;refine cm (Lu cy wd hX.out) ?_;rintro e w2 ⟨rfl,bW,hh⟩;refine zlm ?_;clear U K;refine UW Nw ?_ _;have f6:=hide bW;have wO:=hide hh;have k0:w2.cell? (LD w.heap.size 0)=some (.slice (some (LD g 0)) ps.length cap):=by rw[hh.cell (zalal ⟨Nh,sm⟩) sm];exact iW
 have a9:w2.cell? (LD aZ 0)=some (wkV aI be aZ):=by rw[hh.cell (zalad w5.out.1) l1];exact bH
 have bD:w2.cell? (LD p 3)=some (.slice (some (LD dn 0)) 2 cap2):=by rw[hh.cell (zalad w5.out.2.1) l2];exact a8
 have b8:w2.cell? (LD dn 1)=some (LC gO):=by rw[hh.cell (zalad w5.out.2.2) l3];exact Md hX.out jt.out
 have EY:Hid (w2.ownsRow 0 116 3 (.slice (some (LD g 0)) ps.length cap) ps.length (rgCells ps)):=
  L8 (I:=I) (w:=w) (λb D ab=>(hh.stay b (zalad D) (zalau ab hX.out.size)).trans (hX.out.block b ab)) dv.out.2.1 dv.out.1
 have mG:=hide k0;have fu:=hide a9;have e3:=hide bD;have em:=hide b8;clear k0 a9 bD b8 iW bH a8 eI sm l1 l2 l3;go_simp;go_wp2_with fail;have aE:LX w2 w2.drew:=O4.drew;refine MR 11 (λX=>LX w2 X) Nw ?_;obtain⟨zI,hwd2⟩:∃ zI,zI=w2.drew:=⟨_,rfl⟩;rw[<-hwd2] at aE ⊢;clear hwd2;refine uc 0 (wkV aI be aZ) rfl (zalad ⟨by kernel_rfl,λX aB=>by have aJ:=Md aB fu.out;go_simp⟩) aE ?_
 refine uh 1 (LC p) aE ?_;refine uh 2 (LC p) aE ?_;refine uh 3 (Mc p 3) aE ?_;refine uc 4 (.slice (some (LD dn 0)) 2 cap2) rfl (zalad ⟨by kernel_rfl,λX aB=>by have aJ:=Md aB e3.out;go_simp⟩) aE ?_
 refine uc 5 (Mc dn 1) rfl (zalad ⟨by kernel_rfl,λX aB=>by go_simp⟩) aE ?_;refine uc 6 (LC gO) rfl (zalad ⟨by kernel_rfl,λX aB=>by have aJ:=Md aB em.out;go_simp⟩) aE ?_
 refine uh 7 (.func (.func 71) #[] #[Mc w.heap.size 0]) aE ?_;refine uh 8 (.agg #[LJ 0,QJ,L9 true]) aE ?_;refine uh 10 (L9 st) aE ?_;have nJ:=hide (put_any 0 none 0 0 true (.slice (some (LD g 0)) ps.length cap) ps.length (rgCells ps) w.heap.size zI (Md aE mG.out) (L8 (I:=λ_=>True) (λb _ ab=>aE.block b ab) (λ_ _=>trivial) EY.out) ee LM dv.out.ones);refine Qh 9 λK U=>?_;go_simp;refine cm nJ.out ?_;rintro e bn ⟨⟨b0,rfl,gN⟩,ec⟩;have dK:LX w2 bn:=aE.trans (ec.mono aE.size)
 have gS:=hide (Lu fb wd w2 bn b0 hX.out f6.out wO.out dK (Qj gN aE.size));obtain⟨va,ck,rfl⟩:=LZ gN;refine an0 ?_;clear U K;refine Qh 11 λK U=>?_;go_simp;refine cm gS.out ?_;rintro e cM ⟨rfl,h6⟩;refine zlm ?_;clear U K;refine UW Nw ?_ _;have aG:=hide h6;clear h6;go_simp;go_wp2_with fail
 first
 | (go_end0;exact⟨rfl,aG.out⟩)
 | exact Ug (v:=.tuple #[]) ⟨rfl,aG.out⟩):=LG h;exact aqC
def WS.func {a:Ad}(h:WS a.tr)(N:MF a.tr=true):∃ x y,a.ks=[x,y]:=by
 obtain⟨Nm,c,h⟩:=h;obtain⟨x,y,e,_⟩:=aed h N;exact ayW
section
variable {P:Program} {bU:Region.Mode} {ops:Array Oper} {Q:Exit->Act->LK->Prop} {S:LK->Prop} {b:Nat}
def uz2 {n:Nat}{listed listed':Array Bool}{a ik:Act}{w:LK}(h:PS P bU ops Q S b n listed' ik w)(E:listed=listed':=by kernel_rfl)(O:a=ik:=by kernel_rfl):PS P bU ops Q S b n listed a w:=by
 subst E O;exact h
def an9 {m:Nat}(ce:WalkC m)(a x y:Ad)(bd:a.ks=[x,y])(aA:a.cnt<=m+1)(I:Nat->Prop)(aI aw be aZ:Nat)(aK aL post:List Nat)(ah:List Us)(ps:List (LY × Sc))(st:Bool)(w:LK)
  (bv:aK=aL++(a.N9++post)) (aO:Sz I aI aw be aZ aK ah w) (aa:MZ I w a) (ak:a.tr.ill=0) (c6:WS a.tr) (bF:ps.length+a.cnt<=20000) (bm:ah.length+a.cnt<=20000)
  (dj:Option Addr) (cY:Nat) (hrow:w.ownsRow 0 22 1 (.slice dj y.ks.length cY) (y.ks.map Ad.p).length ((y.ks.map Ad.p).map LC)) (vZ:∀ g,(Value.slice dj y.ks.length cY).ownBlock=some g->I g)
  (f9:List (LY × Sc)) (v1:LY) (w1:LK) (a7:RR (λb=>I b\/(w.heap.size<b/\b<w1.heap.size)) w1 v1 f9) (hD:f9.length<=ps.length+1)
  (rX:(f9.map Prod.snd).reverse=if a.tr.kd==37 && !decide (a.tr.tx=LH) then ⟨aL.length,[a.tr.tx],false⟩::(ps.map Prod.snd).reverse else (ps.map Prod.snd).reverse)
  (aR:List LW) (aN:aR=(NI (x.tr.kids.map Tr.tx)++[Nr])++namesT y.tr true) (qk:aR.length<=90000) (eK iF:Bool) (qu:eK=VT y.tr.kids) (hst2:iF=(st||decide (y.tr.tx=Nq)))
  (wz:LK) (b0 nv:LY) (J:Nat->Prop) (c7:J=(λb=>I b\/(w.heap.size<=b/\b<wz.heap.size))) (gt:LX w wz) (bK:w1.heap.size<=wz.heap.size) (d7:∀ b,b≠w.heap.size->b<w1.heap.size->wz.heap[b]? = w1.heap[b]?) (hbox:wz.heap[w.heap.size]? = some (NK #[b0] 114))
  (gf:wz.ownsRow w.heap.size 116 3 b0 (f9.length+1) (rgCells f9++[LJ (aL.length:Int),nv,L9 (eK && !iF)])) (jd:Na w.heap.size wz nv aR) :
  KL m J aI aw be aZ w.heap.size aK (aL++[a.p]++x.N9++[y.p]) post ah b0 (f9++[(nv,⟨aL.length,aR,eK && !iF⟩)]) y.ks dj cY wz /\
   ∀ L,Sz J aI aw be aZ aK (ah++Rh (rl m) (y.ks.map Ad.tr) (aL++[a.p]++x.N9++[y.p]).length (((f9++[(nv,(⟨aL.length,aR,eK && !iF⟩:Sc))]).map Prod.snd).reverse) iF) L->Fm J wz L ->
    Sz I aI aw be aZ aK (ah++Rh (rl m) y.tr.kids (aL.length+1+x.tr.count+1) (aal a.tr x.tr y.tr aL.length ((ps.map Prod.snd).reverse) st) (st||decide (y.tr.tx=Nq))) L/\Fm I w L:=by
 have eM:∀ b,I b->J b:=λb D=>by rw[c7];exact zalad D
 have bB:Pq I w wz:=λb _ ab=>gt.block b ab;have hst1:Pq (λb=>I b\/(w.heap.size<b/\b<w1.heap.size)) w1 wz:=λb D ab=>by
  refine d7 b ?_ ab
  rcases D with D|D
  ·have:=(aO.ne b D).1;omega
  ·omega
 have Gw:∀ b,(I b\/(w.heap.size<b/\b<w1.heap.size))->J b:=λb D=>by
  rw[c7]
  rcases D with D|D
  ·exact zalad D
  ·exact zalal ⟨by omega,by omega⟩
 have hcnt:=OA a;rw[bd,Ad.cnts,Ad.cnts,Ad.cnts] at hcnt;have yo:=OA y;have m1:=Ud x;have gs:=lt_of_heap hbox;have k':y ∈ a.ks:=by rw[bd];simp
 have pd:(aL++[a.p]++x.N9++[y.p]).length=aL.length+1+x.tr.count+1:=by simp[Ad.Qk,Ad.ND];omega
 refine⟨⟨ce,?_,by rw[c7];exact aO.more gt,⟨hbox,by rw[c7];exact zalal ⟨Nh,gs⟩⟩,
  a7.push hst1 Gw (Qj gf (zalae _)) (λg hg=>by have E:=Me gf g hg;rw[c7];exact zalal ⟨E.2,E.1⟩) (Ob jd (zalae _)) (λg hg=>by have E:=Me jd g hg;rw[c7];exact zalal ⟨E.2,E.1⟩) qk,
  λk N=>⟨by have E:=Ua N;omega,MZ.mono (λb D _=>eM b D) _ (MZ.later bB _ ((aa.parts y k').parts k N)),Ot (Ot ak y k') k N,(c6.part k').part N⟩,
  L8 bB vZ hrow,λg hg=>eM g (vZ g hg),by simp,by simp;omega,by omega⟩,λL E O=>?_⟩
 ·rw[bv,P9 a,bd,Ad.Nv,Ad.Nv,Ad.Nv,P9 y];simp
 ·refine⟨?_,(Fm.of gt).trans (O.less eM)⟩;have ao:=E.less aO eM;rw[pd] at ao;have aW:((f9++[(nv,(⟨aL.length,aR,eK && !iF⟩:Sc))]).map Prod.snd).reverse=aal a.tr x.tr y.tr aL.length ((ps.map Prod.snd).reverse) st:=by
   rw[zalam,zalgr,rX,aN,qu,hst2];rfl
  rw[aW,hst2] at ao;rw[y.NC.2.2];exact ao
def aFa {H G:LK->LY->LY->LY->LY->LY->Prop}{goal:Prop}(E:(∀ w a b c d e,H w a b c d e->G w a b c d e)->goal)(O:∀ w a b c d e,H w a b c d e->G w a b c d e):goal:=E O
def asJ {G:Prop}(h:G:=by
 refine uq2 5 6 (λK U=>?_) (λK U=>?_)
 ·go_simp;refine cm (Lu Au wd (hq.out.trans (aE.mono hq.out.size))) ?_;rintro e kR ⟨⟨u5,rfl,aS⟩,D⟩;have cP:LX cN kR:=aE.trans (D.mono aE.size);have bw:Na cN.heap.size kR u5 mM:=Ob aS aE.size;refine ad2 ?_;clear U K aS D;refine Qh 6 (λK U=>?_)
  ·go_simp;have eN:LX cN (kR.alloc (.cells #[LQ ⟨#[97,114,103,117,109,101,110,116,115]⟩] 9)):=cP.alloc cP.size _;have h6:Na cN.heap.size (kR.alloc (.cells #[LQ ⟨#[97,114,103,117,109,101,110,116,115]⟩] 9)) (.slice (some (LD kR.heap.size 0)) 1 1) [Nr]:=⟨rfl,zalal ⟨kR.heap.size,1,#[LQ ⟨#[97,114,103,117,109,101,110,116,115]⟩],rfl,cP.size,LP _ _,Nh,by decide,rfl,rfl⟩⟩;replace bw:=Na.later bw ((zalbd kR.heap.size kR).alloc Nh (.cells #[LQ ⟨#[97,114,103,117,109,101,110,116,115]⟩] 9))
   refine U.out _ _ (λ_=>eN) ?_;clear U K cP;obtain⟨uk,r'⟩:∃ s:LY,s=.slice (some (LD kR.heap.size 0)) 1 1:=⟨_,rfl⟩;obtain⟨xn,aB⟩:∃ L,L=(kR.alloc (.cells #[LQ ⟨#[97,114,103,117,109,101,110,116,115]⟩] 9)):=⟨_,rfl⟩;rw[<-aB] at eN h6 bw ⊢;rw[<-r'] at h6 ⊢;clear aB r';refine Qh 7 (λK U=>?_)
   ·refine RU rfl _ _ 38 rfl cN.heap.size _ 9 a6 (LQ ByteArray.empty) 16 zalde b4 bL bM bP rfl _ _ _ rfl bw _ _ _ rfl h6 (SY [Nr]) (by have:=Lu e4;unfold maxLen;simp;omega) (by have:=Lu e4;simp;omega) eN.size ?_
    intro u7 rB aS cS;have eo:LX cN rB:=eN.grown cS eN.size (λk N=>(Me bw k N).2);have h7:Na cN.heap.size rB u7 (mM++[Nr]):=aqr
    refine alD ?_;clear U K aS cS eN bw h6;refine Qh 9 (λK U=>?_)
    ·go_simp;refine cm (Lu jw rB (hq.out.trans (eo.mono hq.out.size))) ?_;rintro e s5 ⟨⟨u9,rfl,aS⟩,D⟩;have fe:LX cN s5:=eo.trans (D.mono eo.size);have dt:Na cN.heap.size s5 u9 mN:=Ob aS eo.size;replace h7:=Na.later h7 D;refine ah9 ?_;clear U K aS D eo;refine Qh 10 (λK U=>?_)
     ·refine RU rfl _ _ 38 rfl cN.heap.size _ 9 a6 (LQ ByteArray.empty) 16 zalde b4 bL bM bP rfl _ _ _ rfl h7 _ _ _ rfl dt (SY mN) (by have:=Lu e4;unfold maxLen;simp;omega) (by have:=Lu e4;simp;omega) fe.size ?_
      intro u10 rC aS cS;have dK:LX cN rC:=fe.grown cS fe.size (λk N=>(Me h7 k N).2);have eL:Na cN.heap.size rC u10 ((mM++[Nr])++mN):=aqr
      refine an0 ?_;clear U K aS cS fe h7 dt;exact ez rC u5 uk u7 u9 u10 ⟨dK,eL⟩
 ·go_simp;have gb:LX cN (wd.alloc (.cells #[LQ ⟨#[97,114,103,117,109,101,110,116,115]⟩] 9)):=aE.alloc aE.size _;have h6:Na cN.heap.size (wd.alloc (.cells #[LQ ⟨#[97,114,103,117,109,101,110,116,115]⟩] 9)) (.slice (some (LD wd.heap.size 0)) 1 1) [Nr]:=⟨rfl,zalal ⟨wd.heap.size,1,#[LQ ⟨#[97,114,103,117,109,101,110,116,115]⟩],rfl,aE.size,LP _ _,Nh,by decide,rfl,rfl⟩⟩;refine U.out _ _ (λ_=>gb) ?_;clear U K;obtain⟨uk,r'⟩:∃ s:LY,s=.slice (some (LD wd.heap.size 0)) 1 1:=⟨_,rfl⟩
  obtain⟨vi,aB⟩:∃ L,L=(wd.alloc (.cells #[LQ ⟨#[97,114,103,117,109,101,110,116,115]⟩] 9)):=⟨_,rfl⟩;rw[<-aB] at gb h6 ⊢;rw[<-r'] at h6 ⊢;clear aB r';refine Qh 5 (λK U=>?_)
  ·go_simp;refine cm (Lu Au vi (hq.out.trans (gb.mono hq.out.size))) ?_;rintro e s6 ⟨⟨u5,rfl,aS⟩,D⟩;have jD:LX cN s6:=gb.trans (D.mono gb.size);have bw:Na cN.heap.size s6 u5 mM:=Ob aS gb.size;replace h6:=Na.later h6 D;refine U.out _ _ (λ_=>jD) ?_;clear U K aS D gb;refine Qh 7 (λK U=>?_)
   ·refine RU rfl _ _ 38 rfl cN.heap.size _ 9 a6 (LQ ByteArray.empty) 16 zalde b4 bL bM bP rfl _ _ _ rfl bw _ _ _ rfl h6 (SY [Nr]) (by have:=Lu e4;unfold maxLen;simp;omega) (by have:=Lu e4;simp;omega) jD.size ?_
    intro u7 rD aS cS;have jE:LX cN rD:=jD.grown cS jD.size (λk N=>(Me bw k N).2);have h7:Na cN.heap.size rD u7 (mM++[Nr]):=aqr
    refine U.out _ _ (λ_=>jE) ?_;clear U K aS cS jD bw h6;refine Qh 9 (λK U=>?_)
    ·go_simp;refine cm (Lu jw rD (hq.out.trans (jE.mono hq.out.size))) ?_;rintro e s7 ⟨⟨u9,rfl,aS⟩,D⟩;have mU:LX cN s7:=jE.trans (D.mono jE.size);have dt:Na cN.heap.size s7 u9 mN:=Ob aS jE.size;replace h7:=Na.later h7 D;refine U.out _ _ (λ_=>mU) ?_;clear U K aS D jE;refine Qh 10 (λK U=>?_)
     ·refine RU rfl _ _ 38 rfl cN.heap.size _ 9 a6 (LQ ByteArray.empty) 16 zalde b4 bL bM bP rfl _ _ _ rfl h7 _ _ _ rfl dt (SY mN) (by have:=Lu e4;unfold maxLen;simp;omega) (by have:=Lu e4;simp;omega) mU.size ?_
      intro u10 rA aS cS;have B1:LX cN rA:=mU.grown cS mU.size (λk N=>(Me h7 k N).2);have eL:Na cN.heap.size rA u10 ((mM++[Nr])++mN):=aqr
      refine U.out _ _ (λ_=>B1) ?_;clear U K aS cS mU h7 dt;exact uz2 (ez rA u5 uk u7 u9 u10 ⟨B1,eL⟩)):G:=h
def aqt {G:Prop}(h:G:=by
 go_loopw [13,165] (λc i wr=>∃ k:Nat,k<=al.length/\i=LJ k/\c=L9 ((al.take k).any λx=>Yo x.tr)/\wr=cN) (λ_ i _=>al.length - (intOf i).toNat)
 case atStart=>exact⟨0,zalae _,rfl,by first|rfl|trivial,by first|rfl|trivial⟩
 case round=>
  obtain⟨k,cq,rfl,am,hw⟩:=hrel;obtain rfl:cN=wr:=hw.symm;clear hw
  generalize qv:((al.take k).any λx=>Yo x.tr)=eK at am
  subst am;have kE:=hide qv;clear qv
  by_cases aC:k<al.length
  ·exact aDT
  ·have cA:k=al.length:=LM;subst cA;rw[zalaq] at kE;have sC:Hid (eK=VT y.tr.kids):=by show _=_;rw[<-z0.out];exact kE.out.symm
   go_wp2_with fail;have aE:LX cN cN.drew:=O4.drew;refine MR 18 (λX=>LX cN X) Nw ?_;obtain⟨wd,cb⟩:∃ wd,wd=cN.drew:=⟨_,rfl⟩;rw[<-cb] at aE ⊢;clear cb;refine aqV ?_;refine uc 1 (.map (some aw)) rfl (zalad ⟨by kernel_rfl,λX aB=>by have aJ:=Md aB sS.out;go_simp⟩) aE ?_
   refine uh 2 (LC p) aE ?_;refine uc 3 (LJ (aL.length:Int)) rfl (zalad ⟨by kernel_rfl,λX aB=>by have aJ:=Lu nC X (hq.out.trans (aB.mono hq.out.size));go_simp⟩) aE ?_
   refine uh 4 (LC p) aE ?_;refine uh 8 (LC gO) aE ?_;refine uh 11 (L9 eK) aE ?_;refine aFa (H:=λdA _ _ _ _ u10=>LX cN dA/\Na cN.heap.size dA u10 ((mM++[Nr])++mN)) (G:=?GB) (λez=>?_) ?_;rotate_left
   ·exact asJ
   intro dA u5 uk u7 u9 nv kg;obtain⟨cP,ip⟩:=kg;obtain⟨aR,aN⟩:∃ aR,aR=(mM++[Nr])++mN:=⟨_,rfl⟩;rw[<-aN] at ip;have qk:aR.length<=90000:=by have E:=Lu e4;rw[aN];simp;omega
   have kK:=hide aN;clear aN;have eB:=hq.out.size;obtain⟨dF,dG,hF⟩:=LZ ip;subst hF;have oe:∀ g,(Value.slice dF aR.length dG).ownBlock=some g->cN.heap.size<=g:=λg hg=>(Me ip g hg).2;have pO:=hide oe;clear oe;refine uh 12 (L9 eK) cP ?_;obtain⟨hO,tD⟩:∃ e:LY,e=if eK=true then L9 true else undef:=⟨_,rfl⟩
   obtain⟨xt,tE⟩:∃ e:LY,e=if eK=true then L9 (!true) else undef:=⟨_,rfl⟩
   have pK:=hide tD;have sD:=hide tE;clear tD tE;refine uh 13 hO cP ?_ (hy:=by
    have ei:=Lu pK;subst ei;cases eK
    ·exact zalal ⟨by kernel_rfl,rfl⟩
    ·exact zalad ⟨by kernel_rfl,λ_ _=>by go_simp⟩)
   refine uh 14 xt cP ?_ (hy:=by
    have ei:=Lu pK;have qh:=Lu sD;subst ei qh;cases eK
    ·exact zalal ⟨by kernel_rfl,rfl⟩
    ·exact zalad ⟨by kernel_rfl,λ_ _=>by go_simp⟩)
   obtain⟨lA,fC⟩:∃ b:Bool,b=(eK && !true):=⟨_,rfl⟩;have kF:=hide fC;clear fC;refine uh 15 (L9 lA) cP ?_ (hy:=by
    have ei:=Lu pK;have qh:=Lu sD;have eX:=Lu kF;subst ei qh eX;cases eK
    ·exact zalad ⟨by kernel_rfl,λ_ _=>by go_simp⟩
    ·exact zalad ⟨by kernel_rfl,λ_ _=>by go_simp⟩)
   refine uh 16 (.agg #[LJ (aL.length:Int),.slice dF aR.length dG,L9 lA]) cP ?_;have nJ:=hide (put_any (aL.length:Int) dF aR.length dG lA _ _ _ w.heap.size dA (Md cP mI.out) (L8 (I:=λ_=>True) (λb _ ab=>cP.block b ab) (λ_ _=>trivial) p0.out.1) kI.out.1 (by have:=Lu kI;omega) p0.out.ones)
   refine Qh 17 λK U=>?_;go_simp;refine cm nJ.out ?_;rintro e bn ⟨⟨b0,rfl,gN⟩,ec⟩;have dK:LX cN bn:=cP.trans (ec.mono cP.size);have mR:=Na.later ip ec;have oc:=Qj gN (zalan eB cP.size);obtain⟨va,ck,rfl⟩:=LZ gN;refine U.out _ _ (λ_=>dK) ?_;have hne5:=Me gN;clear U K gN;obtain⟨qb,mo⟩:∃ qb,bn.heap[w.heap.size]? = some (NK #[qb] 114):=⟨_,by rw[dK.block _ (lt_of_heap eW.out)];exact eW.out⟩
   have ld:bn.cell? (LD w.heap.size 0)=some qb:=by rw[cell_of mo];rfl
   have l0:=Ny mo 0;have oy:=lt_of_heap mo;have hJ:=hide dK;have ry:=hide mo;have nx:=hide mR;have gX:=hide oc;have kJ:=hide hne5;have d5:=hide ec;have nN:=hide cP;clear mo dK mR oc hne5 ec ip cP;refine Qh 18 λK U=>?_;go_simp;refine U.out _ _ (λe=>by cases e) ?_;clear U K;refine UW Nw ?_ _;obtain⟨wz,d7⟩:∃ wz,wz=bn.setCell (LD w.heap.size 0) (.slice va (f9.length+1) ck):=⟨_,rfl⟩;have hset:∀ b,b≠w.heap.size->wz.heap[b]? = bn.heap[b]?:=λb D=>by rw[d7];exact Qu D _
   have gt:LX w wz:=by
    rw[d7];exact(hq.out.trans (hJ.out.mono eB)).setCell (p:=(LD w.heap.size 0)) Nh _
   have bK:cN.heap.size<=wz.heap.size:=by
    rw[d7];have:=hJ.out.size;simpa using this
   have o2:wz.heap[w.heap.size]? = some (NK #[.slice va (f9.length+1) ck] 114):=by rw[d7,heap_set ry.out];rfl
   have j3:w.heap.size<cN.heap.size:=lt_of_heap eW.out;have gf:=L8 (I:=λb=>dA.heap.size<=b) (w':=wz) (λb D _=>hset b (by have E:=(Lu nN).size;have O:dA.heap.size<=b:=D;omega)) (λb D=>(Lu kJ b D).2) gX.out
   have jd:Na w.heap.size wz (.slice dF aR.length dG) aR:=
    Ob (L8 (I:=λb=>cN.heap.size<=b) (λb D _=>hset b (by have O:cN.heap.size<=b:=D;omega)) (λb D=>Lu pO b D) nx.out) eB
   have fC:=Lu kF;rw[fC] at gf;clear fC;have pQ:=hide (Lu pM f9 _ cN p0.out kI.out.2 oG.out aR kK.out qk eK true sC.out dw.out wz _ _ _ rfl gt bK (λb D ab=>(hset b D).trans (hJ.out.block b ab)) o2 gf jd);have ut:wz.cell? (LD gO 3)=some (.slice dj al.length cY):=by
    rw[zalar (w:=bn) (a:=(LD gO 3)) (hset gO LM)];exact Md hJ.out pt
   have je:=cell_lt ut;rw[<-d7];clear d7 hset gt bK o2 gf jd ld l0 oy b8 sl pt;go_simp;go_wp2_with fail;obtain⟨sG,q9⟩:=Lu pQ;have fv:=hide sG;have pL:=hide q9
   go_loopw [198] (λi wr=>∃ k:Nat,k<=al.length/\i=LJ k/\Sz (λb=>I b\/(w.heap.size<=b/\b<wz.heap.size)) aI aw be aZ aK (ah++Rh (rl m) ((al.take k).map Ad.tr) (aL++[p]++x.N9++[gO]).length (((f9++[(Value.slice dF aR.length dG,(⟨aL.length,aR,eK && !true⟩:Sc))]).map Prod.snd).reverse) true) wr/\Fm (λb=>I b\/(w.heap.size<=b/\b<wz.heap.size)) wz wr) (λi _=>al.length - (intOf i).toNat)
   case atStart=>exact⟨0,zalae _,rfl,by simpa[Rh] using fv.out.rw,Fm.refl _ _⟩
   case round=>exact YQ):G:=h
def arq {G:Prop}(h:G:=by
 go_loopw [13,165] (λc i wr=>∃ k:Nat,k<=al.length/\i=LJ k/\c=L9 ((al.take k).any λx=>Yo x.tr)/\wr=cN) (λ_ i _=>al.length - (intOf i).toNat)
 case atStart=>exact⟨0,zalae _,rfl,by first|rfl|trivial,by first|rfl|trivial⟩
 case round=>
  obtain⟨k,cq,rfl,am,hw⟩:=hrel;obtain rfl:cN=wr:=hw.symm;clear hw
  generalize qv:((al.take k).any λx=>Yo x.tr)=eK at am
  subst am;have kE:=hide qv;clear qv
  by_cases aC:k<al.length
  ·exact aDT
  ·have cA:k=al.length:=LM;subst cA;rw[zalaq] at kE;have sC:Hid (eK=VT y.tr.kids):=by show _=_;rw[<-z0.out];exact kE.out.symm
   go_wp2_with fail;have aE:LX cN cN.drew:=O4.drew;refine MR 18 (λX=>LX cN X) Nw ?_;obtain⟨wd,cb⟩:∃ wd,wd=cN.drew:=⟨_,rfl⟩;rw[<-cb] at aE ⊢;clear cb;refine aqV ?_;refine uc 1 (.map (some aw)) rfl (zalad ⟨by kernel_rfl,λX aB=>by have aJ:=Md aB sS.out;go_simp⟩) aE ?_
   refine uh 2 (LC p) aE ?_;refine uc 3 (LJ (aL.length:Int)) rfl (zalad ⟨by kernel_rfl,λX aB=>by have aJ:=Lu nC X (hq.out.trans (aB.mono hq.out.size));go_simp⟩) aE ?_
   refine uh 4 (LC p) aE ?_;refine uh 8 (LC gO) aE ?_;refine uh 11 (L9 eK) aE ?_;refine aFa (H:=λdA _ _ _ _ u10=>LX cN dA/\Na cN.heap.size dA u10 ((mM++[Nr])++mN)) (G:=?GB) (λez=>?_) ?_;rotate_left
   ·exact asJ
   intro dA u5 uk u7 u9 nv kg;obtain⟨cP,ip⟩:=kg;obtain⟨aR,aN⟩:∃ aR,aR=(mM++[Nr])++mN:=⟨_,rfl⟩;rw[<-aN] at ip;have qk:aR.length<=90000:=by have E:=Lu e4;rw[aN];simp;omega
   have kK:=hide aN;clear aN;have eB:=hq.out.size;obtain⟨dF,dG,hF⟩:=LZ ip;subst hF;have oe:∀ g,(Value.slice dF aR.length dG).ownBlock=some g->cN.heap.size<=g:=λg hg=>(Me ip g hg).2;have pO:=hide oe;clear oe;refine uh 12 (L9 eK) cP ?_;obtain⟨hO,tD⟩:∃ e:LY,e=if eK=true then L9 iF else undef:=⟨_,rfl⟩
   obtain⟨xt,tE⟩:∃ e:LY,e=if eK=true then L9 (!iF) else undef:=⟨_,rfl⟩
   have pK:=hide tD;have sD:=hide tE;clear tD tE;refine uh 13 hO cP ?_ (hy:=by
    have ei:=Lu pK;subst ei;cases eK
    ·exact zalal ⟨by kernel_rfl,rfl⟩
    ·exact zalad ⟨by kernel_rfl,λ_ _=>by go_simp⟩)
   refine uh 14 xt cP ?_ (hy:=by
    have ei:=Lu pK;have qh:=Lu sD;subst ei qh;cases eK
    ·exact zalal ⟨by kernel_rfl,rfl⟩
    ·exact zalad ⟨by kernel_rfl,λ_ _=>by go_simp⟩)
   obtain⟨lA,fC⟩:∃ b:Bool,b=(eK && !iF):=⟨_,rfl⟩;have kF:=hide fC;clear fC;refine uh 15 (L9 lA) cP ?_ (hy:=by
    have ei:=Lu pK;have qh:=Lu sD;have eX:=Lu kF;subst ei qh eX;cases eK
    ·exact zalad ⟨by kernel_rfl,λ_ _=>by go_simp⟩
    ·exact zalad ⟨by kernel_rfl,λ_ _=>by go_simp⟩)
   refine uh 16 (.agg #[LJ (aL.length:Int),.slice dF aR.length dG,L9 lA]) cP ?_;have nJ:=hide (put_any (aL.length:Int) dF aR.length dG lA _ _ _ w.heap.size dA (Md cP mI.out) (L8 (I:=λ_=>True) (λb _ ab=>cP.block b ab) (λ_ _=>trivial) p0.out.1) kI.out.1 (by have:=Lu kI;omega) p0.out.ones)
   refine Qh 17 λK U=>?_;go_simp;refine cm nJ.out ?_;rintro e bn ⟨⟨b0,rfl,gN⟩,ec⟩;have dK:LX cN bn:=cP.trans (ec.mono cP.size);have mR:=Na.later ip ec;have oc:=Qj gN (zalan eB cP.size);obtain⟨va,ck,rfl⟩:=LZ gN;refine U.out _ _ (λ_=>dK) ?_;have hne5:=Me gN;clear U K gN;obtain⟨qb,mo⟩:∃ qb,bn.heap[w.heap.size]? = some (NK #[qb] 114):=⟨_,by rw[dK.block _ (lt_of_heap eW.out)];exact eW.out⟩
   have ld:bn.cell? (LD w.heap.size 0)=some qb:=by rw[cell_of mo];rfl
   have l0:=Ny mo 0;have oy:=lt_of_heap mo;have hJ:=hide dK;have ry:=hide mo;have nx:=hide mR;have gX:=hide oc;have kJ:=hide hne5;have d5:=hide ec;have nN:=hide cP;clear mo dK mR oc hne5 ec ip cP;refine Qh 18 λK U=>?_;go_simp;refine U.out _ _ (λe=>by cases e) ?_;clear U K;refine UW Nw ?_ _;obtain⟨wz,d7⟩:∃ wz,wz=bn.setCell (LD w.heap.size 0) (.slice va (f9.length+1) ck):=⟨_,rfl⟩;have hset:∀ b,b≠w.heap.size->wz.heap[b]? = bn.heap[b]?:=λb D=>by rw[d7];exact Qu D _
   have gt:LX w wz:=by
    rw[d7];exact(hq.out.trans (hJ.out.mono eB)).setCell (p:=(LD w.heap.size 0)) Nh _
   have bK:cN.heap.size<=wz.heap.size:=by
    rw[d7];have:=hJ.out.size;simpa using this
   have o2:wz.heap[w.heap.size]? = some (NK #[.slice va (f9.length+1) ck] 114):=by rw[d7,heap_set ry.out];rfl
   have j3:w.heap.size<cN.heap.size:=lt_of_heap eW.out;have gf:=L8 (I:=λb=>dA.heap.size<=b) (w':=wz) (λb D _=>hset b (by have E:=(Lu nN).size;have O:dA.heap.size<=b:=D;omega)) (λb D=>(Lu kJ b D).2) gX.out
   have jd:Na w.heap.size wz (.slice dF aR.length dG) aR:=
    Ob (L8 (I:=λb=>cN.heap.size<=b) (λb D _=>hset b (by have O:cN.heap.size<=b:=D;omega)) (λb D=>Lu pO b D) nx.out) eB
   have fC:=Lu kF;rw[fC] at gf;clear fC;have pQ:=hide (Lu pM f9 _ cN p0.out kI.out.2 oG.out aR kK.out qk eK iF sC.out dw.out wz _ _ _ rfl gt bK (λb D ab=>(hset b D).trans (hJ.out.block b ab)) o2 gf jd);have ut:wz.cell? (LD gO 3)=some (.slice dj al.length cY):=by
    rw[zalar (w:=bn) (a:=(LD gO 3)) (hset gO LM)];exact Md hJ.out pt
   have je:=cell_lt ut;rw[<-d7];clear d7 hset gt bK o2 gf jd ld l0 oy b8 sl pt;go_simp;go_wp2_with fail;obtain⟨sG,q9⟩:=Lu pQ;have fv:=hide sG;have pL:=hide q9
   go_loopw [198] (λi wr=>∃ k:Nat,k<=al.length/\i=LJ k/\Sz (λb=>I b\/(w.heap.size<=b/\b<wz.heap.size)) aI aw be aZ aK (ah++Rh (rl m) ((al.take k).map Ad.tr) (aL++[p]++x.N9++[gO]).length (((f9++[(Value.slice dF aR.length dG,(⟨aL.length,aR,eK && !iF⟩:Sc))]).map Prod.snd).reverse) iF) wr/\Fm (λb=>I b\/(w.heap.size<=b/\b<wz.heap.size)) wz wr) (λi _=>al.length - (intOf i).toNat)
   case atStart=>exact⟨0,zalae _,rfl,by simpa[Rh] using fv.out.rw,Fm.refl _ _⟩
   case round=>exact YQ):G:=h
