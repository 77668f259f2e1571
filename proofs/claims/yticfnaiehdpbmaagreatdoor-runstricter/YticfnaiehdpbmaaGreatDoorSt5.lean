import Derived.Test.YticfnaiehdpbmaaGreatDoorSt4
import Derived.Lib.SliceRun
import Derived.OwnWalk
set_option maxRecDepth 100000
set_option maxHeartbeats 8000000
set_option linter.all false
namespace Go.Proofs.YticfnaiehdpbmaaGreatDoor
open Go.RowKit Go.Proofs.Tryz
def ajK {c:Ctx}{F:Sv}(ah:FC c F)(w:Og)(d i:Nat)(r:PR Tr)(E:(OX c.l i).kd≠6)(ab:UH c.l F d i=r)(aO:r≠.out)(h:PI c w i d):Oq 153 #[O1 c] w (P9 c w d (NV w.heap.size) r):=by
 have jx:=Rh c.R 224;have ov:=hide E;have z:=N8 (∀{G}(h:G:=by
 clear E;have z:=N8 (∀{G}(h:G:=by
 unfold UH at ab;have a':=hide ab;have dp:=hide aO;clear h ab aO;go_enter func153,ntmps153;have z:=N8 (∀{G}(h:G:=by
 have aj:=(PG hd Oh Qv wk ⟨_,_,_,rfl⟩);go_wp2_with fail;refine cm aj ?_;rintro e BL ⟨rfl,rfl⟩;have⟨cO,cP,db⟩:=aaF iV tp (KV.nil _ _) hd Oh _ rfl;have⟨t0,jT⟩:=xE (.mk hd Oh 0 []:Tr);have z:=N8 (∀{G}(h:G:=by
 have iF:aU=wk.heap.size:=by simpa[N7] using gO.symm
 have z:=N8 (∀{G}(h:G:=by
 have⟨e8,im⟩:=xE (wk.alloc (O7 hd Oh 0 Qv));rw[<-im] at en jK kg iS uu;rw[<-iF] at en iS uu;rw[<-im,<-iF];clear im iF
 by_cases nR:hd=11
 ·rw[if_pos (Or.inl nR)] at a';have He:(hd==11)=true:=beq_iff_eq.2 nR;clear nR;have ci:=en;have z:=N8 (∀{G}(h:G:=by
  cases aa:Pn c.l F.vl d (i+1) with
  | out=>
   exact Rl
  | bad er p=>
   have aj:=(Vx ah e8.drew d (i+1) jK.drew (by rw[aa];nofun))
   rw[aa] at aj a';simp only[O9] at a';clear aa;go_wp2_with fail;have z:=N8 (∀{G}(h:G:=by
   have z:=N8 (∀{G}(h:G:=by
   refine wr2 4 8 (fun K D=>?_) fun K D=>?_
   ·go_simp;refine D _ _ ?_;clear D K;refine QF 8 fun K D=>?_;exact atH
   ·exact atH),G);exact amK),G);exact aar
  | ok lF hn=>
   have aj:=(Vx ah e8.drew d (i+1) jK.drew (by rw[aa];nofun))
   rw[aa] at aj a';simp only[bind_ok] at a';clear aa;go_wp2_with fail;refine ace (H:=fun aD cw=>Ap c.R e8.heap.size e8 aD/\PI c aD hn d/\PO (From e8.heap.size) aD lF cw) (G:=?G1) (fun dD=>?_) ?_;rotate_left
   ·have z:=N8 (∀{G}(h:G:=by
    have z:=N8 (∀{G}(h:G:=by
    refine wr2 4 8 (fun K D=>?_) fun K D=>?_
    ·go_simp;refine D _ _ ?_;clear D K;refine QF 8 fun K D=>?_;have z:=N8 (∀{G}(h:G:=by
     have dr:=((Ap.refl c.R e8.heap.size e8).drew).next ay;have kP:Hid (Ap c.R e8.heap.size e8 aD/\PI c aD hn d/\PO (From e8.heap.size) aD lF cw):=⟨dr,ba,jR⟩;exact ayf),G);exact ahn
    ·have z:=N8 (∀{G}(h:G:=by
     have dr:=((Ap.refl c.R e8.heap.size e8).drew).next ay;have kP:Hid (Ap c.R e8.heap.size e8 aD/\PI c aD hn d/\PO (From e8.heap.size) aD lF cw):=⟨dr,ba,jR⟩;exact ayg),G);exact ahn),G);exact amK),G);exact aar
   intro aD cw bJ;obtain⟨dr,ba,jR⟩:=bJ;have e3:=(kg.next dr);have fR:=ba;have eA:=(Open.later ci dr bW.out);have m2:=(Open.apart ci kg.size dr bW.out (Oz.cons jR Oz.nil));obtain⟨gu,gv,hD⟩:=eA.cell;have hlen:=Oz.length _ _ eA.kids;have hown:=eA.row;rw[hlen] at hown;have HOWN:=hown;have da:=e3.size;have cI:t0.kids.length<=3:=by rw[jG.out];decide
   clear hlen;refine QF 10 fun K D=>?_;refine step_append_lies _ rfl _ _ 38 rfl w.heap.size 22 i0 QS 1 8 underlying38 dW dw b8 cn rfl Ol _ _ _ rfl (HOWN.alloc _) (N9 aD.heap.size 0) 1 1 [N7 cw] rfl rfl (Rq aD cw _ rfl) (one_one cw) Ol (by unfold maxLen;omega) Oe QY (aD.heap.size+1) OW ?_
   intro g cap aq hown3 eU c9 _;refine D _ _ ?_;clear D K;have gD:=hide (YQ eA m2 fR e3 iw.out hown3 eU c9);have gi:aq.cell? (N9 aU 3)=aD.cell? (N9 aU 3)/\aq.frozen? (N9 aU 3)=aD.frozen? (N9 aU 3):=ap5
   obtain⟨gM,gN⟩:=gi;rw[gu] at gM;rw[gv 3] at gN;clear c9;refine wt 11 (N7 aU) ?_;refine wt 12 (Oy aU 3) ?_;refine QF 13 fun K D=>?_;go_simp;refine D _ _ ?_;clear D K gM gN gu gv hD;refine wpAny_done Pe ?_ _;go_simp;have⟨cO,cP,db⟩:=NZ gD;have jH:=cO;have cU:=cP;have iO:=db
   cases aa:O6 c.l PY hn with
   | out=>
    exact Rl
   | bad er p=>
    exact atF
   | ok cy bR=>
    exact aDL),G);exact aqc
 ·have He:(hd==11)=false:=beq_eq_false_iff_ne.2 nR;have aj:=(RV c e8 (i+1) d jK)
  by_cases ac:fx c.l (i+1)=PY
  ·rw[if_neg (fun hh=>hh.elim nR (fun U=>U ac))] at a';have sF:((fx c.l (i+1)).toList==[59])=true:=Vz (b:=PY) rfl ac;clear nR ac;have z:=N8 (∀{G}(h:G:=by
   have jH:=ci.ev
   cases aa:O6 c.l PY (i+1) with
   | out=>
    exact Rl
   | bad er p=>
    have aj:=(O5 c PY dF (i+1) d j3 Ol);rw[aa] at aj a';simp only[O9] at a';clear aa;have z:=N8 (∀{G}(h:G:=by
    exact⟨rfl,Qc a'.out.symm (jD.next ay)⟩),G);exact XK
   | ok cy bR=>
    have aj:=(O5 c PY dF (i+1) d j3 Ol);have z:=N8 (∀{G}(h:G:=by
    intro e w1 al;obtain⟨⟨v1,rfl,rfl⟩,ba,ay⟩:=al;have eq:=(jD.next ay);exact aDM),G);exact XM),G);exact atQ
  ·rw[if_pos (Or.inr ac)] at a';have sF:((fx c.l (i+1)).toList==[59])=false:=U6 (b:=PY) rfl ac;clear nR ac;have z:=N8 (∀{G}(h:G:=by
   have z:=N8 (∀{G}(h:G:=by
   cases aa:Pn c.l F.vl d (i+1) with
   | out=>
    exact Rl
   | bad er p=>
    have aj:=(Vx ah dF.drew d (i+1) j3.drew (by rw[aa];nofun))
    rw[aa] at aj a';simp only[O9] at a';clear aa;go_wp2_with fail;have z:=N8 (∀{G}(h:G:=by
    have z:=N8 (∀{G}(h:G:=by
    refine wr2 4 8 (fun K D=>?_) fun K D=>?_
    ·go_simp;refine D _ _ ?_;clear D K;refine QF 8 fun K D=>?_;exact aD3
    ·exact aD3),G);exact amK),G);exact aar
   | ok lF hn=>
    have aj:=(Vx ah dF.drew d (i+1) j3.drew (by rw[aa];nofun))
    rw[aa] at aj a';simp only[bind_ok] at a';clear aa;go_wp2_with fail;refine ace (H:=fun aD cw=>Ap c.R dF.heap.size dF aD/\PI c aD hn d/\PO (From dF.heap.size) aD lF cw) (G:=?G2) (fun dD=>?_) ?_;rotate_left
    ·have z:=N8 (∀{G}(h:G:=by
     have z:=N8 (∀{G}(h:G:=by
     refine wr2 4 8 (fun K D=>?_) fun K D=>?_
     ·go_simp;refine D _ _ ?_;clear D K;refine QF 8 fun K D=>?_;have z:=N8 (∀{G}(h:G:=by
      have dr:=((Ap.refl c.R dF.heap.size dF).drew).next ay;have kP:Hid (Ap c.R dF.heap.size dF aD/\PI c aD hn d/\PO (From dF.heap.size) aD lF cw):=⟨dr,ba,jR⟩;exact ayf),G);exact ahn
     ·have z:=N8 (∀{G}(h:G:=by
      have dr:=((Ap.refl c.R dF.heap.size dF).drew).next ay;have kP:Hid (Ap c.R dF.heap.size dF aD/\PI c aD hn d/\PO (From dF.heap.size) aD lF cw):=⟨dr,ba,jR⟩;exact ayg),G);exact ahn),G);exact amK),G);exact aar
    intro aD cw bJ;obtain⟨dr,ba,jR⟩:=bJ;have e3:=(jD.next dr);have fR:=ba;have eA:=(Open.later ci dr bW.out);have m2:=(Open.apart ci jD.size dr bW.out (Oz.cons jR Oz.nil));obtain⟨gu,gv,hD⟩:=eA.cell;have hlen:=Oz.length _ _ eA.kids;have hown:=eA.row;rw[hlen] at hown;have HOWN:=hown;have da:=e3.size;have cI:t0.kids.length<=3:=by rw[jG.out];decide
    clear hlen;refine QF 10 fun K D=>?_;refine step_append_lies _ rfl _ _ 38 rfl w.heap.size 22 i0 QS 1 8 underlying38 dW dw b8 cn rfl Ol _ _ _ rfl (HOWN.alloc _) (N9 aD.heap.size 0) 1 1 [N7 cw] rfl rfl (Rq aD cw _ rfl) (one_one cw) Ol (by unfold maxLen;omega) Oe QY (aD.heap.size+1) OW ?_
    intro g cap aq hown3 eU c9 _;refine D _ _ ?_;clear D K;have gD:=hide (YQ eA m2 fR e3 iw.out hown3 eU c9);have gi:aq.cell? (N9 aU 3)=aD.cell? (N9 aU 3)/\aq.frozen? (N9 aU 3)=aD.frozen? (N9 aU 3):=ap5
    obtain⟨gM,gN⟩:=gi;rw[gu] at gM;rw[gv 3] at gN;clear c9;refine wt 11 (N7 aU) ?_;refine wt 12 (Oy aU 3) ?_;refine QF 13 fun K D=>?_;go_simp;refine D _ _ ?_;clear D K gM gN gu gv hD;refine wpAny_done Pe ?_ _;go_simp;have⟨cO,cP,db⟩:=NZ gD;have jH:=cO;have cU:=cP;have iO:=db
    cases aa:O6 c.l PY hn with
    | out=>
     exact Rl
    | bad er p=>
     exact atF
    | ok cy bR=>
     exact aDL),G);exact aqc),G);exact atQ),G);exact aE1),G);exact aEI),G);exact aEF),G);exact amL),G);exact amN
namespace Hp
section
variable {H:Nat} {R:List Ot} {w w1:Og} {M:Mo} {aA aB:Ot} {os b':List Ot} {K:Nat}
def aa7:(prog.info? 262).map (fun i=>(i.zero,i.size,i.bytes))=some (some (.agg #[Pm,NY 0,NY 0,Pm,NY 0,Om false]),6,64):=by kernel_rfl
def YX (w:Og)(H:Nat)(fl:w.heap.size=H)(x:Ou)(b:Va)(c:Int)(r:Bool)(j:Nat)(u:Ot)(h:([Oj x,NY b.k,NY b.n,Oj b.s,NY c,Om r]:List Ot)[j]? = some u) :
  (w.alloc (.cells #[Oj x,NY b.k,NY b.n,Oj b.s,NY c,Om r] 262)).cell? (Addr.add (N9 H 0) j)=some u:=by
 subst fl
 match j,h with
 | 0,h=>simp at h;subst h;simp[Addr.add]
 | 1,h=>simp at h;subst h;simp[Addr.add]
 | 2,h=>simp at h;subst h;simp[Addr.add]
 | 3,h=>simp at h;subst h;simp[Addr.add]
 | 4,h=>simp at h;subst h;simp[Addr.add]
 | 5,h=>simp at h;subst h;simp[Addr.add]
 | k+6,h=>simp at h
def abI (x:Ou)(b:Va)(c:Int)(r:Bool):∀ u ∈ ([Oj x,NY b.k,NY b.n,Oj b.s,NY c,Om r]:List Ot),u.oneCell'=true:=by
 intro u aQ;simp at aQ
 rcases aQ with rfl|rfl|rfl|rfl|rfl|rfl <;> rfl
def HP.akh (h:HP H R w M aA aB os b'){i:Nat}{x x':Ro}(az:M.Ov[i]? = some x){v v':Ot}(am:b'[i]? = some v){g cap:Nat}(ao:aB=.slice (some (N9 g 0)) (M.Ov.map Ro.h).length cap)
  (dd:w.grownBy w1 v.ownBlock) (hown:w1.ownsRow H 262 6 v' x'.cs.length (x'.cs.flatMap Ce.h)) (iD:∀ q,v'.ownBlock=some q->v.ownBlock=some q\/w.heap.size<=q) (ac:x'.outer=x.outer/\x'.object=x.object) :
  HP H R (w1.setCell (N9 g (i * 3+2)) v') (M.RD i x') aA aB os (b'.set i v')/\O8 Th H w (w1.setCell (N9 g (i * 3+2)) v'):=by
 have oQ:(M.Ov.map Ro.h)[i]? = some x.h:=by simp[az]
 have f':=h.ro;rw[ao] at f';have aH:=f'.put (OO (lt_of_block h.blk)) oQ am dd hown iD;rw[<-ao] at aH;refine h.ro1 (Ov:=M.Ov.set i x') ?_ aH.2;rw[List.map_set];have:=aH.1;rw[show x'.h=⟨x.h.hd,x'.cs.length,x'.cs.flatMap Ce.h⟩ by simp[Ro.h,ac]];exact this
def aoG (h:HP H R w M aA aB os b')(s:Int)(nm:Ou)(kd:Int)(n:Va)(aO:M.ro s=none) :
  Oq 128 #[Oy H 0,NY s,Oj nm,NY kd,.agg #[NY n.k,NY n.n,Oj n.s]] w fun e w'=>e=OA (.iface 34 (NY 7))/\Oo w w':=by
 obtain⟨h0,h1,aF,hf,hl⟩:=h.c;have hout:s<0\/(M.Ov.length:Int)<=s:=by
  rcases PK M s with ⟨_,h⟩|⟨i,x,rfl,_,h⟩
  ·exact h
  ·rw[aO] at h;cases h
 have aj:=(Xm aB _ (Qj h.ro.row) s (by simpa using hout) (w.alloc (.cells #[NY n.k,NY n.n,Oj n.s] 65)));clear h hout aO;go_enter func128,ntmps128;have z:=N8 (∀{G}(h:G:=by
 go_ret;exact⟨rfl,PE⟩),G);exact aoD
def asq{G:Prop}(h:G:=by
  have e0:Oo w ep:=by rw[sP];exact PE
  have gq:=(h.later e0);obtain⟨dl,bT,cY,fp,nl⟩:=YA (w1:=ep) (by rw[sP];exact QI)
  obtain⟨gH,d8,_,px,tZ⟩:=gq.c;rw[<-sP];have hrow:ep.ownsRow H 198 3 aB M.Ov.length (flat (M.Ov.map Ro.h) b'):=by have:=gq.ro.row;rwa [List.length_map] at this
  clear sP h0 h1 aF hf gH;refine wp_region_any Pe ?_;change wpAny _ _ _ _ _ _ _ (World.drew _);refine wt 0 (Oy H 0) ?_;refine wt 1 (Oy H 0) ?_;refine wt 2 (Oy H 0) ?_;refine wt 3 (Oy H 1) ?_;exact z.o):G:=h
section
variable (h:HP H R w M aA aB os b') (ab:M.Small K) (D:K<=1000000000) (i:Nat) (x:Ro) (az:M.Ov[i]? = some x) (nm:Ou) (kd:Int) (n:Va)
include h ab D i x az nm kd n
def aoH (aO:x.object≠-1) :
  Oq 128 #[Oy H 0,NY (i:Int),Oj nm,NY kd,.agg #[NY n.k,NY n.n,Oj n.s]] w fun e w'=>e=OA (.iface 34 (NY 1))/\Oo w w':=by
 have z:=N8 (∀{G}(h:G:=by
 have kh:=hide (dE 2 v rfl);have sb:=hide hg;have dm:=hide lq;have⟨lA,dW,dw,b8,cn⟩:=info_parts aa7;have bL:=N8 (∀{G}(h:G:=by
 go_ret;exact⟨rfl,e0⟩),G);exact ztf),G);exact aoI
def aiH (aO:x.object = -1)(k:Nat)(c:Ce)(E:fC nm x.cs=some k)(ai:x.cs[k]? = some c) :
  Oq 128 #[Oy H 0,NY (i:Int),Oj nm,NY kd,.agg #[NY n.k,NY n.n,Oj n.s]] w fun e w'=>e=OA (.iface 34 (NY 9))/\Oo w w':=by
 have z:=N8 (∀{G}(h:G:=by
 have q7:=hrow';have kh:=hide (dE 2 v rfl);have sb:=hide hg;have dm:=hide lq;have⟨lA,dW,dw,b8,cn⟩:=info_parts aa7;rw[aO] at pK;obtain⟨iA,m5,rfl,_,_,_⟩:=atC hrow' ai;rw[E] at d7;simp only[aaQ] at d7;clear E ai;have⟨ep,mm⟩:=xH (w.alloc (.cells #[NY n.k,NY n.n,Oj n.s] 65));have Iq:g<ep.heap.size:=by rw[mm.out];exact hg
 rw[show w.alloc (vO n)=ep by rw[mm.out]] at aj d7 pK fl q7 kh sb dm e0;clear dE az h am bi mJ lq hg;go_enter func128,ntmps128;have z:=N8 (∀{G}(h:G:=by
 have bO:=(e0.trans (A.mono e0.size));go_wp2;go_ret;exact⟨rfl,bO⟩),G);exact avT),G);exact aoI
def al9 (aO:x.object = -1)(E:fC nm x.cs=none)(b1:kd=1) :
  Oq 128 #[Oy H 0,NY (i:Int),Oj nm,NY kd,.agg #[NY n.k,NY n.n,Oj n.s]] w fun e w'=>e=OA Qd/\(∃ mO,HP H R w' (M.RD i ⟨x.outer,x.object,x.cs++[⟨nm,n,kd,false⟩]⟩) aA aB os mO)/\O8 Th H w w':=by
 have z:=N8 (∀{G}(h:G:=by
 have z:=N8 (∀{G}(h:G:=by
 subst b1;have z:=N8 (∀{G}(h:G:=by
 refine wt 7 (NY 1) ?_;refine wt 8 (Om false) ?_;refine wr2 4 6 (fun K D=>?ca) fun K D=>?cb
 case' ca=>
  go_simp;refine D _ _ ?_;clear D K;refine QF 6 fun K D=>?_;go_simp;refine D _ _ ?_;clear D K;refine wt 9 (.agg #[Oj nm,NY n.k,NY n.n,Oj n.s,NY 1,Om false]) ?_;refine QF 10 fun K D=>?_;go_simp;refine D _ _ ?_;clear D K
 case' cb=>
  go_simp;refine D _ _ ?_;clear D K;refine wt 9 (.agg #[Oj nm,NY n.k,NY n.n,Oj n.s,NY 1,Om false]) ?_;refine wr2 4 10 (fun K D=>?cc) fun K D=>?cd
 case' cc=>
  go_simp;refine D _ _ ?_;clear D K;refine QF 10 fun K D=>?_;go_simp;refine D _ _ ?_;clear D K
 case' cd=>
  go_simp;refine D _ _ ?_;clear D K;refine QF 4 fun K D=>?_;go_simp;refine D _ _ ?_;clear D K
 all_goals
  refine QF 11 fun K D=>?_;refine step_append_lies _ rfl _ _ 196 rfl H 262 lA _ 6 64 underlying196 dW dw b8 cn rfl Ol _ _ _ rfl (q8.drew.alloc _) (N9 w1.heap.size 0) 1 1 [Oj nm,NY n.k,NY n.n,Oj n.s,NY 1,Om false] rfl rfl (YX _ _ rfl _ _ _ _) (abI _ _ _ _) Ol (by have:=HLEN.out;unfold maxLen;omega) (by have:=HLEN.out;omega) QY (w1.heap.size+1) OW ?_
  intro hE iz aq hown3 eU c9 _;refine D _ _ ?_;clear D K;have dd:w1.grownBy aq v.ownBlock:=Ox (Ox (b:=w1.drew) ⟨rfl,rfl,rfl,Pg,fun _ _ _=>rfl⟩ (World.grownBy_alloc _ _ _)) eU;have aH:=gq.akh (x':=⟨x.outer,x.object,x.cs++[⟨nm,n,1,false⟩]⟩) gC.out bF.out jY.out dd (v':=.slice (some (N9 hE 0)) (x.cs.length+1) iz) (by rw[List.flatMap_append];simpa[Ce.h] using hown3) (fun q ag=>by cases ag;exact c9.imp (fun e=>e) (fun e=>by rw[e];exact Nat.le_succ _)) ⟨rfl,rfl⟩
  have dY:=hide aH;have kB:aq.cell? (N9 g (i * 3+2))=some v/\aq.frozen? (N9 g (i * 3+2))=false:=by
   have cC:some g≠v.ownBlock:=fun e=>by
    have⟨_,_,gK⟩:=gq.ro.nes bF.out;exact(gK g e.symm).2.2.1 (by rw[jY.out];rfl)
   have hbk:=dd.block g dC cC;exact⟨(World.cell?_of_block (w:=w1) (a:=(N9 g (i * 3+2))) hbk).trans fN,(World.frozen?_of_block (w:=w1) (a:=(N9 g (i * 3+2))) hbk).trans hfz1⟩
  obtain⟨rN,rO⟩:=kB;clear aH c9 fN hfz1 dl bT cY fp;refine wt 12 (Oy g (i * 3)) ?_;refine wt 13 (Oy g (i * 3+2)) ?_;refine QF 14 fun K D=>?_;go_simp;refine D _ _ ?_;clear D K;refine wpAny_done Pe ?_ _;go_simp;go_wp2;go_ret;exact⟨rfl,⟨_,dY.out.1⟩,(O8.of bO (OO hl)).trans dY.out.2⟩),G);exact zsz),G);exact avY),G);exact aoI
def aiI (aO:x.object = -1)(E:fC nm x.cs=none)(bU:kd=2) :
  Oq 128 #[Oy H 0,NY (i:Int),Oj nm,NY kd,.agg #[NY n.k,NY n.n,Oj n.s]] w fun e w'=>e=OA Qd/\(∃ mO,HP H R w' (M.RD i ⟨x.outer,x.object,x.cs++[⟨nm,n,kd,false⟩]⟩) aA aB os mO)/\O8 Th H w w':=by
 have z:=N8 (∀{G}(h:G:=by
 have z:=N8 (∀{G}(h:G:=by
 subst bU;have z:=N8 (∀{G}(h:G:=by
 refine wt 7 (NY 2) ?_;refine wt 8 (Om false) ?_;refine wr2 4 6 (fun K D=>?ca) fun K D=>?cb
 case' ca=>
  go_simp;refine D _ _ ?_;clear D K;refine QF 6 fun K D=>?_;go_simp;refine D _ _ ?_;clear D K;refine wt 9 (.agg #[Oj nm,NY n.k,NY n.n,Oj n.s,NY 2,Om false]) ?_;refine QF 10 fun K D=>?_;go_simp;refine D _ _ ?_;clear D K
 case' cb=>
  go_simp;refine D _ _ ?_;clear D K;refine wt 9 (.agg #[Oj nm,NY n.k,NY n.n,Oj n.s,NY 2,Om false]) ?_;refine wr2 4 10 (fun K D=>?cc) fun K D=>?cd
 case' cc=>
  go_simp;refine D _ _ ?_;clear D K;refine QF 10 fun K D=>?_;go_simp;refine D _ _ ?_;clear D K
 case' cd=>
  go_simp;refine D _ _ ?_;clear D K;refine QF 4 fun K D=>?_;go_simp;refine D _ _ ?_;clear D K
 all_goals
  refine QF 11 fun K D=>?_;refine step_append_lies _ rfl _ _ 196 rfl H 262 lA _ 6 64 underlying196 dW dw b8 cn rfl Ol _ _ _ rfl (q8.drew.alloc _) (N9 w1.heap.size 0) 1 1 [Oj nm,NY n.k,NY n.n,Oj n.s,NY 2,Om false] rfl rfl (YX _ _ rfl _ _ _ _) (abI _ _ _ _) Ol (by have:=HLEN.out;unfold maxLen;omega) (by have:=HLEN.out;omega) QY (w1.heap.size+1) OW ?_
  intro hE iz aq hown3 eU c9 _;refine D _ _ ?_;clear D K;have dd:w1.grownBy aq v.ownBlock:=Ox (Ox (b:=w1.drew) ⟨rfl,rfl,rfl,Pg,fun _ _ _=>rfl⟩ (World.grownBy_alloc _ _ _)) eU;have aH:=gq.akh (x':=⟨x.outer,x.object,x.cs++[⟨nm,n,2,false⟩]⟩) gC.out bF.out jY.out dd (v':=.slice (some (N9 hE 0)) (x.cs.length+1) iz) (by rw[List.flatMap_append];simpa[Ce.h] using hown3) (fun q ag=>by cases ag;exact c9.imp (fun e=>e) (fun e=>by rw[e];exact Nat.le_succ _)) ⟨rfl,rfl⟩
  have dY:=hide aH;have kB:aq.cell? (N9 g (i * 3+2))=some v/\aq.frozen? (N9 g (i * 3+2))=false:=by
   have cC:some g≠v.ownBlock:=fun e=>by
    have⟨_,_,gK⟩:=gq.ro.nes bF.out;exact(gK g e.symm).2.2.1 (by rw[jY.out];rfl)
   have hbk:=dd.block g dC cC;exact⟨(World.cell?_of_block (w:=w1) (a:=(N9 g (i * 3+2))) hbk).trans fN,(World.frozen?_of_block (w:=w1) (a:=(N9 g (i * 3+2))) hbk).trans hfz1⟩
  obtain⟨rN,rO⟩:=kB;clear aH c9 fN hfz1 dl bT cY fp;refine wt 12 (Oy g (i * 3)) ?_;refine wt 13 (Oy g (i * 3+2)) ?_;refine QF 14 fun K D=>?_;go_simp;refine D _ _ ?_;clear D K;refine wpAny_done Pe ?_ _;go_simp;go_wp2;go_ret;exact⟨rfl,⟨_,dY.out.1⟩,(O8.of bO (OO hl)).trans dY.out.2⟩),G);exact zsz),G);exact avY),G);exact aoI
def aiJ (aO:x.object = -1)(E:fC nm x.cs=none)(b1:kd≠1)(bU:kd≠2) :
  Oq 128 #[Oy H 0,NY (i:Int),Oj nm,NY kd,.agg #[NY n.k,NY n.n,Oj n.s]] w fun e w'=>e=OA Qd/\(∃ mO,HP H R w' (M.RD i ⟨x.outer,x.object,x.cs++[⟨nm,n,kd,true⟩]⟩) aA aB os mO)/\O8 Th H w w':=by
 have z:=N8 (∀{G}(h:G:=by
 have z:=N8 (∀{G}(h:G:=by
 have z:=N8 (∀{G}(h:G:=by
 refine wt 7 (NY kd) ?_;refine wt 8 (Om true) ?_;refine wr2 4 6 (fun K D=>?ca) fun K D=>?cb
 case' ca=>
  go_simp;refine D _ _ ?_;clear D K;refine QF 6 fun K D=>?_;go_simp;refine D _ _ ?_;clear D K;refine wt 9 (.agg #[Oj nm,NY n.k,NY n.n,Oj n.s,NY kd,Om true]) ?_;refine QF 10 fun K D=>?_;go_simp;refine D _ _ ?_;clear D K
 case' cb=>
  go_simp;refine D _ _ ?_;clear D K;refine wt 9 (.agg #[Oj nm,NY n.k,NY n.n,Oj n.s,NY kd,Om true]) ?_;refine wr2 4 10 (fun K D=>?cc) fun K D=>?cd
 case' cc=>
  go_simp;refine D _ _ ?_;clear D K;refine QF 10 fun K D=>?_;go_simp;refine D _ _ ?_;clear D K
 case' cd=>
  go_simp;refine D _ _ ?_;clear D K;refine QF 4 fun K D=>?_;go_simp;refine D _ _ ?_;clear D K
 all_goals
  refine QF 11 fun K D=>?_;refine step_append_lies _ rfl _ _ 196 rfl H 262 lA _ 6 64 underlying196 dW dw b8 cn rfl Ol _ _ _ rfl (q8.drew.alloc _) (N9 w1.heap.size 0) 1 1 [Oj nm,NY n.k,NY n.n,Oj n.s,NY kd,Om true] rfl rfl (YX _ _ rfl _ _ _ _) (abI _ _ _ _) Ol (by have:=HLEN.out;unfold maxLen;omega) (by have:=HLEN.out;omega) QY (w1.heap.size+1) OW ?_
  intro hE iz aq hown3 eU c9 _;refine D _ _ ?_;clear D K;have dd:w1.grownBy aq v.ownBlock:=Ox (Ox (b:=w1.drew) ⟨rfl,rfl,rfl,Pg,fun _ _ _=>rfl⟩ (World.grownBy_alloc _ _ _)) eU;have aH:=gq.akh (x':=⟨x.outer,x.object,x.cs++[⟨nm,n,kd,true⟩]⟩) gC.out bF.out jY.out dd (v':=.slice (some (N9 hE 0)) (x.cs.length+1) iz) (by rw[List.flatMap_append];simpa[Ce.h] using hown3) (fun q ag=>by cases ag;exact c9.imp (fun e=>e) (fun e=>by rw[e];exact Nat.le_succ _)) ⟨rfl,rfl⟩
  have dY:=hide aH;have kB:aq.cell? (N9 g (i * 3+2))=some v/\aq.frozen? (N9 g (i * 3+2))=false:=by
   have cC:some g≠v.ownBlock:=fun e=>by
    have⟨_,_,gK⟩:=gq.ro.nes bF.out;exact(gK g e.symm).2.2.1 (by rw[jY.out];rfl)
   have hbk:=dd.block g dC cC;exact⟨(World.cell?_of_block (w:=w1) (a:=(N9 g (i * 3+2))) hbk).trans fN,(World.frozen?_of_block (w:=w1) (a:=(N9 g (i * 3+2))) hbk).trans hfz1⟩
  obtain⟨rN,rO⟩:=kB;clear aH c9 fN hfz1 dl bT cY fp;refine wt 12 (Oy g (i * 3)) ?_;refine wt 13 (Oy g (i * 3+2)) ?_;refine QF 14 fun K D=>?_;go_simp;refine D _ _ ?_;clear D K;refine wpAny_done Pe ?_ _;go_simp;go_wp2;go_ret;exact⟨rfl,⟨_,dY.out.1⟩,(O8.of bO (OO hl)).trans dY.out.2⟩),G);exact zsz),G);exact avY),G);exact aoI
end
def abE {w:Og}{B:Nat}{e:TypeId}{size g n cap m:Nat}{xs:List Ot}(h:w.ownsRow B e size (.slice (some (N9 g 0)) n cap) n xs)(aR:m<=n):w.ownsRow B e size (.slice (some (N9 g 0)) m cap) m (xs.take (m * size)):=by
 have h1:=h.1
 rcases h.2 with ⟨fb,_⟩|⟨g1,cap',ck,fb,A,hg,ax,ac,ab,aZ⟩
 ·simp at fb
 ·simp only[Value.slice.injEq,Option.some.injEq,Addr.mk.injEq,and_true,true_and] at fb;obtain⟨rfl,rfl⟩:=fb;have gh:m * size<=n * size:=Nat.mul_le_mul_right _ aR;refine⟨by rw[List.length_take,h1];omega,.inr ⟨g,cap,ck,rfl,A,hg,Nat.le_trans aR ax,ac,ab,?_⟩⟩
  rw[<-aZ,List.take_take,Nat.min_eq_left gh]
def Lm {α:Type}(bs:List α)(k m:Nat):List α:=(bs.eraseIdx k).take m++bs.drop m
section
variable {α:Type} {bs:List α}
include α bs
def aoe {k m:Nat}(E:k<bs.length)(aR:m<bs.length):(Lm bs k m).length=bs.length:=by
 simp[Lm,List.length_eraseIdx,E];omega
def aAf {k m j:Nat}(E:k<bs.length)(aR:m<bs.length)(aS:m<=j):(Lm bs k m)[j]? = bs[j]?:=by
 have hl:((bs.eraseIdx k).take m).length=m:=by simp[List.length_eraseIdx,E];omega
 rw[Lm,List.getElem?_append_right Oe,hl,List.getElem?_drop,Nat.add_sub_cancel' aS]
def ags {k:Nat}(_hk:k<bs.length):Lm bs k k=bs:=by
 rw[Lm,List.eraseIdx_eq_take_drop_succ,List.take_append_of_le_length QY,List.take_take,Nat.min_self,List.take_append_drop]
def akf {k m:Nat}{b:α}(E:k<=m)(aR:m+1<bs.length)(A:bs[m+1]? = some b):(Lm bs k m).set m b=Lm bs k (m+1):=by
 have cI:k<bs.length:=Oe;have hl:((bs.eraseIdx k).take m).length=m:=by simp[List.length_eraseIdx,cI];omega
 have ao:(bs.eraseIdx k)[m]? = some b:=by rw[List.getElem?_eraseIdx,if_neg Oe];exact A
 rw[Lm,List.set_append_right _ _ Oe,hl,Nat.sub_self,Lm,List.take_add_one,ao];rw[List.append_assoc]
 congr 1
 rw[List.drop_eq_getElem_cons (i:=m) Oe];rfl
def aof {k m:Nat}(E:k<bs.length)(aR:m+1=bs.length):(Lm bs k m).take m=bs.eraseIdx k:=by
 have hl:((bs.eraseIdx k).take m).length=m:=by simp[List.length_eraseIdx,E];omega
 rw[Lm,List.take_append_of_le_length Oe,List.take_take,Nat.min_self,List.take_of_length_le (by simp[List.length_eraseIdx,E];omega)]
end
def aeu {α:Type}{f:α->List Ot}{s:Nat}(aF:∀ a,(f a).length=s):∀ (l:List α) (m:Nat),(l.flatMap f).take (m * s)=(l.take m).flatMap f
 | [],m=>by simp
 | a::l,0=>by simp
 | a::l,m+1=>by
  have h:=aeu aF l m;rw[List.flatMap_cons,show (m+1) * s=(f a).length+m * s by rw[aF,Nat.add_mul];omega,List.take_length_add_append,h,List.take_succ_cons,List.flatMap_cons]
def agt:∀ (bs:List Pr) (k:Nat) (b:Pr),k<bs.length->((((((bs.flatMap Pr.h)).set (k * 5) (Oj b.name)).set (k * 5+1) (NY b.v.k)).set (k * 5+2) (NY b.v.n)).set (k * 5+3) (Oj b.v.s)).set (k * 5+4) (Om b.fixed)=(bs.set k b).flatMap Pr.h
 | [],k,b,h=>by simp at h
 | c::bs,0,b,h=>by simp[Pr.h]
 | c::bs,k+1,b,h=>by
  have:=agt bs k b (by simpa using h);have aI:(k+1) * 5=k * 5+1+1+1+1+1:=Oe;simp only[aI,List.set_cons_succ,List.flatMap_cons,Pr.h,List.cons_append,List.nil_append] at this ⊢;rw[this]
def auI (s:Ou)(b:Pr)(bB:Nat)(w:Og)(aH:w.cell? (N9 bB 0)=some (Oj s)) :
  Oq 335 #[.agg #[Oj b.name,NY b.v.k,NY b.v.n,Oj b.v.s,Om b.fixed],Oy bB 0] w fun e w'=>e=OA (Om (b.name.toList==s.toList))/\Oo w w':=by
 have qJ:bB<w.heap.size:=World.block_lt_of_cell? w _ aH;go_enter func335,ntmps335;go_wp2;go_ret;exact⟨rfl,PE⟩
def aAg (g cap H:Nat)(bs:List Pr)(s:Ou)(bB:Nat)(w:Og)(hrow:w.ownsRow H 207 5 (.slice (some (N9 g 0)) bs.length cap) bs.length (bs.flatMap Pr.h))(aR:bs.length<=1000000000)(k:Nat)(E:fP s bs=some k)(aH:w.cell? (N9 bB 0)=some (Oj s)) :
  Oq 350 #[.slice (some (N9 g 0)) bs.length cap,.func (.func 335) #[] #[Oy bB 0]] w fun e w'=>e=OA (NY k)/\Oo w w':=by
 have z:=N8 (∀{G}(h:G:=by
 go_enter func350,ntmps350;go_wp2_with fail
 go_loopw [8] (fun i wr=>∃ m:Nat,m<=k/\i=NY m/\Oo w wr) (fun i _=>k+1 - (intOf i).toNat)
 case atStart=>exact⟨0,Nat.zero_le _,rfl,QI⟩
 case round=>
  obtain⟨m,uw,rfl,A⟩:=hrel;have bG:m<bs.length:=Oe;obtain⟨b,lm⟩:∃ b,bs[m]? = some b:=⟨_,List.getElem?_eq_getElem bG⟩;obtain⟨g1,cap',hL,_,⟨bX,dC,_⟩,_⟩:=atP (OI hrow A) lm;have z:=N8 (∀{G}(h:G:=by
  have gH:wr.cell? (N9 g (m * 5))=some (Oj b.name):=bX 0 _ rfl;have d8:=bX 1 _ rfl;have gt:=bX 2 _ rfl;have jM:=bX 3 _ rfl;have lj:=bX 4 _ rfl;have cn:wr.cell? (N9 bB 0)=some (Oj s):=(cell_below A (a:=(N9 bB 0)) tS.out).trans dY.out;have aj:=(auI s b bB wr cn);exact aAh),G);exact agu),G);exact aAi
def zP:List Ot:=[Pm,NY 0,NY 0,Pm,Om false]
def agv (w:Og)(g o cap:Nat)(ai:∀ j,j<5->(w.cell? (N9 g (o+j))).isSome=true)(aF:∀ j,w.frozen? (N9 g j)=false) :
  (Builtin.clear_ #[183] 0 #[.slice (some (N9 g o)) 1 cap]).run prog w=.ok (.tuple #[]) (w.setCells g o zP):=by
 have bC:=run_storeCells_cells (P:=prog) g o zP 0 w (by simpa[zP] using ai) (by simpa using fun j _=>aF (o+j)) (by intro v hL;simp[zP] at hL;rcases hL with rfl|rfl|rfl|rfl|rfl <;> rfl)
 simp only[Nat.add_zero] at bC;have am:∀ w,(zeroValue 207).run prog w=.ok (.agg #[Pm,NY 0,NY 0,Pm,Om false]) w:=fun w=>by
  have⟨lA,dW,dw,b8,cn⟩:=info_parts akg;simp[zeroValue,typeInfo,dW,dw]
 have nu:(Builtin.zeroCells (Value.agg #[Pm,NY 0,NY 0,Pm,Om false]).cells 1).toList=zP:=by kernel_rfl
 simp[Builtin.clear_,run_underlying underlying183,am,nu,bC]
def alZ {w:Og}{g cap H n o:Nat}{xs:List Ot}(h:w.ownsRow H 207 5 (.slice (some (N9 g 0)) n cap) n xs)(kw:o<=n):(w.setCells g (o * 5) zP).ownsRow H 207 5 (.slice (some (N9 g 0)) o cap) o (xs.take (o * 5))/\w.grownBy (w.setCells g (o * 5) zP) (some g):=by
 have⟨bY,b1⟩:=h.stored (o * 5) (Pm);have⟨cg,bU⟩:=bY.stored (o * 5+1) (NY 0);have⟨eo,ej⟩:=cg.stored (o * 5+2) (NY 0);have⟨jz,ma⟩:=eo.stored (o * 5+3) (Pm);have⟨rS,ti⟩:=jz.stored (o * 5+4) (Om false);have ac:((((((xs).set (o * 5) (Pm)).set (o * 5+1) (NY 0)).set (o * 5+2) (NY 0)).set (o * 5+3) (Pm)).set (o * 5+4) (Om false)).take (o * 5)=xs.take (o * 5):=by
  rw[List.take_set_of_le Oe,List.take_set_of_le Oe,List.take_set_of_le Oe,List.take_set_of_le Oe,List.take_set_of_le Oe]
 have ag:=Ox (Ox (Ox (Ox (b1) bU) ej) ma) ti;have aa:=abE rS kw;rw[ac] at aa;exact⟨aa,ag⟩
def agw:∀ (bs:List Ce) (k:Nat) (b:Ce),k<bs.length->(((((((bs.flatMap Ce.h)).set (k * 6) (Oj b.name)).set (k * 6+1) (NY b.v.k)).set (k * 6+2) (NY b.v.n)).set (k * 6+3) (Oj b.v.s)).set (k * 6+4) (NY b.kind)).set (k * 6+5) (Om b.ready)=(bs.set k b).flatMap Ce.h
 | [],k,b,h=>by simp at h
 | c::bs,0,b,h=>by simp[Ce.h]
 | c::bs,k+1,b,h=>by
  have:=agw bs k b (by simpa using h);have aI:(k+1) * 6=k * 6+1+1+1+1+1+1:=Oe;simp only[aI,List.set_cons_succ,List.flatMap_cons,Ce.h,List.cons_append,List.nil_append] at this ⊢;rw[this]
def auJ (s:Ou)(b:Ce)(bB:Nat)(w:Og)(aH:w.cell? (N9 bB 0)=some (Oj s)) :
  Oq 317 #[.agg #[Oj b.name,NY b.v.k,NY b.v.n,Oj b.v.s,NY b.kind,Om b.ready],Oy bB 0] w fun e w'=>e=OA (Om (b.name.toList==s.toList))/\Oo w w':=by
 have qJ:bB<w.heap.size:=World.block_lt_of_cell? w _ aH;go_enter func317,ntmps317;go_wp2;go_ret;exact⟨rfl,PE⟩
def aAj (g cap H:Nat)(bs:List Ce)(s:Ou)(bB:Nat)(w:Og)(hrow:w.ownsRow H 262 6 (.slice (some (N9 g 0)) bs.length cap) bs.length (bs.flatMap Ce.h))(aR:bs.length<=1000000000)(k:Nat)(E:fC s bs=some k)(aH:w.cell? (N9 bB 0)=some (Oj s)) :
  Oq 336 #[.slice (some (N9 g 0)) bs.length cap,.func (.func 317) #[] #[Oy bB 0]] w fun e w'=>e=OA (NY k)/\Oo w w':=by
 have z:=N8 (∀{G}(h:G:=by
 go_enter func336,ntmps336;go_wp2_with fail
 go_loopw [8] (fun i wr=>∃ m:Nat,m<=k/\i=NY m/\Oo w wr) (fun i _=>k+1 - (intOf i).toNat)
 case atStart=>exact⟨0,Nat.zero_le _,rfl,QI⟩
 case round=>
  obtain⟨m,uw,rfl,A⟩:=hrel;have bG:m<bs.length:=Oe;obtain⟨b,lm⟩:∃ b,bs[m]? = some b:=⟨_,List.getElem?_eq_getElem bG⟩;obtain⟨g1,cap',hL,_,⟨bX,dC,_⟩,_⟩:=atC (OI hrow A) lm;have z:=N8 (∀{G}(h:G:=by
  have gH:wr.cell? (N9 g (m * 6))=some (Oj b.name):=bX 0 _ rfl;have d8:=bX 1 _ rfl;have gt:=bX 2 _ rfl;have jM:=bX 3 _ rfl;have lj:=bX 4 _ rfl;have nQ:=bX 5 _ rfl;have cn:wr.cell? (N9 bB 0)=some (Oj s):=(cell_below A (a:=(N9 bB 0)) tS.out).trans dY.out;have aj:=(auJ s b bB wr cn);exact aAh),G);exact agu),G);exact aAi
def zC:List Ot:=[Pm,NY 0,NY 0,Pm,NY 0,Om false]
def agx (w:Og)(g o cap:Nat)(ai:∀ j,j<6->(w.cell? (N9 g (o+j))).isSome=true)(aF:∀ j,w.frozen? (N9 g j)=false) :
  (Builtin.clear_ #[196] 0 #[.slice (some (N9 g o)) 1 cap]).run prog w=.ok (.tuple #[]) (w.setCells g o zC):=by
 have bC:=run_storeCells_cells (P:=prog) g o zC 0 w (by simpa[zC] using ai) (by simpa using fun j _=>aF (o+j)) (by intro v hL;simp[zC] at hL;rcases hL with rfl|rfl|rfl|rfl|rfl|rfl <;> rfl)
 simp only[Nat.add_zero] at bC;have am:∀ w,(zeroValue 262).run prog w=.ok (.agg #[Pm,NY 0,NY 0,Pm,NY 0,Om false]) w:=fun w=>by
  have⟨lA,dW,dw,b8,cn⟩:=info_parts aa7;simp[zeroValue,typeInfo,dW,dw]
 have nu:(Builtin.zeroCells (Value.agg #[Pm,NY 0,NY 0,Pm,NY 0,Om false]).cells 1).toList=zC:=by kernel_rfl
 simp[Builtin.clear_,run_underlying underlying196,am,nu,bC]
def al0 {w:Og}{g cap H n o:Nat}{xs:List Ot}(h:w.ownsRow H 262 6 (.slice (some (N9 g 0)) n cap) n xs)(kw:o<=n):(w.setCells g (o * 6) zC).ownsRow H 262 6 (.slice (some (N9 g 0)) o cap) o (xs.take (o * 6))/\w.grownBy (w.setCells g (o * 6) zC) (some g):=by
 have⟨bY,b1⟩:=h.stored (o * 6) (Pm);have⟨cg,bU⟩:=bY.stored (o * 6+1) (NY 0);have⟨eo,ej⟩:=cg.stored (o * 6+2) (NY 0);have⟨jz,ma⟩:=eo.stored (o * 6+3) (Pm);have⟨rS,ti⟩:=jz.stored (o * 6+4) (NY 0);have⟨yB,BE⟩:=rS.stored (o * 6+5) (Om false);have ac:(((((((xs).set (o * 6) (Pm)).set (o * 6+1) (NY 0)).set (o * 6+2) (NY 0)).set (o * 6+3) (Pm)).set (o * 6+4) (NY 0)).set (o * 6+5) (Om false)).take (o * 6)=xs.take (o * 6):=by
  rw[List.take_set_of_le Oe,List.take_set_of_le Oe,List.take_set_of_le Oe,List.take_set_of_le Oe,List.take_set_of_le Oe,List.take_set_of_le Oe]
 have ag:=Ox (Ox (Ox (Ox (Ox (b1) bU) ej) ma) ti) BE;have aa:=abE yB kw;rw[ac] at aa;exact⟨aa,ag⟩
def avO (g cap H:Nat)(bs:List Pr)(s:Ou)(bB:Nat)(w:Og)(hrow:w.ownsRow H 207 5 (.slice (some (N9 g 0)) bs.length cap) bs.length (bs.flatMap Pr.h))(aR:bs.length<=1000000000)(k:Nat)(E:fP s bs=some k)(aQ:∀ j b,k<j->bs[j]? = some b->YW s b.name=false)(aH:w.heap[bB]? = some (OM #[Oj s] 9)) :
  Oq 334 #[.slice (some (N9 g 0)) bs.length cap,.func (.func 335) #[] #[Oy bB 0]] w fun e w'=>e=OA (.slice (some (N9 g 0)) ((bs.eraseIdx k).length:Nat) cap)/\w.grownBy w' (some g)/\w'.ownsRow H 207 5 (.slice (some (N9 g 0)) (bs.eraseIdx k).length cap) (bs.eraseIdx k).length ((bs.eraseIdx k).flatMap Pr.h):=by
 have nu:w.cell? (N9 bB 0)=some (Oj s):=by simp[World.cell?,aH]
 have aj:=(aAg g cap H bs s bB w hrow Oe k E nu);have z:=N8 (∀{G}(h:G:=by
 go_enter func334,ntmps334;have z:=N8 (∀{G}(h:G:=by
 go_loopw [5,6] (fun i j wr=>∃ m:Nat,k<=m/\m+1<=N/\i=NY m/\j=NY ((m+1:Nat):Int)/\w.grownBy wr (some g)/\wr.ownsRow H 207 5 (.slice (some (N9 g 0)) N cap) N ((Lm bs k m).flatMap Pr.h)) (fun _ j _=>N+1 - (intOf j).toNat)
 case atStart=>exact⟨k,Pg,cI,rfl,by go_num,ib,by rw[ags (by rw[<-dP.out];exact cI)];exact q8⟩
 case round=>
  have z:=N8 (∀{G}(h:G:=by
  by_cases aM:m+1<N
  ·have z:=N8 (∀{G}(h:G:=by
   obtain⟨g1,cap',hL,_,⟨bX,_,kq⟩,_⟩:=atP hown2 Ar;have z:=N8 (∀{G}(h:G:=by
   have aF:=pq.out (m+1) b Oe lm;have gH:wr.cell? (N9 g ((m+1) * 5))=some (Oj b.name):=bX 0 _ rfl;have d8:wr.cell? (N9 g ((m+1) * 5+1))=some (NY b.v.k):=bX 1 _ rfl;have gt:wr.cell? (N9 g ((m+1) * 5+2))=some (NY b.v.n):=bX 2 _ rfl;have jM:wr.cell? (N9 g ((m+1) * 5+3))=some (Oj b.v.s):=bX 3 _ rfl;have lj:wr.cell? (N9 g ((m+1) * 5+4))=some (Om b.fixed):=bX 4 _ rfl;have nu:(wr.alloc (.cells #[Oj b.name,NY b.v.k,NY b.v.n,Oj b.v.s,Om b.fixed] 207)).cell? (N9 bB 0)=some (Oj s):=by
    rw[World.cell?_alloc_past _ _ _ (lt_of_block jU)];simp[World.cell?,jU]
   have d7:=(auI s b bB _ nu);rw[show (b.name.toList==s.toList)=false from aF] at d7;have yM:=hide lm;have pj:=hide ij;have hget:∀ j,j<5->∃ u,wr.cell? (N9 g (m * 5+j))=some u:=fun j aS=>by
    have:=hown.cellAt (m * 5+j) Oe;rw[this];obtain⟨x,ac⟩:∃ x,(Lm bs k m)[m]? = some x:=⟨_,List.getElem?_eq_getElem Oe⟩;rw[Xk (s:=5) (fun _=>rfl) _ m j aS,ac];exact⟨_,List.getElem?_eq_getElem (by simpa[Pr.h] using aS)⟩
   have z:=N8 (∀{G}(h:G:=by
   have z:=N8 (∀{G}(h:G:=by
   have f7:Below (wr.heap.size+1) (wr.alloc (.cells #[Oj b.name,NY b.v.k,NY b.v.n,Oj b.v.s,Om b.fixed] 207)) aq:=bn.mono OW;have hblk:aq.heap[wr.heap.size]? = some (OM #[Oj b.name,NY b.v.k,NY b.v.n,Oj b.v.s,Om b.fixed] 207):=(f7.block _ (Nat.lt_succ_self _)).trans (heap_alloc_new wr _);have z:=N8 (∀{G}(h:G:=by
   have rQ:aq.cell? (N9 wr.heap.size 4)=some (Om b.fixed):=by simp[World.cell?,hblk]
   have z:=N8 (∀{G}(h:G:=by
   have Ir:∀ j,aq.frozen? (N9 g j)=false:=fun j=>by
    rw[World.frozen?_of_block (w:=wr.alloc (.cells #[Oj b.name,NY b.v.k,NY b.v.n,Oj b.v.s,Om b.fixed] 207)) (a:=(N9 g j)) (f7.block g Oe),World.frozen?_alloc_old _ _ _ (by show g≠_;omega)]
    exact ki.out j
   have aU:aq.cell? (N9 g (m * 5))=some hp:=(c9 _).trans ES;have p1:aq.cell? (N9 g (m * 5+1))=some gp:=(c9 _).trans bH;have cp:aq.cell? (N9 g (m * 5+2))=some gb:=(c9 _).trans iY;have cJ:aq.cell? (N9 g (m * 5+3))=some ka:=(c9 _).trans w3;have kC:aq.cell? (N9 g (m * 5+4))=some uO:=(c9 _).trans ET;have Iu:g≠wr.heap.size:=Oe;have Ip:g<aq.heap.size:=Oe
   have hown3:aq.ownsRow H 207 5 (.slice (some (N9 g 0)) N cap) N ((Lm bs k m).flatMap Pr.h):=hown.kept (Ox (World.grownBy_alloc _ _ none) ⟨bn.os,bn.tape,bn.output,bn.size,fun j aS _=>bn.block j aS⟩) (by simp[Value.ownBlock]);have⟨bY,b1⟩:=hown3.stored (m * 5) (Oj b.name);have⟨cg,bU⟩:=bY.stored (m * 5+1) (NY b.v.k);have⟨eo,ej⟩:=cg.stored (m * 5+2) (NY b.v.n);have⟨jz,ma⟩:=eo.stored (m * 5+3) (Oj b.v.s);have⟨rS,ti⟩:=jz.stored (m * 5+4) (Om b.fixed)
   rw[agt (Lm bs k m) m b (by rw[pj.out];omega),akf ry (by rw[<-dP.out];exact aM) yM.out] at rS
   have y9:w.grownBy _ (some g):=Ox dd (Ox (World.grownBy_alloc wr (.cells #[Oj b.name,NY b.v.k,NY b.v.n,Oj b.v.s,Om b.fixed] 207) (some g)) (Ox ⟨bn.os,bn.tape,bn.output,bn.size,fun j aS _=>bn.block j aS⟩ (Ox (Ox (Ox (Ox (b1) bU) ej) ma) ti)));clear hblk c9;go_wp2
   go_roundw
   case rel=>exact⟨m+1,by omega,by omega,by go_num,by go_num,y9,rS⟩
   case measure=>simp[intOf];omega),G);exact aAk),G);exact aAl),G);exact aAm),G);exact aAn),G);exact agu),G);exact aAo
  ·have z:=N8 (∀{G}(h:G:=by
   have uH:((Lm bs k m).flatMap Pr.h).length=(m+1) * 5:=by rw[aog (s:=5) (fun _=>rfl),ij]
   have r5:Hid (∀ j,j<5->(wr.cell? (N9 g (m * 5+j))).isSome=true):=fun j aS=>by
    have:=hown.cellAt (m * 5+j) Oe;rw[this,List.getElem?_eq_getElem (by rw[uH];omega)]
    rfl
   have jE:Hid (∀ j,wr.frozen? (N9 g j)=false):=hown.frozenAt;have aH:=alZ (o:=m) hown Oe;rw[aeu (s:=5) (fun _=>rfl),aof hkl' (by rw[<-dP.out])] at aH;have vD:=hide aH;clear jU aH uH ij;go_wp2_with fail;rw[agv wr g (m * 5) _ r5.out jE.out];go_simp;go_wp2;go_ret;exact⟨rfl,Ox dd vD.out.2,vD.out.1⟩),G);exact aAp),G);exact aAq),G);exact aAr),G);exact aAs
def avP (g cap H:Nat)(bs:List Ce)(s:Ou)(bB:Nat)(w:Og)(hrow:w.ownsRow H 262 6 (.slice (some (N9 g 0)) bs.length cap) bs.length (bs.flatMap Ce.h))(aR:bs.length<=1000000000)(k:Nat)(E:fC s bs=some k)(aQ:∀ j b,k<j->bs[j]? = some b->YW s b.name=false)(aH:w.heap[bB]? = some (OM #[Oj s] 9)) :
  Oq 316 #[.slice (some (N9 g 0)) bs.length cap,.func (.func 317) #[] #[Oy bB 0]] w fun e w'=>e=OA (.slice (some (N9 g 0)) ((bs.eraseIdx k).length:Nat) cap)/\w.grownBy w' (some g)/\w'.ownsRow H 262 6 (.slice (some (N9 g 0)) (bs.eraseIdx k).length cap) (bs.eraseIdx k).length ((bs.eraseIdx k).flatMap Ce.h):=by
 have nu:w.cell? (N9 bB 0)=some (Oj s):=by simp[World.cell?,aH]
 have aj:=(aAj g cap H bs s bB w hrow Oe k E nu);have z:=N8 (∀{G}(h:G:=by
 go_enter func316,ntmps316;have z:=N8 (∀{G}(h:G:=by
 go_loopw [5,6] (fun i j wr=>∃ m:Nat,k<=m/\m+1<=N/\i=NY m/\j=NY ((m+1:Nat):Int)/\w.grownBy wr (some g)/\wr.ownsRow H 262 6 (.slice (some (N9 g 0)) N cap) N ((Lm bs k m).flatMap Ce.h)) (fun _ j _=>N+1 - (intOf j).toNat)
 case atStart=>exact⟨k,Pg,cI,rfl,by go_num,ib,by rw[ags (by rw[<-dP.out];exact cI)];exact q8⟩
 case round=>
  have z:=N8 (∀{G}(h:G:=by
  by_cases aM:m+1<N
  ·have z:=N8 (∀{G}(h:G:=by
   obtain⟨g1,cap',hL,_,⟨bX,_,kq⟩,_⟩:=atC hown2 Ar;have z:=N8 (∀{G}(h:G:=by
   have aF:=pq.out (m+1) b Oe lm;have gH:wr.cell? (N9 g ((m+1) * 6))=some (Oj b.name):=bX 0 _ rfl;have d8:wr.cell? (N9 g ((m+1) * 6+1))=some (NY b.v.k):=bX 1 _ rfl;have gt:wr.cell? (N9 g ((m+1) * 6+2))=some (NY b.v.n):=bX 2 _ rfl;have jM:wr.cell? (N9 g ((m+1) * 6+3))=some (Oj b.v.s):=bX 3 _ rfl;have lj:wr.cell? (N9 g ((m+1) * 6+4))=some (NY b.kind):=bX 4 _ rfl;have nQ:wr.cell? (N9 g ((m+1) * 6+5))=some (Om b.ready):=bX 5 _ rfl
   have nu:(wr.alloc (.cells #[Oj b.name,NY b.v.k,NY b.v.n,Oj b.v.s,NY b.kind,Om b.ready] 262)).cell? (N9 bB 0)=some (Oj s):=by
    rw[World.cell?_alloc_past _ _ _ (lt_of_block jU)];simp[World.cell?,jU]
   have d7:=(auJ s b bB _ nu);rw[show (b.name.toList==s.toList)=false from aF] at d7;have yM:=hide lm;have pj:=hide ij;have hget:∀ j,j<6->∃ u,wr.cell? (N9 g (m * 6+j))=some u:=fun j aS=>by
    have:=hown.cellAt (m * 6+j) Oe;rw[this];obtain⟨x,ac⟩:∃ x,(Lm bs k m)[m]? = some x:=⟨_,List.getElem?_eq_getElem Oe⟩;rw[Xk (s:=6) (fun _=>rfl) _ m j aS,ac];exact⟨_,List.getElem?_eq_getElem (by simpa[Ce.h] using aS)⟩
   have z:=N8 (∀{G}(h:G:=by
   have⟨xe,Bz⟩:=hget 5 Ol;have z:=N8 (∀{G}(h:G:=by
   have f7:Below (wr.heap.size+1) (wr.alloc (.cells #[Oj b.name,NY b.v.k,NY b.v.n,Oj b.v.s,NY b.kind,Om b.ready] 262)) aq:=bn.mono OW;have hblk:aq.heap[wr.heap.size]? = some (OM #[Oj b.name,NY b.v.k,NY b.v.n,Oj b.v.s,NY b.kind,Om b.ready] 262):=(f7.block _ (Nat.lt_succ_self _)).trans (heap_alloc_new wr _);have z:=N8 (∀{G}(h:G:=by
   have rQ:aq.cell? (N9 wr.heap.size 4)=some (NY b.kind):=by simp[World.cell?,hblk]
   have o8:aq.cell? (N9 wr.heap.size 5)=some (Om b.ready):=by simp[World.cell?,hblk]
   have z:=N8 (∀{G}(h:G:=by
   have Ir:∀ j,aq.frozen? (N9 g j)=false:=fun j=>by
    rw[World.frozen?_of_block (w:=wr.alloc (.cells #[Oj b.name,NY b.v.k,NY b.v.n,Oj b.v.s,NY b.kind,Om b.ready] 262)) (a:=(N9 g j)) (f7.block g Oe),World.frozen?_alloc_old _ _ _ (by show g≠_;omega)]
    exact ki.out j
   have aU:aq.cell? (N9 g (m * 6))=some hp:=(c9 _).trans ES;have p1:aq.cell? (N9 g (m * 6+1))=some gp:=(c9 _).trans bH;have cp:aq.cell? (N9 g (m * 6+2))=some gb:=(c9 _).trans iY;have cJ:aq.cell? (N9 g (m * 6+3))=some ka:=(c9 _).trans w3;have kC:aq.cell? (N9 g (m * 6+4))=some uO:=(c9 _).trans ET;have NB:aq.cell? (N9 g (m * 6+5))=some xe:=(c9 _).trans Bz;have Iu:g≠wr.heap.size:=Oe;have Ip:g<aq.heap.size:=Oe
   have hown3:aq.ownsRow H 262 6 (.slice (some (N9 g 0)) N cap) N ((Lm bs k m).flatMap Ce.h):=hown.kept (Ox (World.grownBy_alloc _ _ none) ⟨bn.os,bn.tape,bn.output,bn.size,fun j aS _=>bn.block j aS⟩) (by simp[Value.ownBlock]);have⟨bY,b1⟩:=hown3.stored (m * 6) (Oj b.name);have⟨cg,bU⟩:=bY.stored (m * 6+1) (NY b.v.k);have⟨eo,ej⟩:=cg.stored (m * 6+2) (NY b.v.n);have⟨jz,ma⟩:=eo.stored (m * 6+3) (Oj b.v.s);have⟨rS,ti⟩:=jz.stored (m * 6+4) (NY b.kind);have⟨yB,BE⟩:=rS.stored (m * 6+5) (Om b.ready)
   rw[agw (Lm bs k m) m b (by rw[pj.out];omega),akf ry (by rw[<-dP.out];exact aM) yM.out] at yB
   have y9:w.grownBy _ (some g):=Ox dd (Ox (World.grownBy_alloc wr (.cells #[Oj b.name,NY b.v.k,NY b.v.n,Oj b.v.s,NY b.kind,Om b.ready] 262) (some g)) (Ox ⟨bn.os,bn.tape,bn.output,bn.size,fun j aS _=>bn.block j aS⟩ (Ox (Ox (Ox (Ox (Ox (b1) bU) ej) ma) ti) BE)));clear hblk c9;go_wp2
   go_roundw
   case rel=>exact⟨m+1,by omega,by omega,by go_num,by go_num,y9,yB⟩
   case measure=>simp[intOf];omega),G);exact aAk),G);exact aAl),G);exact aAm),G);exact aAn),G);exact agu),G);exact aAo
  ·have z:=N8 (∀{G}(h:G:=by
   have uH:((Lm bs k m).flatMap Ce.h).length=(m+1) * 6:=by rw[aog (s:=6) (fun _=>rfl),ij]
   have r5:Hid (∀ j,j<6->(wr.cell? (N9 g (m * 6+j))).isSome=true):=fun j aS=>by
    have:=hown.cellAt (m * 6+j) Oe;rw[this,List.getElem?_eq_getElem (by rw[uH];omega)]
    rfl
   have jE:Hid (∀ j,wr.frozen? (N9 g j)=false):=hown.frozenAt;have aH:=al0 (o:=m) hown Oe;rw[aeu (s:=6) (fun _=>rfl),aof hkl' (by rw[<-dP.out])] at aH;have vD:=hide aH;clear jU aH uH ij;go_wp2_with fail;rw[agx wr g (m * 6) _ r5.out jE.out];go_simp;go_wp2;go_ret;exact⟨rfl,Ox dd vD.out.2,vD.out.1⟩),G);exact aAp),G);exact aAq),G);exact aAr),G);exact aAs
def agy {w W:Og}{nm:Ou}(A:Below (w.heap.size+1) (w.alloc (.cells #[Oj nm] 9)) W):W.heap[w.heap.size]? = some (OM #[Oj nm] 9):=(A.block _ (Nat.lt_succ_self _)).trans (heap_alloc_new w _)
section
variable (h:HP H R w M aA aB os b') (ab:M.Small K) (D:K<=1000000000) (o:Int) (nm:Ou)
include h ab D o nm
def avR (al:M.prop o nm=none) :
  Oq 315 #[Oy H 0,NY o,Oj nm] w fun e w'=>e=OA (Om true)/\Oo w w':=by
 have z:=N8 (∀{G}(h:G:=by
 have⟨q,r,be,ew,aa⟩:=aoh (h.later e0) ab D o nm;have d':r=none:=by
  rcases aa with ⟨h,_⟩|⟨_,_,_,_,_,_,_,_,_,_,ag,_⟩
  ·exact h
  ·rw[al] at ag;cases ag
 subst d';clear h aa al;go_enter func315,ntmps315;exact aAt),G);exact ar6
def al1 {p:Pr}(al:M.prop o nm=some p)(we:p.fixed=true) :
  Oq 315 #[Oy H 0,NY o,Oj nm] w fun e w'=>e=OA (Om false)/\Oo w w':=by
 have z:=N8 (∀{G}(h:G:=by
 have⟨q,r,be,ew,aa⟩:=aoh (h.later e0) ab D o nm
 rcases aa with ⟨_,ag⟩|⟨i,x,k,c,g,cap,rfl,_,_,_,ag,rfl,_,a6⟩
 ·rw[al] at ag;cases ag
 rw[al] at ag;cases ag;have ft:=hide a6;clear h al a6;go_enter func315,ntmps315;go_wp2_with fail;refine cm be ?_;rintro e w' ⟨rfl,rfl⟩;go_wp2_with fail;refine cm ew ?_;rintro e w1 ⟨rfl,A⟩;have⟨bX,dC,kq⟩:=ft.out w1 A;have lj:=bX 4 _ rfl;rw[we] at lj;have bO:=(((Below.refl _ w).alloc Pg _).trans (A.mono OW));clear bX;go_wp2;go_ret;exact⟨rfl,bO⟩),G);exact ar6
end
def uniq {α:Type}(f:α->Ou)(l:List α):Prop:=∀ (i j:Nat) a b,l[i]? = some a->l[j]? = some b->(f a).toList=(f b).toList->i=j
def abG {α:Type}{f:α->Ou}{l:List α}(h:uniq f l){nm:Ou}{k:Nat}(E:l.findIdx? (fun a=>YW nm (f a))=some k):∀ j b,k<j->l[j]? = some b->YW nm (f b)=false:=by
 intro j b aS A;obtain⟨cI,iT,_⟩:=List.findIdx?_eq_some_iff_getElem.1 E
 by_cases ag:YW nm (f b)=true
 ·have aw:(f b).toList=nm.toList:=by simpa[YW] using ag
  have bi:(f l[k]).toList=nm.toList:=by simpa[YW] using iT
  have:=h k j l[k] b (List.getElem?_eq_getElem cI) A (bi.trans aw.symm);omega
 ·simpa using ag
section
variable (h:HP H R w M aA aB os b') (ab:M.Small K) (D:K<=1000000000)
include h ab D
def avS (i:Nat)(x:Ob)(az:M.objs[i]? = some x)(nm:Ou)(k:Nat)(c:Pr)(E:fP nm x.ps=some k)(ai:x.ps[k]? = some c)(we:c.fixed=false)(aQ:uniq Pr.name x.ps) :
  Oq 315 #[Oy H 0,NY (i:Int),Oj nm] w fun e w'=>e=OA (Om true)/\(∃ p3,HP H R w' (M.SI i ⟨x.code,x.ps.eraseIdx k⟩) aA aB p3 b')/\O8 Th H w w':=by
 have z:=N8 (∀{G}(h:G:=by
 obtain⟨g,cap,v,bi,aM,am,dE,hrow,hg,a1,lq,_⟩:=fl.ob.at_ (i:=i) (e:=x.h) (by simp[az]);have aj:=(abH g cap _ i aM ep);rw[<-bi] at aj;have hrow':ep.ownsRow H 207 5 v x.ps.length (x.ps.flatMap Pr.h):=hrow;have mJ:=ab.ps x (List.mem_of_getElem? az);have d7:=(aev g (i * 2) v x.ps H nm ep (dE 1 v rfl) hrow' Oe);obtain⟨iA,m5,rfl,cI,_,_⟩:=atP hrow' ai;rw[E] at d7;simp only[aaQ] at d7;have bF:=hide am;have gC:=hide az;have gc:=hide ai;have jY:=hide bi;have f1:=hide E;have zA:=hide (abG (f:=Pr.name) aQ E)
 have kh:=hide (dE 1 _ rfl);have gZ:=hide hg;have dm:=hide lq;have HLEN:=hide mJ;clear dE E az ai h am bi mJ hg lq;go_enter func315,ntmps315;have z:=N8 (∀{G}(h:G:=by
 obtain⟨g1,cap',hL,_,⟨bX,dC,kq⟩,_⟩:=atP (OI hrow' A) gc.out;have z:=N8 (∀{G}(h:G:=by
 have z:=N8 (∀{G}(h:G:=by
 have dB:=(avO iA m5 H x.ps nm w.heap.size w1 (OI hrow' A) (by have:=HLEN.out;omega) k f1.out zA.out jU)
 have jg:g<w1.heap.size:=Nat.lt_of_lt_of_le gZ.out A.size;have fN:w1.cell? (N9 g (i * 2+1))=some (.slice (some (N9 iA 0)) x.ps.length m5):=(cell_below A (a:=(N9 g (i * 2+1))) gZ.out).trans kh.out;have hfz1:w1.frozen? (N9 g (i * 2+1))=false:=(World.frozen?_of_block (w:=ep) (a:=(N9 g (i * 2+1))) (A.block g gZ.out)).trans (dm.out _);clear bX jU kq;go_wp2_with fail;refine cm dB ?_;rintro e w2 ⟨rfl,dd,hown⟩;have aH:=gq.auL (x':=⟨x.code,x.ps.eraseIdx k⟩) gC.out bF.out jY.out dd hown (fun q ag=>.inl ag) rfl;have dY:=hide aH
 have kB:w2.cell? (N9 g (i * 2+1))=some (.slice (some (N9 iA 0)) x.ps.length m5)/\w2.frozen? (N9 g (i * 2+1))=false:=by
  have cC:some g≠some iA:=fun e=>by
   have⟨_,_,gK⟩:=gq.ob.nes bF.out;exact(gK g e.symm).2.2.1 (by rw[jY.out];rfl)
  have hbk:=dd.block g jg cC;exact⟨(World.cell?_of_block (w:=w1) (a:=(N9 g (i * 2+1))) hbk).trans fN,(World.frozen?_of_block (w:=w1) (a:=(N9 g (i * 2+1))) hbk).trans hfz1⟩
 exact aAu),G);exact aAv),G);exact agu),G);exact avT),G);exact aAw
def ar7 (i:Nat)(x:Ro)(az:M.Ov[i]? = some x)(nm:Ou)(k:Nat)(c:Ce)(E:fC nm x.cs=some k)(ai:x.cs[k]? = some c)(we:c.kind=4)(aQ:uniq Ce.name x.cs) :
  Oq 297 #[Oy H 0,NY (i:Int),Oj nm] w fun e w'=>e=OA (Om true)/\(∃ mO,HP H R w' (M.RD i ⟨x.outer,x.object,x.cs.eraseIdx k⟩) aA aB os mO)/\O8 Th H w w':=by
 have z:=N8 (∀{G}(h:G:=by
 obtain⟨g,cap,v,bi,aM,am,dE,hrow,hg,a1,lq,_⟩:=fl.ro.at_ (i:=i) (e:=x.h) (by simp[az]);have aj:=(Z9 g cap _ i aM ep);rw[<-bi] at aj;have hrow':ep.ownsRow H 262 6 v x.cs.length (x.cs.flatMap Ce.h):=hrow;have mJ:=ab.cs x (List.mem_of_getElem? az);have d7:=(aew g (i * 3) v x.cs H nm ep (dE 2 v rfl) hrow' Oe);obtain⟨iA,m5,rfl,cI,_,_⟩:=atC hrow' ai;rw[E] at d7;simp only[aaQ] at d7;have bF:=hide am;have gC:=hide az;have gc:=hide ai;have jY:=hide bi;have f1:=hide E;have zA:=hide (abG (f:=Ce.name) aQ E)
 have kh:=hide (dE 2 _ rfl);have gZ:=hide hg;have dm:=hide lq;have HLEN:=hide mJ;clear dE E az ai h am bi mJ hg lq;go_enter func297,ntmps297;have z:=N8 (∀{G}(h:G:=by
 obtain⟨g1,cap',hL,_,⟨bX,dC,kq⟩,_⟩:=atC (OI hrow' A) gc.out;have z:=N8 (∀{G}(h:G:=by
 have z:=N8 (∀{G}(h:G:=by
 have dB:=(avP iA m5 H x.cs nm w.heap.size w1 (OI hrow' A) (by have:=HLEN.out;omega) k f1.out zA.out jU)
 have jg:g<w1.heap.size:=Nat.lt_of_lt_of_le gZ.out A.size;have fN:w1.cell? (N9 g (i * 3+2))=some (.slice (some (N9 iA 0)) x.cs.length m5):=(cell_below A (a:=(N9 g (i * 3+2))) gZ.out).trans kh.out;have hfz1:w1.frozen? (N9 g (i * 3+2))=false:=(World.frozen?_of_block (w:=ep) (a:=(N9 g (i * 3+2))) (A.block g gZ.out)).trans (dm.out _);clear bX jU kq;go_wp2_with fail;refine cm dB ?_;rintro e w2 ⟨rfl,dd,hown⟩;have aH:=gq.akh (x':=⟨x.outer,x.object,x.cs.eraseIdx k⟩) gC.out bF.out jY.out dd hown (fun q ag=>.inl ag) ⟨rfl,rfl⟩
 have dY:=hide aH;have kB:w2.cell? (N9 g (i * 3+2))=some (.slice (some (N9 iA 0)) x.cs.length m5)/\w2.frozen? (N9 g (i * 3+2))=false:=by
  have cC:some g≠some iA:=fun e=>by
   have⟨_,_,gK⟩:=gq.ro.nes bF.out;exact(gK g e.symm).2.2.1 (by rw[jY.out];rfl)
  have hbk:=dd.block g jg cC;exact⟨(World.cell?_of_block (w:=w1) (a:=(N9 g (i * 3+2))) hbk).trans fN,(World.frozen?_of_block (w:=w1) (a:=(N9 g (i * 3+2))) hbk).trans hfz1⟩
 exact aAu),G);exact aAv),G);exact agu),G);exact avT),G);exact aAw
def al2 (o:Int)(nm:Ou){p:Ce}(al:M.YI o nm=some p)(we:p.kind≠4) :
  Oq 297 #[Oy H 0,NY o,Oj nm] w fun e w'=>e=OA (Om false)/\Oo w w':=by
 have z:=N8 (∀{G}(h:G:=by
 have⟨q,r,be,ew,aa⟩:=YJ (h.later e0) ab D o nm
 rcases aa with ⟨_,ag⟩|⟨i,x,k,c,g,cap,rfl,_,_,_,ag,rfl,_,a6⟩
 ·rw[al] at ag;cases ag
 rw[al] at ag;cases ag;have ft:=hide a6;clear h al a6;go_enter func297,ntmps297;go_wp2_with fail;refine cm be ?_;rintro e w' ⟨rfl,rfl⟩;go_wp2_with fail;refine cm ew ?_;rintro e w1 ⟨rfl,A⟩;have⟨bX,dC,kq⟩:=ft.out w1 A;have lj:=bX 4 _ rfl;have bO:=(((Below.refl _ w).alloc Pg _).trans (A.mono OW));clear bX;go_wp2;go_ret;exact⟨rfl,bO⟩),G);exact ar6
def al3 (s:Int)(nm:Ou)(al:M.YI s nm=none)(b:Bool)(mq:Mo)(dj:∀ W,Oo w W->Oq 315 #[Oy H 0,NY (M.QX s),Oj nm] W fun e w'=>e=OA (Om b)/\Pz H R w' mq/\O8 Th H W w') :
  Oq 297 #[Oy H 0,NY s,Oj nm] w fun e w'=>e=OA (Om b)/\Pz H R w' mq/\O8 Th H w w':=by
 have z:=N8 (∀{G}(h:G:=by
 have⟨q,r,be,ew,aa⟩:=YJ (h.later e0) ab D s nm;have d':r=none:=by
  rcases aa with ⟨h,_⟩|⟨_,_,_,_,_,_,_,_,_,_,ag,_⟩
  ·exact h
  ·rw[al] at ag;cases ag
 subst d';have z:=N8 (∀{G}(h:G:=by
 rw[<-oW] at dj;have dy:=hide dj;clear h aa al dj oW;go_enter func297,ntmps297;have z:=N8 (∀{G}(h:G:=by
 have bO:=(((Below.refl _ w).alloc Pg _).trans (A.mono OW));have jU:w1.heap[w.heap.size]? = some (OM #[Oj nm] 9):=agy (A.mono OW);have dl:w1.cell? (N9 w.heap.size 0)=some (Oj nm):=by simp[World.cell?,jU]
 have G9:=hide jU;clear jU;go_wp2_with fail;refine wp_region_held (S:=fun W=>W.cell? (N9 w.heap.size 0)=some (Oj nm)) Pe ?_;change wpAnyH _ _ _ _ _ _ _ _ (World.drew _);have e4:Hid (w1.drew.cell? (N9 w.heap.size 0)=some (Oj nm)):=dl;refine wh 0 (Oy H 0) e4.out ?_;refine wh 1 (Oy H 0) e4.out ?_;refine wh 2 (NY s) e4.out ?_;refine wg 4 (Oj nm) rfl (Or.inl ⟨by kernel_rfl,fun W a6=>by go_simp⟩) e4.out ?_;refine XL 3 fun K D=>?_;go_simp;refine cm (dp.out _ bO.drew) ?_;rintro e aq ⟨rfl,rfl⟩;refine D.out _ _ e4.out (fun _=>?_);clear D K
 refine XL 5 fun K D=>?_;go_simp;refine cm (dy.out _ bO.drew) ?_;rintro e bD ⟨rfl,lY,hY⟩;have hR:=((O8.of bO.drew (OO hl)).trans hY);have lf:Hid (bD.cell? (N9 w.heap.size 0)=some (Oj nm)):=by
  have aN:=hY.rest _ _ 9 G9.out Ol;simp[Hid,World.cell?,aN]
 refine D.out _ _ lf.out (fun _=>?_);clear D K hY;refine wh 6 (Om b) lf.out ?_;refine wpAnyH_done Pe ?_ _;go_simp;go_wp2;go_ret;exact⟨rfl,lY,hR⟩),G);exact aiz),G);exact avU),G);exact ar6
end
def HP.aki (h:HP H R w M aA aB os b')(c:Int){tv':Ot}(dd:w.grownBy w1 aA.ownBlock)(hown:w1.ownsRow H 185 2 tv' (M.objs.length+1) (flat (M.objs.map Ob.h) os++[NY c,Qv])) :
  HP H R (w1.setCell (N9 H 0) tv') ⟨M.objs++[⟨c,[]⟩],M.Ov⟩ tv' aB (os++[Qv]) b'/\O8 Th H w (w1.setCell (N9 H 0) tv'):=by
 obtain⟨kG,dU⟩:=h.ob.push (OO (lt_of_block h.blk)) [NY c] rfl dd (by rw[List.length_map];exact hown)
 have bZ:=dU.rest H _ 84 h.blk Ol;have dQ:O8 [84] H w1 (w1.setCell (N9 H 0) tv'):=O8.setCell (O8.of QI (OO (lt_of_block bZ))) bZ OW Pg _;refine⟨⟨?_,?_,(h.ro.keep dU Ol Ol).keep dQ Ol Ol⟩,(dU.mono Ol Pg).trans (dQ.mono Ol Pg)⟩
 ·rw[heap_setCell_same w1 H 0 _ 84 _ bZ];rfl
 ·have:=kG.keep dQ Ol Ol;rw[List.map_append];exact this
def HP.akj (h:HP H R w M aA aB os b')(a b:Int){tv':Ot}(dd:w.grownBy w1 aB.ownBlock)(hown:w1.ownsRow H 198 3 tv' (M.Ov.length+1) (flat (M.Ov.map Ro.h) b'++[NY a,NY b,Qv])) :
  HP H R (w1.setCell (N9 H 1) tv') ⟨M.objs,M.Ov++[⟨a,b,[]⟩]⟩ aA tv' os (b'++[Qv])/\O8 Th H w (w1.setCell (N9 H 1) tv'):=by
 obtain⟨kG,dU⟩:=h.ro.push (OO (lt_of_block h.blk)) [NY a,NY b] rfl dd (by rw[List.length_map];exact hown)
 have bZ:=dU.rest H _ 84 h.blk Ol;have dQ:O8 [84] H w1 (w1.setCell (N9 H 1) tv'):=O8.setCell (O8.of QI (OO (lt_of_block bZ))) bZ OW Pg _;refine⟨⟨?_,(h.ob.keep dU Ol Ol).keep dQ Ol Ol,?_⟩,(dU.mono Ol Pg).trans (dQ.mono Ol Pg)⟩
 ·rw[heap_setCell_same w1 H 1 _ 84 _ bZ];rfl
 ·have:=kG.keep dQ Ol Ol;rw[List.map_append];exact this
def ar8:(prog.info? 185).map (fun i=>(i.zero,i.size,i.bytes))=some (some (.agg #[NY 0,Qv]),2,32):=by kernel_rfl
def ar9:(prog.info? 198).map (fun i=>(i.zero,i.size,i.bytes))=some (some (.agg #[NY 0,NY 0,Qv]),3,40):=by kernel_rfl
def aiA (w:Og)(H:Nat)(fl:w.heap.size=H)(a:Int)(j:Nat)(u:Ot)(h:([NY a,Qv]:List Ot)[j]? = some u) :
  (w.alloc (.cells #[NY a,Qv] 185)).cell? (Addr.add (N9 H 0) j)=some u:=by
 subst fl
 match j,h with
 | 0,h=>simp at h;subst h;simp[Addr.add]
 | 1,h=>simp at h;subst h;simp[Addr.add]
 | k+2,h=>simp at h
def aoi (a:Int):∀ u ∈ ([NY a,Qv]:List Ot),u.oneCell'=true:=by
 intro u aQ;simp at aQ
 rcases aQ with rfl|rfl <;> rfl
def Xl (w:Og)(H:Nat)(fl:w.heap.size=H)(a b:Int)(v:Ot)(j:Nat)(u:Ot)(h:([NY a,NY b,v]:List Ot)[j]? = some u) :
  (w.alloc (.cells #[NY a,NY b,v] 198)).cell? (Addr.add (N9 H 0) j)=some u:=by
 subst fl
 match j,h with
 | 0,h=>simp at h;subst h;simp[Addr.add]
 | 1,h=>simp at h;subst h;simp[Addr.add]
 | 2,h=>simp at h;subst h;simp[Addr.add]
 | k+3,h=>simp at h
def Zq (a b:Int):∀ u ∈ ([NY a,NY b,Qv]:List Ot),u.oneCell'=true:=by
 intro u aQ;simp at aQ
 rcases aQ with rfl|rfl|rfl <;> rfl
def al4 (h:HP H R w M aA aB os b')(ab:M.Small K)(D:K<=1000000000)(c:Int) :
  Oq 49 #[Oy H 0,NY c] w fun e w'=>e=OA (NY M.objs.length)/\Pz H R w' ⟨M.objs++[⟨c,[]⟩],M.Ov⟩/\O8 Th H w w':=by
 obtain⟨h0,h1,aF,hf,Ac⟩:=h.c;have hl:=ab.o;have hrow:w.ownsRow H 185 2 aA M.objs.length (flat (M.objs.map Ob.h) os):=by have:=h.ob.row;rwa [List.length_map] at this
 have⟨m,hT⟩:=xH M.objs.length;rw[<-hT.out] at hrow hl ⊢;have⟨lA,dW,dw,b8,cn⟩:=info_parts ar8;go_enter func49,ntmps49
 go_wp2_with (at_builtin;refine wpList_append_lies _ rfl _ _ 76 rfl H 185 lA _ 2 32 underlying76 dW dw b8 cn rfl Ol _ _ _ rfl (hrow.alloc _) (N9 w.heap.size 0) 1 1 [NY c,Qv] rfl rfl (aiA w _ rfl c) (aoi c) Ol (by unfold maxLen;omega) Oe QY (w.heap.size+1) OW ?_)
 intro hE iz aq hown3 eU c9 _;have dd:w.grownBy aq aA.ownBlock:=Ox (World.grownBy_alloc _ _ _) eU;have cC:aA.ownBlock≠some H:=fun e=>by
  have⟨cc,bX⟩:=PW hrow e;exact QA bX h.blk Ol rfl
 have bn:aq.heap[H]? = some (.cells (aA::aB::R).toArray 84 (0,0)):=by rw[dd.block H Ac (fun e=>cC e.symm)];exact h.blk
 have b9:aq.cell? (N9 H 0)=some aA:=by simp[World.cell?,bn]
 have JS:aq.frozen? (N9 H 0)=false:=by simp[World.frozen?,bn]
 have L1:H<aq.heap.size:=lt_of_block bn;have dY:=hide (h.aki c (tv':=.slice (some (N9 hE 0)) (m+1) iz) dd (by rw[<-hT.out];exact hown3))
 clear cC bn c9 h0 h1 aF hf;go_wp2;go_ret;exact⟨by simp,⟨_,_,_,_,dY.out.1⟩,dY.out.2⟩
def aAx (h:HP H R w M aA aB os b')(i:Nat)(x:Ob)(az:M.objs[i]? = some x):∃ a:Addr,Oq 126 #[aA,NY (i:Int)] w fun e w'=>e=OA (.pointer (some a))/\w'=w:=by
 obtain⟨g,cap,v,bi,aM,am,ai,hrow,hg,a1,aF,_⟩:=h.ob.at_ (i:=i) (e:=x.h) (by simp[az]);have aj:=abH g cap _ i aM w;rw[<-bi] at aj;exact⟨_,aj⟩
section
variable (h:HP H R w M aA aB os b') (ab:M.Small K) (D:K<=1000000000)
include h ab D
def aoj :
  Oq 105 #[Oy H 0,NY (-1),NY (-1)] w fun e w'=>e=OA (NY (M.Ov.length:Int))/\Pz H R w' ⟨M.objs,M.Ov++[⟨(-1),(-1),[]⟩]⟩/\O8 Th H w w':=by
 have z:=N8 (∀{G}(h:G:=by
 have f7:Oo w (w.alloc (.cells #[NY (-1),NY (-1),Qv] 198)):=PE;have aj:=(Xm aB _ (Qj h.ro.row) (-1) (.inl Ol) (w.alloc (.cells #[NY (-1),NY (-1),Qv] 198)));have d7:=(Yo aA _ (Qj h.ob.row) (-1) (.inl Ol) (w.alloc (.cells #[NY (-1),NY (-1),Qv] 198)));go_enter func105,ntmps105;go_wp2_with fail;refine cm aj ?_;rintro e w1 ⟨rfl,hw⟩;rw[hw];clear hw;go_wp2_with fail;refine cm d7 ?_;have z:=N8 (∀{G}(h:G:=by
 have⟨ep,sP⟩:=xE (w.alloc (.cells #[NY (-1),NY (-1),Qv] 198));have z:=N8 (∀{G}(h:G:=by
 refine wr2 4 5 (fun K D=>?ca) fun K D=>?cb
 case' ca=>
  go_simp;refine D _ _ ?_;clear D K;refine QF 5 fun K D=>?_;go_simp;refine D _ _ ?_;clear D K;refine QF 6 fun K D=>?_;go_simp;refine D _ _ ?_;clear D K
 case' cb=>
  go_simp;refine D _ _ ?_;clear D K;refine wr2 4 6 (fun K D=>?cc) fun K D=>?cd
 case' cc=>
  go_simp;refine D _ _ ?_;clear D K;refine QF 6 fun K D=>?_;go_simp;refine D _ _ ?_;clear D K
 case' cd=>
  go_simp;refine D _ _ ?_;clear D K;refine QF 4 fun K D=>?_;go_simp;refine D _ _ ?_;clear D K
 all_goals
  refine QF 7 fun K D=>?_;refine step_append_lies _ rfl _ _ 77 rfl H 198 lA _ 3 40 underlying77 dW dw b8 cn rfl Ol _ _ _ rfl (hrow.drew.alloc _) (N9 ep.heap.size 0) 1 1 [NY (-1),NY (-1),Qv] rfl rfl (Xl _ _ rfl _ _ _) (Zq _ _) Ol (by have:=HLEN.out;unfold maxLen;omega) (by have:=HLEN.out;omega) QY (ep.heap.size+1) OW ?_
  intro hE iz aq hown3 eU c9 _;refine D _ _ ?_;clear D K;have dd:ep.grownBy aq aB.ownBlock:=Ox (Ox (b:=ep.drew) ⟨rfl,rfl,rfl,Pg,fun _ _ _=>rfl⟩ (World.grownBy_alloc _ _ _)) eU;have dY:=hide (gq.akj (-1) (-1) (tv':=.slice (some (N9 hE 0)) (M.Ov.length+1) iz) dd hown3);have kB:aq.cell? (N9 H 1)=some aB/\aq.frozen? (N9 H 1)=false:=by
   have cC:some H≠aB.ownBlock:=fun e=>by
    have⟨c,ai⟩:=PW gq.ro.row e.symm;exact QA ai gq.blk Ol rfl
   have hbk:=dd.block H tZ cC;exact⟨(World.cell?_of_block (w:=ep) (a:=(N9 H 1)) hbk).trans d8,(World.frozen?_of_block (w:=ep) (a:=(N9 H 1)) hbk).trans px⟩
  obtain⟨rN,rO⟩:=kB;clear c9 d8 px dl bT cY fp;have kv:=HLEN.out;refine wt 8 (Oy H 0) ?_;refine wt 9 (Oy H 1) ?_;refine QF 10 fun K D=>?_;go_simp;refine D _ _ ?_;clear D K;refine wpAny_done Pe ?_ _;go_simp;go_wp2;go_ret;exact⟨rfl,⟨_,_,_,_,dY.out.1⟩,(O8.of e0 (OO q5.out)).trans dY.out.2⟩),G);exact asq),G);exact asb),G);exact aok
def aol (i:Nat)(x:Ro)(az:M.Ov[i]? = some x) :
  Oq 105 #[Oy H 0,NY (i:Int),NY (-1)] w fun e w'=>e=OA (NY (M.Ov.length:Int))/\Pz H R w' ⟨M.objs,M.Ov++[⟨(i:Int),(-1),[]⟩]⟩/\O8 Th H w w':=by
 have z:=N8 (∀{G}(h:G:=by
 have f7:Oo w (w.alloc (.cells #[NY (i:Int),NY (-1),Qv] 198)):=PE;have⟨CX,x7⟩:=aom (h.later f7) i x az;clear az;have d7:=(Yo aA _ (Qj h.ob.row) (-1) (.inl Ol) (w.alloc (.cells #[NY (i:Int),NY (-1),Qv] 198)));have YA:∀(w1:Og)(_:Below (w.heap.size+1) (w.alloc (.cells #[NY i,NY (-1),Qv] 198)) w1),_:=fun _ h=>YA h;exact aAy),G);exact aok
def aon (j:Nat)(y:Ob)(aS:M.objs[j]? = some y) :
  Oq 105 #[Oy H 0,NY (-1),NY (j:Int)] w fun e w'=>e=OA (NY (M.Ov.length:Int))/\Pz H R w' ⟨M.objs,M.Ov++[⟨(-1),(j:Int),[]⟩]⟩/\O8 Th H w w':=by
 have z:=N8 (∀{G}(h:G:=by
 have f7:Oo w (w.alloc (.cells #[NY (-1),NY (j:Int),Qv] 198)):=PE;have aj:=(Xm aB _ (Qj h.ro.row) (-1) (.inl Ol) (w.alloc (.cells #[NY (-1),NY (j:Int),Qv] 198)));have⟨kQ,ul⟩:=aAx (h.later f7) j y aS;clear aS;go_enter func105,ntmps105;go_wp2_with fail;refine cm aj ?_;rintro e w1 ⟨rfl,hw⟩;rw[hw];clear hw;go_wp2_with fail;refine cm ul ?_;have z:=N8 (∀{G}(h:G:=by
 have⟨ep,sP⟩:=xE (w.alloc (.cells #[NY (-1),NY (j:Int),Qv] 198));have z:=N8 (∀{G}(h:G:=by
 refine wr2 4 5 (fun K D=>?ca) fun K D=>?cb
 case' ca=>
  go_simp;refine D _ _ ?_;clear D K;refine QF 5 fun K D=>?_;go_simp;refine D _ _ ?_;clear D K;refine QF 6 fun K D=>?_;go_simp;refine D _ _ ?_;clear D K
 case' cb=>
  go_simp;refine D _ _ ?_;clear D K;refine wr2 4 6 (fun K D=>?cc) fun K D=>?cd
 case' cc=>
  go_simp;refine D _ _ ?_;clear D K;refine QF 6 fun K D=>?_;go_simp;refine D _ _ ?_;clear D K
 case' cd=>
  go_simp;refine D _ _ ?_;clear D K;refine QF 4 fun K D=>?_;go_simp;refine D _ _ ?_;clear D K
 all_goals
  refine QF 7 fun K D=>?_;refine step_append_lies _ rfl _ _ 77 rfl H 198 lA _ 3 40 underlying77 dW dw b8 cn rfl Ol _ _ _ rfl (hrow.drew.alloc _) (N9 ep.heap.size 0) 1 1 [NY (-1),NY (j:Int),Qv] rfl rfl (Xl _ _ rfl _ _ _) (Zq _ _) Ol (by have:=HLEN.out;unfold maxLen;omega) (by have:=HLEN.out;omega) QY (ep.heap.size+1) OW ?_
  intro hE iz aq hown3 eU c9 _;refine D _ _ ?_;clear D K;have dd:ep.grownBy aq aB.ownBlock:=Ox (Ox (b:=ep.drew) ⟨rfl,rfl,rfl,Pg,fun _ _ _=>rfl⟩ (World.grownBy_alloc _ _ _)) eU;have dY:=hide (gq.akj (-1) (j:Int) (tv':=.slice (some (N9 hE 0)) (M.Ov.length+1) iz) dd hown3);have kB:aq.cell? (N9 H 1)=some aB/\aq.frozen? (N9 H 1)=false:=by
   have cC:some H≠aB.ownBlock:=fun e=>by
    have⟨c,ai⟩:=PW gq.ro.row e.symm;exact QA ai gq.blk Ol rfl
   have hbk:=dd.block H tZ cC;exact⟨(World.cell?_of_block (w:=ep) (a:=(N9 H 1)) hbk).trans d8,(World.frozen?_of_block (w:=ep) (a:=(N9 H 1)) hbk).trans px⟩
  obtain⟨rN,rO⟩:=kB;clear c9 d8 px dl bT cY fp;have kv:=HLEN.out;refine wt 8 (Oy H 0) ?_;refine wt 9 (Oy H 1) ?_;refine QF 10 fun K D=>?_;go_simp;refine D _ _ ?_;clear D K;refine wpAny_done Pe ?_ _;go_simp;go_wp2;go_ret;exact⟨rfl,⟨_,_,_,_,dY.out.1⟩,(O8.of e0 (OO q5.out)).trans dY.out.2⟩),G);exact asq),G);exact asb),G);exact aok
def aoo (i:Nat)(x:Ro)(az:M.Ov[i]? = some x)(j:Nat)(y:Ob)(aS:M.objs[j]? = some y) :
  Oq 105 #[Oy H 0,NY (i:Int),NY (j:Int)] w fun e w'=>e=OA (NY (M.Ov.length:Int))/\Pz H R w' ⟨M.objs,M.Ov++[⟨(i:Int),(j:Int),[]⟩]⟩/\O8 Th H w w':=by
 have z:=N8 (∀{G}(h:G:=by
 have f7:Oo w (w.alloc (.cells #[NY (i:Int),NY (j:Int),Qv] 198)):=PE;have⟨CX,x7⟩:=aom (h.later f7) i x az;clear az;have⟨kQ,ul⟩:=aAx (h.later f7) j y aS;clear aS;go_enter func105,ntmps105;go_wp2_with fail;refine cm x7 ?_;rintro e w1 ⟨rfl,hw⟩;rw[hw];clear hw;go_wp2_with fail;refine cm ul ?_;have z:=N8 (∀{G}(h:G:=by
 have⟨ep,sP⟩:=xE (w.alloc (.cells #[NY (i:Int),NY (j:Int),Qv] 198));have z:=N8 (∀{G}(h:G:=by
 refine wr2 4 5 (fun K D=>?ca) fun K D=>?cb
 case' ca=>
  go_simp;refine D _ _ ?_;clear D K;refine QF 5 fun K D=>?_;go_simp;refine D _ _ ?_;clear D K;refine QF 6 fun K D=>?_;go_simp;refine D _ _ ?_;clear D K
 case' cb=>
  go_simp;refine D _ _ ?_;clear D K;refine wr2 4 6 (fun K D=>?cc) fun K D=>?cd
 case' cc=>
  go_simp;refine D _ _ ?_;clear D K;refine QF 6 fun K D=>?_;go_simp;refine D _ _ ?_;clear D K
 case' cd=>
  go_simp;refine D _ _ ?_;clear D K;refine QF 4 fun K D=>?_;go_simp;refine D _ _ ?_;clear D K
 all_goals
  refine QF 7 fun K D=>?_;refine step_append_lies _ rfl _ _ 77 rfl H 198 lA _ 3 40 underlying77 dW dw b8 cn rfl Ol _ _ _ rfl (hrow.drew.alloc _) (N9 ep.heap.size 0) 1 1 [NY (i:Int),NY (j:Int),Qv] rfl rfl (Xl _ _ rfl _ _ _) (Zq _ _) Ol (by have:=HLEN.out;unfold maxLen;omega) (by have:=HLEN.out;omega) QY (ep.heap.size+1) OW ?_
  intro hE iz aq hown3 eU c9 _;refine D _ _ ?_;clear D K;have dd:ep.grownBy aq aB.ownBlock:=Ox (Ox (b:=ep.drew) ⟨rfl,rfl,rfl,Pg,fun _ _ _=>rfl⟩ (World.grownBy_alloc _ _ _)) eU;have dY:=hide (gq.akj (i:Int) (j:Int) (tv':=.slice (some (N9 hE 0)) (M.Ov.length+1) iz) dd hown3);have kB:aq.cell? (N9 H 1)=some aB/\aq.frozen? (N9 H 1)=false:=by
   have cC:some H≠aB.ownBlock:=fun e=>by
    have⟨c,ai⟩:=PW gq.ro.row e.symm;exact QA ai gq.blk Ol rfl
   have hbk:=dd.block H tZ cC;exact⟨(World.cell?_of_block (w:=ep) (a:=(N9 H 1)) hbk).trans d8,(World.frozen?_of_block (w:=ep) (a:=(N9 H 1)) hbk).trans px⟩
  obtain⟨rN,rO⟩:=kB;clear c9 d8 px dl bT cY fp;have kv:=HLEN.out;refine wt 8 (Oy H 0) ?_;refine wt 9 (Oy H 1) ?_;refine QF 10 fun K D=>?_;go_simp;refine D _ _ ?_;clear D K;refine wpAny_done Pe ?_ _;go_simp;go_wp2;go_ret;exact⟨rfl,⟨_,_,_,_,dY.out.1⟩,(O8.of e0 (OO q5.out)).trans dY.out.2⟩),G);exact asq),G);exact asb),G);exact aok
end
structure Mo.Ok (M:Mo):Prop where
 out:∀ (i:Nat) x,M.Ov[i]? = some x->-1<=x.outer/\x.outer<i
 obj:∀ (i:Nat) x,M.Ov[i]? = some x->x.object = -1\/∃ j:Nat,x.object=j/\j<M.objs.length
 up:∀ (i:Nat) x,M.objs[i]? = some x->uniq Pr.name x.ps
 uc:∀ (i:Nat) x,M.Ov[i]? = some x->uniq Ce.name x.cs
def Mo.fnd (M:Mo)(nm:Ou):Nat->Int->Int
 | 0,_=>-1
 | f+1,i=>match M.ro i with
  | none=>-1
  | some x=>if M.has i nm then i else M.fnd nm f x.outer
def Mo.find (M:Mo)(i:Int)(nm:Ou):Int:=M.fnd nm (M.Ov.length+1) i
def adG {M:Mo}(ok:M.Ok)(nm:Ou):∀ (f:Nat) (i:Int),i<f->M.Finds nm i (M.fnd nm (f+1) i)
 | f,i,az=>by
  rw[Mo.fnd]
  rcases PK M i with ⟨h0,_⟩|⟨k,x,rfl,ac,h1⟩
  ·rw[h0];exact .out i h0
  ·rw[h1]
   show M.Finds nm k (if M.has k nm=true then (k:Int) else M.fnd nm f x.outer)
   cases hh:M.has k nm with
   | true=>rw[if_pos rfl];exact .here k x ac hh
   | false=>
    rw[if_neg Ol];have aO:=ok.out k x ac;refine .on k x _ ac hh aO.2 ?_
    cases f with
    | zero=>omega
    | succ f=>exact adG ok nm f x.outer Oe
def aAN {M:Mo}{i:Int}{x:Ro}(h:M.ro i=some x):i<M.Ov.length:=by
 rcases PK M i with ⟨h0,_⟩|⟨k,y,rfl,hy,_⟩
 ·rw[h0] at h;cases h
 ·have:=(List.getElem?_eq_some_iff.1 hy).1;omega
def aoJ {M:Mo}(ok:M.Ok)(i:Int)(nm:Ou):M.Finds nm i (M.find i nm):=by
 unfold Mo.find
 by_cases az:i<M.Ov.length
 ·exact adG ok nm _ i az
 ·have h0:M.ro i=none:=by
   cases ac:M.ro i with
   | none=>rfl
   | some x=>exact absurd (aAN ac) az
  rw[Mo.fnd,h0];exact .out i h0
def Mo.put (M:Mo)(o:Int)(nm:Ou)(v:Va)(fx:Bool):Int × Mo:=
 match M.ob o with
 | none=>(7,M)
 | some x=>match fP nm x.ps with
  | none=>(0,M.SI o.toNat ⟨x.code,x.ps++[⟨nm,v,fx⟩]⟩)
  | some k=>match x.ps[k]? with
   | none=>(0,M)
   | some c=>(0,M.SI o.toNat ⟨x.code,x.ps.set k ⟨c.name,v,c.fixed⟩⟩)
def Mo.cut (M:Mo)(o:Int)(nm:Ou):Bool × Mo:=
 match M.ob o with
 | none=>(true,M)
 | some x=>match fP nm x.ps with
  | none=>(true,M)
  | some k=>match x.ps[k]? with
   | none=>(true,M)
   | some c=>if c.fixed then (false,M) else (true,M.SI o.toNat ⟨x.code,x.ps.eraseIdx k⟩)
def Mo.declare (M:Mo)(s:Int)(nm:Ou)(kd:Int)(v:Va):Int × Mo:=
 match M.ro s with
 | none=>(7,M)
 | some x=>if x.object≠-1 then (1,M) else match fC nm x.cs with
  | some _=>(9,M)
  | none=>(0,M.RD s.toNat ⟨x.outer,x.object,x.cs++[⟨nm,v,kd,!(kd==1||kd==2)⟩]⟩)
def Mo.start (M:Mo)(s:Int)(nm:Ou)(v:Va):Int × Mo:=
 match M.ro s with
 | none=>(7,M)
 | some x=>match fC nm x.cs with
  | none=>(7,M)
  | some k=>match x.cs[k]? with
   | none=>(7,M)
   | some c=>(0,M.RD s.toNat ⟨x.outer,x.object,x.cs.set k ⟨c.name,v,c.kind,true⟩⟩)
def Mo.read (M:Mo)(s:Int)(nm:Ou):Va × Int:=
 match M.YI s nm with
 | some c=>if c.ready then (c.v,0) else (⟨0,0,⟨#[]⟩⟩,6)
 | none=>match M.prop (M.QX s) nm with
  | some p=>(p.v,0)
  | none=>(⟨0,0,⟨#[]⟩⟩,7)
def Mo.write (M:Mo)(s:Int)(nm:Ou)(v:Va):Int × Mo:=
 if M.has s nm then
  match M.YI s nm with
  | none=>M.put (M.QX s) nm v false
  | some c=>if c.ready=false then (6,M) else if c.kind=2 then (1,M) else if c.kind=3 then (5,M) else
   match M.ro s with
   | none=>(7,M)
   | some x=>match fC nm x.cs with
    | none=>(7,M)
    | some k=>(0,M.RD s.toNat ⟨x.outer,x.object,x.cs.set k ⟨c.name,v,c.kind,c.ready⟩⟩)
 else (7,M)
def Mo.drop (M:Mo)(s:Int)(nm:Ou):Bool × Mo:=
 match M.YI s nm with
 | none=>M.cut (M.QX s) nm
 | some c=>if c.kind≠4 then (false,M) else
  match M.ro s with
  | none=>(false,M)
  | some x=>match fC nm x.cs with
   | none=>(false,M)
   | some k=>(true,M.RD s.toNat ⟨x.outer,x.object,x.cs.eraseIdx k⟩)
def Mo.OY (M:Mo)(c:Int):Mo:=⟨M.objs++[⟨c,[]⟩],M.Ov⟩
def Mo.scope (M:Mo)(u o:Int):Mo:=⟨M.objs,M.Ov++[⟨if (M.ro u).isSome then u else -1,if (M.ob o).isSome then o else -1,[]⟩]⟩
section
variable (h:Pz H R w M)
include h
def Pz.lt:H<w.heap.size:=by
 obtain⟨_,_,_,_,h⟩:=h;exact h.c.2.2.2.2
def Pz.later (A:Oo w w1):Pz H R w1 M:=by
 obtain⟨aA,aB,os,b',h⟩:=h;exact⟨aA,aB,os,b',h.later A⟩
def Pz.same (A:Oo w w1):Pz H R w1 M/\O8 Th H w w1:=⟨h.later A,O8.of A (OO h.lt)⟩
def aAO (ab:M.Small K)(D:K<=1000000000)(o:Int)(nm:Ou)(v:Va)(fx:Bool) :
  Oq 56 #[hP H,NY o,Oj nm,vA v,Om fx] w fun e w'=>e=OA (TT (M.put o nm v fx).1)/\Pz H R w' (M.put o nm v fx).2/\O8 Th H w w':=by
 have hh:=h;obtain⟨aA,aB,os,b',h⟩:=h
 rcases QG M o with ⟨h0,_⟩|⟨i,x,rfl,ac,h1⟩
 ·refine(ash h o nm v fx h0).mono ?_;rintro e w' ⟨rfl,A⟩;have aw:M.put o nm v fx=(7,M):=by unfold Mo.put;rw[h0]
  rw[aw];exact⟨rfl,hh.same A⟩
 ·
  cases E:fP nm x.ps with
  | none=>
   refine(asi h ab D i x ac nm v fx E).mono ?_;rintro e w' ⟨rfl,⟨p3,U⟩,av⟩;have aw:M.put i nm v fx=(0,M.SI i ⟨x.code,x.ps++[⟨nm,v,fx⟩]⟩):=by unfold Mo.put;rw[h1];simp only[E,Int.toNat_natCast]
   rw[aw];exact⟨rfl,⟨aA,aB,p3,b',U⟩,av⟩
  | some k=>
   have cI:k<x.ps.length:=by
    obtain⟨U,_⟩:=List.findIdx?_eq_some_iff_getElem.1 E;exact U
   have ai:x.ps[k]? = some x.ps[k]:=List.getElem?_eq_getElem cI;refine(akl h ab D i x ac nm v fx k _ E ai).mono ?_;rintro e w' ⟨rfl,U,av⟩;have aw:M.put i nm v fx=(0,M.SI i ⟨x.code,x.ps.set k ⟨(x.ps[k]).name,v,(x.ps[k]).fixed⟩⟩):=by unfold Mo.put;rw[h1];simp only[E,ai,Int.toNat_natCast]
   rw[aw];exact⟨rfl,⟨aA,aB,os,b',U⟩,av⟩
def aex (ok:M.Ok)(ab:M.Small K)(D:K<=1000000000)(i:Int)(nm:Ou) :
  Oq 195 #[hP H,NY i,Oj nm] w fun e w'=>e=OA (NY (M.find i nm))/\Oo w w':=by
 obtain⟨aA,aB,os,b',h⟩:=h;exact aoy h ab D i _ nm (aoJ ok i nm)
end
section
variable (h:Pz H R w M) (ab:M.Small K) (D:K<=1000000000) (s:Int) (nm:Ou)
include h ab D s nm
def avZ :
  Oq 290 #[hP H,NY s,Oj nm] w fun e w'=>e=OA (.tuple #[vA (M.read s nm).1,TT (M.read s nm).2])/\Oo w w':=by
 obtain⟨aA,aB,os,b',h⟩:=h
 cases ai:M.YI s nm with
 | some c=>
  have U:=aoA h ab D s nm ai
  cases aa:c.ready with
  | true=>
   rw[aa,if_pos rfl] at U;have aw:M.read s nm=(c.v,0):=by unfold Mo.read;simp only[ai,aa,if_true]
   rw[aw];exact U
  | false=>
   rw[aa,if_neg Ol] at U;have aw:M.read s nm=(⟨0,0,⟨#[]⟩⟩,6):=by unfold Mo.read;simp only[ai,aa];rfl
   rw[aw];exact U
 | none=>
  cases al:M.prop (M.QX s) nm with
  | none=>
   have aw:M.read s nm=(⟨0,0,⟨#[]⟩⟩,7):=by unfold Mo.read;simp only[ai,al]
   rw[aw];exact adF h ab D s nm ai _ 0 0 ⟨#[]⟩ rfl _ (fun W a6=>aoz (h.later a6) ab D _ nm al)
  | some p=>
   have aw:M.read s nm=(p.v,0):=by unfold Mo.read;simp only[ai,al]
   rw[aw];exact adF h ab D s nm ai _ p.v.k p.v.n p.v.s rfl _ (fun W a6=>al6 (h.later a6) ab D _ nm al)
def WT (kd:Int)(v:Va) :
  Oq 128 #[hP H,NY s,Oj nm,NY kd,vA v] w fun e w'=>e=OA (TT (M.declare s nm kd v).1)/\Pz H R w' (M.declare s nm kd v).2/\O8 Th H w w':=by
 have hh:=h;obtain⟨aA,aB,os,b',h⟩:=h
 rcases PK M s with ⟨h0,_⟩|⟨i,x,rfl,ac,h1⟩
 ·refine(aoG h s nm kd v h0).mono ?_;rintro e w' ⟨rfl,A⟩;have aw:M.declare s nm kd v=(7,M):=by unfold Mo.declare;rw[h0]
  rw[aw];exact⟨rfl,hh.same A⟩
 ·by_cases aO:x.object = -1
  ·
   cases E:fC nm x.cs with
   | some k=>
    have cI:k<x.cs.length:=by
     obtain⟨U,_⟩:=List.findIdx?_eq_some_iff_getElem.1 E;exact U
    refine(aiH h ab D i x ac nm kd v aO k _ E (List.getElem?_eq_getElem cI)).mono ?_;rintro e w' ⟨rfl,A⟩;have aw:M.declare i nm kd v=(9,M):=by unfold Mo.declare;rw[h1];simp[aO,E]
    rw[aw];exact⟨rfl,hh.same A⟩
   | none=>
    have aw:M.declare i nm kd v=(0,M.RD i ⟨x.outer,x.object,x.cs++[⟨nm,v,kd,!(kd==1||kd==2)⟩]⟩):=by unfold Mo.declare;rw[h1];simp[aO,E]
    rw[aw]
    by_cases b1:kd=1
    ·have bi:(!(kd==1||kd==2))=false:=by rw[b1];rfl
     rw[bi];refine(al9 h ab D i x ac nm kd v aO E b1).mono ?_;exact av1
    ·by_cases bU:kd=2
     ·have bi:(!(kd==1||kd==2))=false:=by rw[bU];rfl
      rw[bi];refine(aiI h ab D i x ac nm kd v aO E bU).mono ?_;exact av1
     ·have bi:(!(kd==1||kd==2))=true:=by simp[b1,bU]
      rw[bi];refine(aiJ h ab D i x ac nm kd v aO E b1 bU).mono ?_;exact av1
  ·refine(aoH h ab D i x ac nm kd v aO).mono ?_;rintro e w' ⟨rfl,A⟩;have aw:M.declare i nm kd v=(1,M):=by unfold Mo.declare;rw[h1];simp[aO]
   rw[aw];exact⟨rfl,hh.same A⟩
end
def abJ {s:Int}{nm:Ou}:(M.YI s nm=none/\(M.ro s=none\/∃ (i:Nat) (x:Ro),s=i/\M.Ov[i]? = some x/\M.ro s=some x/\fC nm x.cs=none)) \/
  ∃ (i:Nat) (x:Ro) (k:Nat) (c:Ce),s=i/\M.Ov[i]? = some x/\M.ro s=some x/\fC nm x.cs=some k/\x.cs[k]? = some c/\M.YI s nm=some c:=by
 rcases PK M s with ⟨h0,_⟩|⟨i,x,rfl,ac,h1⟩
 ·exact .inl ⟨by unfold Mo.YI;rw[h0];rfl,.inl h0⟩
 ·rcases VN (fun c=>YW nm c.name) x.cs with ⟨dU,dQ⟩|⟨k,c,dU,dQ,fT,_⟩
  ·exact .inl ⟨by unfold Mo.YI;rw[h1];exact dQ,.inr ⟨i,x,rfl,ac,h1,dU⟩⟩
  ·exact .inr ⟨i,x,k,c,rfl,ac,h1,dU,dQ,by unfold Mo.YI;rw[h1];exact fT⟩
def akm {o:Int}{nm:Ou}:(M.prop o nm=none/\(M.ob o=none\/∃ (i:Nat) (x:Ob),o=i/\M.objs[i]? = some x/\M.ob o=some x/\fP nm x.ps=none)) \/
  ∃ (i:Nat) (x:Ob) (k:Nat) (c:Pr),o=i/\M.objs[i]? = some x/\M.ob o=some x/\fP nm x.ps=some k/\x.ps[k]? = some c/\M.prop o nm=some c:=by
 rcases QG M o with ⟨h0,_⟩|⟨i,x,rfl,ac,h1⟩
 ·exact .inl ⟨by unfold Mo.prop;rw[h0];rfl,.inl h0⟩
 ·rcases VN (fun c=>YW nm c.name) x.ps with ⟨dU,dQ⟩|⟨k,c,dU,dQ,fT,_⟩
  ·exact .inl ⟨by unfold Mo.prop;rw[h1];exact dQ,.inr ⟨i,x,rfl,ac,h1,dU⟩⟩
  ·exact .inr ⟨i,x,k,c,rfl,ac,h1,dU,dQ,by unfold Mo.prop;rw[h1];exact fT⟩
def asl (h:Pz H R w M)(ab:M.Small K)(D:K<=1000000000)(s:Int)(nm:Ou)(v:Va) :
  Oq 198 #[hP H,NY s,Oj nm,vA v] w fun e w'=>e=OA (TT (M.start s nm v).1)/\Pz H R w' (M.start s nm v).2/\O8 Th H w w':=by
 have hh:=h;obtain⟨aA,aB,os,b',h⟩:=h
 rcases abJ (M:=M) (s:=s) (nm:=nm) with ⟨ai,aa⟩|⟨i,x,k,c,rfl,ac,h1,E,eJ,_⟩
 ·refine(aiD h ab D s nm v ai).mono ?_;rintro e w' ⟨rfl,A⟩;have aw:M.start s nm v=(7,M):=by
   unfold Mo.start
   rcases aa with aa|⟨i,x,rfl,_,h1,E⟩
   ·rw[aa]
   ·rw[h1];simp only[E]
  rw[aw];exact⟨rfl,hh.same A⟩
 ·refine(aiE h ab D i x ac nm v k c E eJ).mono ?_;rintro e w' ⟨rfl,U,av⟩;have aw:M.start i nm v=(0,M.RD i ⟨x.outer,x.object,x.cs.set k ⟨c.name,v,c.kind,true⟩⟩):=by unfold Mo.start;rw[h1];simp only[E,eJ,Int.toNat_natCast]
  rw[aw];exact⟨rfl,⟨aA,aB,os,b',U⟩,av⟩
section
variable (h:Pz H R w M) (ok:M.Ok) (ab:M.Small K) (D:K<=1000000000)
include h ok ab D
def auO (o:Int)(nm:Ou) :
  Oq 315 #[hP H,NY o,Oj nm] w fun e w'=>e=OA (Om (M.cut o nm).1)/\Pz H R w' (M.cut o nm).2/\O8 Th H w w':=by
 have hh:=h;obtain⟨aA,aB,os,b',h⟩:=h
 rcases akm (M:=M) (o:=o) (nm:=nm) with ⟨ai,aa⟩|⟨i,x,k,c,rfl,ac,h1,E,eJ,al⟩
 ·refine(avR h ab D o nm ai).mono ?_;rintro e w' ⟨rfl,A⟩;have aw:M.cut o nm=(true,M):=by
   unfold Mo.cut
   rcases aa with aa|⟨i,x,rfl,_,h1,E⟩
   ·rw[aa]
   ·rw[h1];simp only[E]
  rw[aw];exact⟨rfl,hh.same A⟩
 ·
  cases aF:c.fixed with
  | true=>
   refine(al1 h ab D i nm al aF).mono ?_;rintro e w' ⟨rfl,A⟩;have aw:M.cut i nm=(false,M):=by unfold Mo.cut;rw[h1];simp only[E,eJ,aF,if_true]
   rw[aw];exact⟨rfl,hh.same A⟩
  | false=>
   refine(avS h ab D i x ac nm k c E eJ aF (ok.up i x ac)).mono ?_;rintro e w' ⟨rfl,⟨p3,U⟩,av⟩;have aw:M.cut i nm=(true,M.SI i ⟨x.code,x.ps.eraseIdx k⟩):=by unfold Mo.cut;rw[h1];simp[E,eJ,aF]
   rw[aw];exact⟨rfl,⟨aA,aB,p3,b',U⟩,av⟩
def av2 (s:Int)(nm:Ou) :
  Oq 297 #[hP H,NY s,Oj nm] w fun e w'=>e=OA (Om (M.drop s nm).1)/\Pz H R w' (M.drop s nm).2/\O8 Th H w w':=by
 have hh:=h;obtain⟨aA,aB,os,b',h⟩:=h
 rcases abJ (M:=M) (s:=s) (nm:=nm) with ⟨ai,_⟩|⟨i,x,k,c,rfl,ac,h1,E,eJ,ai⟩
 ·have aw:M.drop s nm=M.cut (M.QX s) nm:=by unfold Mo.drop;rw[ai]
  rw[aw];exact al3 h ab D s nm ai _ _ (fun W a6=>auO (hh.later a6) ok ab D _ nm)
 ·by_cases aN:c.kind=4
  ·refine(ar7 h ab D i x ac nm k c E eJ aN (ok.uc i x ac)).mono ?_;rintro e w' ⟨rfl,⟨mO,U⟩,av⟩;have aw:M.drop i nm=(true,M.RD i ⟨x.outer,x.object,x.cs.eraseIdx k⟩):=by unfold Mo.drop;rw[ai,h1];simp[E,aN]
   rw[aw];exact⟨rfl,⟨aA,aB,os,mO,U⟩,av⟩
  ·refine(al2 h ab D i nm ai aN).mono ?_;rintro e w' ⟨rfl,A⟩;have aw:M.drop i nm=(false,M):=by unfold Mo.drop;rw[ai];simp[aN]
   rw[aw];exact⟨rfl,hh.same A⟩
end
section
variable (h:Pz H R w M) (ab:M.Small K) (D:K<=1000000000)
include h ab D
def aey (s:Int)(nm:Ou)(v:Va) :
  Oq 267 #[hP H,NY s,Oj nm,vA v] w fun e w'=>e=OA (TT (M.write s nm v).1)/\Pz H R w' (M.write s nm v).2/\O8 Th H w w':=by
 have hh:=h;obtain⟨aA,aB,os,b',h⟩:=h
 cases hhas:M.has s nm with
 | false=>
  refine(aoE h ab D s nm v hhas).mono ?_;rintro e w' ⟨rfl,A⟩;have aw:M.write s nm v=(7,M):=by unfold Mo.write;rw[hhas];rfl
  rw[aw];exact⟨rfl,hh.same A⟩
 | true=>
  rcases abJ (M:=M) (s:=s) (nm:=nm) with ⟨ai,_⟩|⟨i,x,k,c,rfl,ac,h1,E,eJ,ai⟩
  ·have al:(M.prop (M.QX s) nm).isSome=true:=by
    unfold Mo.has at hhas;rw[ai] at hhas;simpa using hhas
   rcases akm (M:=M) (o:=M.QX s) (nm:=nm) with ⟨ax,_⟩|⟨j,y,k,p,aS,hy,h1,E,qG,_⟩
   ·rw[ax] at al;cases al
   ·refine(aiG h ab D s nm v ai j y aS hy k p E qG).mono ?_;rintro e w' ⟨rfl,U,av⟩;have aw:M.write s nm v=(0,M.SI j ⟨y.code,y.ps.set k ⟨p.name,v,p.fixed⟩⟩):=by
     unfold Mo.write Mo.put;rw[hhas,if_pos rfl,ai];simp only[h1,E,qG];rw[aS,Int.toNat_natCast]
    rw[aw];exact⟨rfl,⟨aA,aB,os,b',U⟩,av⟩
  ·
   cases aa:c.ready with
   | false=>
    refine(agA h ab D i x ac nm v k c E eJ aa).mono ?_;rintro e w' ⟨rfl,A⟩;have aw:M.write i nm v=(6,M):=by unfold Mo.write;rw[hhas,if_pos rfl,ai];simp[aa]
    rw[aw];exact⟨rfl,hh.same A⟩
   | true=>
    by_cases U:c.kind=2
    ·refine(agB h ab D i x ac nm v k c E eJ aa U).mono ?_;rintro e w' ⟨rfl,A⟩;have aw:M.write i nm v=(1,M):=by unfold Mo.write;rw[hhas,if_pos rfl,ai];simp[aa,U]
     rw[aw];exact⟨rfl,hh.same A⟩
    ·by_cases av:c.kind=3
     ·refine(al8 h ab D i x ac nm v k c E eJ aa av).mono ?_;rintro e w' ⟨rfl,A⟩;have aw:M.write i nm v=(5,M):=by unfold Mo.write;rw[hhas,if_pos rfl,ai];simp[aa,av]
      rw[aw];exact⟨rfl,hh.same A⟩
     ·refine(aoF h ab D i x ac nm v k c E eJ aa U av).mono ?_;rintro e w' ⟨rfl,bU,ej⟩;have aw:M.write i nm v=(0,M.RD i ⟨x.outer,x.object,x.cs.set k ⟨c.name,v,c.kind,c.ready⟩⟩):=by unfold Mo.write;rw[hhas,if_pos rfl,ai];simp[aa,U,av,h1,E]
      rw[aw];exact⟨rfl,⟨aA,aB,os,b',bU⟩,ej⟩
def aez (u o:Int)(aQ:u = -1\/(M.ro u).isSome=true)(aO:o = -1\/(M.ob o).isSome=true) :
  Oq 105 #[hP H,NY u,NY o] w fun e w'=>e=OA (NY (M.Ov.length:Int))/\Pz H R w' (M.scope u o)/\O8 Th H w w':=by
 obtain⟨aA,aB,os,b',h⟩:=h;have bY:M.ro (-1)=none:=rfl;have bH:M.ob (-1)=none:=rfl
 rcases PK M u with ⟨Bi,_⟩|⟨i,x,rfl,ac,o2⟩
 ·have wK:u = -1:=aQ.resolve_right (by rw[Bi];simp)
  subst wK
  rcases QG M o with ⟨wu,_⟩|⟨j,y,rfl,hy,wv⟩
  ·have kw:o = -1:=aO.resolve_right (by rw[wu];simp)
   subst kw;exact aoj h ab D
  ·have aw:M.scope (-1) j=⟨M.objs,M.Ov++[⟨-1,j,[]⟩]⟩:=by unfold Mo.scope;rw[bY,wv];rfl
   rw[aw];exact aon h ab D j y hy
 ·rcases QG M o with ⟨wu,_⟩|⟨j,y,rfl,hy,wv⟩
  ·have kw:o = -1:=aO.resolve_right (by rw[wu];simp)
   subst kw;have aw:M.scope i (-1)=⟨M.objs,M.Ov++[⟨i,-1,[]⟩]⟩:=by unfold Mo.scope;rw[o2,bH];rfl
   rw[aw];exact aol h ab D i x ac
  ·have aw:M.scope i j=⟨M.objs,M.Ov++[⟨i,j,[]⟩]⟩:=by unfold Mo.scope;rw[o2,wv];rfl
   rw[aw];exact aoo h ab D i x ac j y hy
def auP (s:Int)(nm:Ou):Oq 55 #[hP H,NY s,Oj nm] w fun e w'=>e=OA (Om (M.has s nm))/\Oo w w':=by
 obtain⟨aA,aB,os,b',h⟩:=h;exact Yq h ab D s nm
def aAP (o:Int)(nm:Ou):Oq 124 #[hP H,NY o,Oj nm] w fun e w'=>e=OA (.tuple #[aos (M.prop o nm),Om (M.prop o nm).isSome])/\Oo w w':=by
 obtain⟨aA,aB,os,b',h⟩:=h;exact get_any h ab D o nm
def av3 (s:Int)(nm:Ou):Oq 353 #[hP H,NY s,Oj nm] w fun e w'=>e=OA (NY (M.kindOf s nm))/\Oo w w':=by
 obtain⟨aA,aB,os,b',h⟩:=h;exact Zr h ab D s nm
end
section
variable (h:Pz H R w M)
include h
def aiK (s:Int):Oq 209 #[hP H,NY s] w fun e w'=>e=OA (NY (M.codeOf s))/\w'=w:=by
 obtain⟨aA,aB,os,b',h⟩:=h;exact X7 h s
def akn (s:Int):Oq 125 #[hP H,NY s] w fun e w'=>e=OA (NY (M.QX s))/\w'=w:=by
 obtain⟨aA,aB,os,b',h⟩:=h;exact aac h s
def asn (s:Int):Oq 252 #[hP H,NY s] w fun e w'=>e=OA (NY (M.outOf s))/\w'=w:=by
 obtain⟨aA,aB,os,b',h⟩:=h;exact adE h s
def abK (ab:M.Small K)(D:K<=1000000000)(c:Int) :
  Oq 49 #[hP H,NY c] w fun e w'=>e=OA (NY M.objs.length)/\Pz H R w' (M.OY c)/\O8 Th H w w':=by
 obtain⟨aA,aB,os,b',h⟩:=h;exact al4 h ab D c
end
end
section
variable {α:Type} {f:α->Ou} {l:List α}
include α f l
def abL {k:Nat}{a b:α}(h:uniq f l)(ay:l[k]? = some a)(A:f b=f a):uniq f (l.set k b):=by
 have key:∀ (i:Nat) c,(l.set k b)[i]? = some c->∃ eT,l[i]? = some eT/\f c=f eT:=fun i c ai=>by
  by_cases ya:k=i
  ·subst ya;have hl:k<l.length:=(List.getElem?_eq_some_iff.1 ay).1;rw[List.getElem?_set_self hl] at ai;cases ai;exact⟨a,ay,A⟩
  ·rw[List.getElem?_set_ne ya] at ai;exact⟨c,ai,rfl⟩
 intro i j c d ai hd ao;have⟨eT,sS,aw⟩:=key i c ai;have⟨oI,sU,bi⟩:=key j d hd;exact h i j eT oI sS sU (by rw[<-aw,<-bi];exact ao)
def adH {b:α}(h:uniq f l)(ax:∀ a ∈ l,(f a).toList≠(f b).toList):uniq f (l++[b]):=by
 have key:∀ (i:Nat) c,(l++[b])[i]? = some c->(i<l.length/\l[i]? = some c)\/(i=l.length/\c=b):=fun i c ai=>by
  by_cases az:i<l.length
  ·rw[List.getElem?_append_left az] at ai;exact .inl ⟨az,ai⟩
  ·rw[List.getElem?_append_right Oe] at ai;have h0:=(List.getElem?_eq_some_iff.1 ai).1;simp at h0;have:i=l.length:=Oe;subst this;simp at ai;exact .inr ⟨rfl,ai.symm⟩
 intro i j c d ai hd ao
 rcases key i c ai with ⟨_,h1⟩|⟨aw,rfl⟩ <;> rcases key j d hd with ⟨_,U⟩|⟨bi,rfl⟩
 ·exact h i j c d h1 U ao
 ·exact absurd ao (ax c (List.mem_of_getElem? h1))
 ·exact absurd ao.symm (ax d (List.mem_of_getElem? U))
 ·omega
def abM {k:Nat}(h:uniq f l):uniq f (l.eraseIdx k):=by
 intro i j c d ai hd ao;rw[List.getElem?_eraseIdx] at ai hd
 split at ai <;> split at hd
 all_goals
  have:=h _ _ c d ai hd ao;omega
end
def av4 {nm:Ou}{l:List Pr}(h:fP nm l=none):∀ a ∈ l,a.name.toList≠nm.toList:=fun a ay=>by
 have:=List.findIdx?_eq_none_iff.1 h a ay;simpa[YW] using this
def av5 {nm:Ou}{l:List Ce}(h:fC nm l=none):∀ a ∈ l,a.name.toList≠nm.toList:=fun a ay=>by
 have:=List.findIdx?_eq_none_iff.1 h a ay;simpa[YW] using this
def aa8 {α:Type}{l:List α}{i j:Nat}{x y:α}(h:(l.set i x)[j]? = some y):(i=j/\y=x/\i<l.length)\/l[j]? = some y:=by
 by_cases D3:i=j
 ·subst D3;have hl:i<l.length:=by have:=(List.getElem?_eq_some_iff.1 h).1;simpa using this
  rw[List.getElem?_set_self hl] at h;cases h;exact .inl ⟨rfl,rfl,hl⟩
 ·rw[List.getElem?_set_ne D3] at h;exact .inr h
def Mo.Small.mono {M:Mo}{k lB:Nat}(h:M.Small k)(E:k<=lB):M.Small lB:=
 ⟨Nat.le_trans h.o E,Nat.le_trans h.r E,fun x ac=>Nat.le_trans (h.ps x ac) E,fun x ac=>Nat.le_trans (h.cs x ac) E⟩
structure Mo.Go (M:Mo)(k:Nat):Prop where
 ok:M.Ok
 sm:M.Small k
def Mo.Go.up {M:Mo}{k lB:Nat}(h:M.Go k)(E:k<=lB):M.Go lB:=⟨h.ok,h.sm.mono E⟩
def Mo.Go.SI {M:Mo}{k i:Nat}{x':Ob}(h:M.Go k)(aQ:uniq Pr.name x'.ps)(hl:x'.ps.length<=k+1):(M.SI i x').Go (k+1):=by
 refine⟨⟨h.ok.out,fun j y aS=>?_,fun j y aS=>?_,h.ok.uc⟩,⟨?_,Nat.le_succ_of_le h.sm.r,fun y hy=>?_,fun y hy=>Nat.le_succ_of_le (h.sm.cs y hy)⟩⟩
 ·have:=h.ok.obj j y aS;simpa[Mo.SI] using this
 ·rcases aa8 aS with ⟨_,rfl,_⟩|aS
  ·exact aQ
  ·exact h.ok.up j y aS
 ·have:=h.sm.o;simp[Mo.SI];omega
 ·rcases List.mem_or_eq_of_mem_set hy with hy|rfl
  ·exact Nat.le_succ_of_le (h.sm.ps y hy)
  ·exact hl
def Mo.Go.RD {M:Mo}{k i:Nat}{x x':Ro}(h:M.Go k)(az:M.Ov[i]? = some x)(aO:x'.outer=x.outer)(A:x'.object=x.object)(aQ:uniq Ce.name x'.cs)(hl:x'.cs.length<=k+1):(M.RD i x').Go (k+1):=by
 refine⟨⟨fun j y aS=>?_,fun j y aS=>?_,h.ok.up,fun j y aS=>?_⟩,⟨Nat.le_succ_of_le h.sm.o,?_,fun y hy=>Nat.le_succ_of_le (h.sm.ps y hy),fun y hy=>?_⟩⟩
 ·rcases aa8 aS with ⟨rfl,rfl,_⟩|aS
  ·rw[aO];exact h.ok.out i x az
  ·exact h.ok.out j y aS
 ·rcases aa8 aS with ⟨rfl,rfl,_⟩|aS
  ·rw[A];exact h.ok.obj i x az
  ·exact h.ok.obj j y aS
 ·rcases aa8 aS with ⟨_,rfl,_⟩|aS
  ·exact aQ
  ·exact h.ok.uc j y aS
 ·have:=h.sm.r;simp[Mo.RD];omega
 ·rcases List.mem_or_eq_of_mem_set hy with hy|rfl
  ·exact Nat.le_succ_of_le (h.sm.cs y hy)
  ·exact hl
section
variable {M:Mo} {k:Nat} (h:M.Go k) (o:Int) (nm:Ou)
include M k h o nm
def Mo.Go.put (v:Va)(fx:Bool):(M.put o nm v fx).2.Go (k+1):=by
 unfold Mo.put
 rcases QG M o with ⟨h0,_⟩|⟨i,x,rfl,ac,h1⟩
 ·rw[h0];exact h.up (Nat.le_succ _)
 ·rw[h1];have aR:=h.sm.ps x (List.mem_of_getElem? ac);have aQ:=h.ok.up i x ac
  cases E:fP nm x.ps with
  | none=>
   simp only[E];exact h.SI (adH aQ (av4 E)) QY
  | some j=>
   simp only[E]
   cases ai:x.ps[j]? with
   | none=>exact h.up (Nat.le_succ _)
   | some c=>exact h.SI (abL aQ ai rfl) QY
def Mo.Go.cut:(M.cut o nm).2.Go (k+1):=by
 unfold Mo.cut
 rcases QG M o with ⟨h0,_⟩|⟨i,x,rfl,ac,h1⟩
 ·rw[h0];exact h.up (Nat.le_succ _)
 ·rw[h1];have aR:=h.sm.ps x (List.mem_of_getElem? ac);have aQ:=h.ok.up i x ac
  cases E:fP nm x.ps with
  | none=>simp only[E];exact h.up (Nat.le_succ _)
  | some j=>
   simp only[E]
   cases ai:x.ps[j]? with
   | none=>exact h.up (Nat.le_succ _)
   | some c=>
    simp only
    split
    ·exact h.up (Nat.le_succ _)
    ·exact h.SI (abM aQ) (by rw[List.length_eraseIdx];split <;> omega)
end
section
variable {M:Mo} {k:Nat} (h:M.Go k) (s:Int) (nm:Ou)
include M k h s nm
def Mo.Go.declare (kd:Int)(v:Va):(M.declare s nm kd v).2.Go (k+1):=by
 unfold Mo.declare
 rcases PK M s with ⟨h0,_⟩|⟨i,x,rfl,ac,h1⟩
 ·rw[h0];exact h.up (Nat.le_succ _)
 ·rw[h1];have aR:=h.sm.cs x (List.mem_of_getElem? ac);have aQ:=h.ok.uc i x ac;simp only
  split
  ·exact h.up (Nat.le_succ _)
  ·
   cases E:fC nm x.cs with
   | some j=>exact h.up (Nat.le_succ _)
   | none=>
    simp only[Int.toNat_natCast];exact h.RD ac rfl rfl (adH aQ (av5 E)) QY
def Mo.Go.start (v:Va):(M.start s nm v).2.Go (k+1):=by
 unfold Mo.start
 rcases PK M s with ⟨h0,_⟩|⟨i,x,rfl,ac,h1⟩
 ·rw[h0];exact h.up (Nat.le_succ _)
 ·rw[h1];have aR:=h.sm.cs x (List.mem_of_getElem? ac);have aQ:=h.ok.uc i x ac
  cases E:fC nm x.cs with
  | none=>simp only[E];exact h.up (Nat.le_succ _)
  | some j=>
   simp only[E]
   cases ai:x.cs[j]? with
   | none=>exact h.up (Nat.le_succ _)
   | some c=>
    simp only[Int.toNat_natCast];exact h.RD ac rfl rfl (abL aQ ai rfl) QY
def Mo.Go.write (v:Va):(M.write s nm v).2.Go (k+1):=by
 unfold Mo.write
 split
 ·rcases abJ (M:=M) (s:=s) (nm:=nm) with ⟨ai,_⟩|⟨i,x,j,c,rfl,ac,h1,E,eJ,ai⟩
  ·rw[ai];exact h.put _ nm v false
  ·have aR:=h.sm.cs x (List.mem_of_getElem? ac);have aQ:=h.ok.uc i x ac;rw[ai];simp only[h1,E,Int.toNat_natCast]
   split
   ·exact h.up (Nat.le_succ _)
   ·split
    ·exact h.up (Nat.le_succ _)
    ·split
     ·exact h.up (Nat.le_succ _)
     ·exact h.RD ac rfl rfl (abL aQ eJ rfl) QY
 ·exact h.up (Nat.le_succ _)
def Mo.Go.drop:(M.drop s nm).2.Go (k+1):=by
 unfold Mo.drop
 rcases abJ (M:=M) (s:=s) (nm:=nm) with ⟨ai,_⟩|⟨i,x,j,c,rfl,ac,h1,E,eJ,ai⟩
 ·rw[ai];exact h.cut _ nm
 ·have aR:=h.sm.cs x (List.mem_of_getElem? ac);have aQ:=h.ok.uc i x ac;rw[ai];simp only[h1,E,Int.toNat_natCast]
  split
  ·exact h.up (Nat.le_succ _)
  ·exact h.RD ac rfl rfl (abM aQ) (by show (x.cs.eraseIdx j).length<=_;rw[List.length_eraseIdx];split <;> omega)
end
def agC {α:Type}(f:α->Ou):uniq f []:=fun i j a b h=>by simp at h
def Mo.Go.OY {M:Mo}{k:Nat}(h:M.Go k)(c:Int):(M.OY c).Go (k+1):=by
 refine⟨⟨h.ok.out,fun i x ac=>?_,fun i x ac=>?_,h.ok.uc⟩,⟨?_,Nat.le_succ_of_le h.sm.r,fun x ac=>?_,fun x ac=>Nat.le_succ_of_le (h.sm.cs x ac)⟩⟩
 ·rcases h.ok.obj i x ac with e|⟨j,e,aS⟩
  ·exact .inl e
  ·exact .inr ⟨j,e,by simp[Mo.OY];omega⟩
 ·rcases Nat.lt_or_ge i M.objs.length with az|az
  ·have eC:(M.objs++[(⟨c,[]⟩:Ob)])[i]? = some x:=ac;rw[List.getElem?_append_left az] at eC;exact h.ok.up i x eC
  ·have eC:(M.objs++[(⟨c,[]⟩:Ob)])[i]? = some x:=ac;have aR:=List.mem_of_getElem? (by rw[List.getElem?_append_right az] at eC;exact eC)
   rw[List.mem_singleton.1 aR];exact agC _
 ·have:=h.sm.o;simp[Mo.OY];omega
 ·rcases List.mem_append.1 ac with ac|ac
  ·exact Nat.le_succ_of_le (h.sm.ps x ac)
  ·rw[List.mem_singleton.1 ac];simp
def Mo.Go.scope {M:Mo}{k:Nat}(h:M.Go k)(u o:Int):(M.scope u o).Go (k+1):=by
 have key:∀ (i:Nat) (x:Ro),(M.scope u o).Ov[i]? = some x->M.Ov[i]? = some x\/(i=M.Ov.length/\x=⟨if (M.ro u).isSome then u else -1,if (M.ob o).isSome then o else -1,[]⟩):=fun i x ac=>by
  have eC:(M.Ov++[(⟨if (M.ro u).isSome then u else -1,if (M.ob o).isSome then o else -1,[]⟩:Ro)])[i]? = some x:=ac
  rcases Nat.lt_or_ge i M.Ov.length with az|az
  ·rw[List.getElem?_append_left az] at eC;exact .inl eC
  ·rw[List.getElem?_append_right az] at eC;have hl:=(List.getElem?_eq_some_iff.1 eC).1;simp at hl;exact .inr ⟨by omega,List.mem_singleton.1 (List.mem_of_getElem? eC)⟩
 refine⟨⟨fun i x ac=>?_,fun i x ac=>?_,h.ok.up,fun i x ac=>?_⟩,⟨Nat.le_succ_of_le h.sm.o,?_,fun x ac=>Nat.le_succ_of_le (h.sm.ps x ac),fun x ac=>?_⟩⟩
 ·rcases key i x ac with ac|⟨rfl,rfl⟩
  ·exact h.ok.out i x ac
  ·show -1<=(if (M.ro u).isSome=true then u else -1)/\(if (M.ro u).isSome=true then u else -1)<(M.Ov.length:Int)
   rcases PK M u with ⟨h0,_⟩|⟨j,y,rfl,hy,h1⟩
   ·rw[h0];simp;omega
   ·rw[h1];have:=(List.getElem?_eq_some_iff.1 hy).1;simp;omega
 ·rcases key i x ac with ac|⟨rfl,rfl⟩
  ·exact h.ok.obj i x ac
  ·show (if (M.ob o).isSome=true then o else -1) = -1\/∃ j:Nat,(if (M.ob o).isSome=true then o else -1)=j/\j<M.objs.length
   rcases QG M o with ⟨h0,_⟩|⟨j,y,rfl,hy,h1⟩
   ·rw[h0];exact .inl rfl
   ·rw[h1];exact .inr ⟨j,rfl,(List.getElem?_eq_some_iff.1 hy).1⟩
 ·rcases key i x ac with ac|⟨rfl,rfl⟩
  ·exact h.ok.uc i x ac
  ·exact agC _
 ·have:=h.sm.r;simp[Mo.scope];omega
 ·rcases List.mem_append.1 ac with ac|ac
  ·exact Nat.le_succ_of_le (h.sm.cs x ac)
  ·rw[List.mem_singleton.1 ac];simp
section
variable {H:Nat} {R:List Ot} {w w1:Og} {M:Mo} {aA aB:Ot} {os b':List Ot} {K:Nat}
def aoK (h:HP H R w M aA aB os b')(ab:M.Small K)(D:K<=1000000000)(i:Nat)(x:Ro)(az:M.Ov[i]? = some x)(o:Int)(aO:o<0\/(M.objs.length:Int)<=o) :
  Oq 105 #[Oy H 0,NY (i:Int),NY o] w fun e w'=>e=OA (NY (M.Ov.length:Int))/\Pz H R w' ⟨M.objs,M.Ov++[⟨(i:Int),(-1),[]⟩]⟩/\O8 Th H w w':=by
 have z:=N8 (∀{G}(h:G:=by
 have f7:Oo w (w.alloc (.cells #[NY (i:Int),NY o,Qv] 198)):=PE;have⟨CX,x7⟩:=aom (h.later f7) i x az;clear az;have d7:=(Yo aA _ (Qj h.ob.row) o (by simpa using aO) (w.alloc (.cells #[NY (i:Int),NY o,Qv] 198)));clear aO;have YA:∀(w1:Og)(_:Below (w.heap.size+1) (w.alloc (.cells #[NY i,NY (-1),Qv] 198)) w1),_:=fun _ h=>YA h;exact aAy),G);exact aok
def aso (h:Pz H R w M)(ab:M.Small K)(D:K<=1000000000)(u o:Int)(aQ:(M.ro u).isSome=true) :
  Oq 105 #[hP H,NY u,NY o] w fun e w'=>e=OA (NY (M.Ov.length:Int))/\Pz H R w' (M.scope u o)/\O8 Th H w w':=by
 rcases PK M u with ⟨Bi,_⟩|⟨i,x,rfl,ac,o2⟩
 ·rw[Bi] at aQ;cases aQ
 ·rcases QG M o with ⟨wu,hout⟩|⟨j,y,rfl,hy,wv⟩
  ·have aw:M.scope i o=⟨M.objs,M.Ov++[⟨i,-1,[]⟩]⟩:=by unfold Mo.scope;rw[o2,wu];rfl
   rw[aw];obtain⟨aA,aB,os,b',h⟩:=h;exact aoK h ab D i x ac o hout
  ·exact aez h ab D i j (Or.inr (by rw[o2];rfl)) (Or.inr (by rw[wv];rfl))
