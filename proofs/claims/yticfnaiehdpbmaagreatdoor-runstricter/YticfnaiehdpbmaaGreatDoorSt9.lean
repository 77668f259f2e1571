import Derived.Test.YticfnaiehdpbmaaGreatDoorSt8
set_option maxRecDepth 100000
set_option maxHeartbeats 8000000
set_option linter.all false
namespace Go.Proofs.YticfnaiehdpbmaaGreatDoor
open Go.RowKit Go.Proofs.Tryz
namespace Hp
def aa9 (o:Int)(w:Og):Oq 106 #[NY o] w fun e w'=>e=OA (vA (SQ o))/\Oo w w':=by
 go_enter func106,ntmps106
 go_wp2
 refine bodyPost_ret (v:=vA (SQ o)) (by simp[results,results106,go_sem,SQ]) rfl ⟨rfl,?_⟩;exact PE
def aeB (o:Int)(w:Og):Oq 253 #[NY o] w fun e w'=>e=OA (vA (V7 o))/\Oo w w':=by
 go_enter func253,ntmps253
 go_wp2
 refine bodyPost_ret (v:=vA (V7 o)) (by simp[results,results253,go_sem,V7]) rfl ⟨rfl,?_⟩;exact PE
def Zu (s:Ou)(w:Og):Oq 254 #[Oj s] w fun e w'=>e=OA (vA (VD s))/\Oo w w':=by
 go_enter func254,ntmps254
 go_wp2
 refine bodyPost_ret (v:=vA (VD s)) (by simp[results,results254,go_sem,VD]) rfl ⟨rfl,?_⟩;exact PE
def VF (b:Bool)(w:Og):Oq 255 #[Om b] w fun e w'=>e=OA (vA (PX b))/\Oo w w':=by
 cases b
 ·go_enter func255,ntmps255
  go_wp2
  refine bodyPost_ret (v:=vA (PX false)) (by simp[results,results255,go_sem,PX]) rfl ⟨rfl,?_⟩;exact PE
 ·go_enter func255,ntmps255
  go_wp2
  refine bodyPost_ret (v:=vA (PX true)) (by simp[results,results255,go_sem,PX]) rfl ⟨rfl,?_⟩;exact PE
def WW (s:Ou)(w:Og):Oq 269 #[Oj s] w fun e w'=>(∃ b,e=OA (.iface 122 (Oy b 0))/\w.heap.size<=b/\w'.heap[b]? = some (OM #[NY 4,NY 0,Oj s] 126))/\Oo w w':=by
 have aj:=(Zu s w);go_enter func269,ntmps269;go_wp2_with fail;refine cm aj ?_;rintro e w1 ⟨rfl,A⟩;go_wp2;go_ret;refine⟨⟨w1.heap.size,rfl,A.size,?_⟩,A.alloc A.size _⟩;exact Oi _ _
def adI (s:Ou):s.toList.isEmpty=decide (s=Oh):=by
 by_cases h:s=Oh
 ·subst h;have av:Oh.toList=[]:=by decide +kernel
  rw[av];simp
 ·have U:=U6 (b:=Oh) (l:=[]) rfl h;rw[decide_eq_false h]
  cases hl:s.toList with
  | nil=>rw[hl] at U;cases U
  | cons _ _=>rfl
def WX (v:Va)(w:Og):Oq 132 #[vA v] w fun e w'=>e=OA (Om v.tru)/\Oo w w':=by
 obtain⟨k,n,s⟩:=v
 by_cases b9:k=0
 ·subst b9;go_enter func132,ntmps132
  go_wp2
  go_ret;exact⟨rfl,PE⟩
 by_cases bP:k=1
 ·subst bP;go_enter func132,ntmps132
  go_wp2
  go_ret;exact⟨rfl,PE⟩
 by_cases de:k=2
 ·subst de;have aw:Va.tru ⟨2,n,s⟩=(n != 0):=rfl;exact asr
 by_cases g8:k=3
 ·subst g8;have aw:Va.tru ⟨3,n,s⟩=(n != 0):=rfl;exact asr
 by_cases k4:k=4
 ·subst k4;have aw:Va.tru ⟨4,n,s⟩ = !s.toList.isEmpty:=by rw[adI];rfl
  exact asr
 have aw:Va.tru ⟨k,n,s⟩=true:=by unfold Va.tru;simp[b9,bP,de,g8,k4]
 exact asr
def WZ (es:Ot)(w:Og)(v:Ot):Er->Prop
 | .no=>v=.nilIface
 | .stop=>v=es
 | .X8 x=>∃ b,v=.iface 122 (Oy b 0)/\w.heap[b]? = some (OM #[NY x.k,NY x.n,Oj x.s] 126)
 | .mis=>v=.iface 34 (NY 7)
def WZ.later {es:Ot}{w w':Og}{v:Ot}{e:Er}(h:WZ es w v e)(A:Oo w w'):WZ es w' v e:=by
 cases e with
 | no=>exact h
 | stop=>exact h
 | mis=>exact h
 | X8 x=>
  obtain⟨b,h1,U⟩:=h;exact⟨b,h1,by rw[A.block b (lt_of_heap U)];exact U⟩
def amf (es:Ot)(n:Int)(ax:¬ (n < -1000000000\/1000000000<n))(w:Og):Oq 314 #[NY n] w fun e w'=>(∃ ev,e=OA (.tuple #[vA (UN n).1,ev])/\WZ es w' ev (UN n).2)/\Oo w w':=by
 have aw:UN n=(V7 n,.no):=by unfold UN;rw[if_neg ax]
 rw[aw];have h1:¬ n < -1000000000:=fun h=>ax (Or.inl h);have U:¬ n > 1000000000:=fun h=>ax (Or.inr h);have aj:Hid (∀ W,Oq 253 #[NY n] W fun e w'=>e=OA (vA (V7 n))/\Oo W w'):=fun W=>aeB n W;clear ax aw;go_enter func314,ntmps314;go_wp2_with fail;refine cm (NZ aj _) ?_;rintro e w1 ⟨rfl,A⟩;have⟨dl,bT,cY,fp,nl⟩:=YA (A.mono OW);have l7:=fp 0;have l8:=fp 1;have l9:=fp 2;clear fp;go_wp2_with fail
 refine bodyPost_ret (v:=.tuple #[vA (V7 n),Qd]) (by simp[results,results314,go_sem,dl,bT,cY,V7]) rfl ⟨⟨_,rfl,rfl⟩,?_⟩;exact below3 (PE.trans (A.mono OW)) Pg _ _ _
def aiU (es:Ot)(n:Int)(ax:n < -1000000000\/1000000000<n)(w:Og):Oq 314 #[NY n] w fun e w'=>(∃ ev,e=OA (.tuple #[vA (UN n).1,ev])/\WZ es w' ev (UN n).2)/\Oo w w':=by
 have aw:UN n=(vU,bad Uw):=by unfold UN;rw[if_pos ax]
 rw[aw];have aj:Hid (∀ W,Oq 269 #[Oj Uw] W fun e w'=>(∃ b,e=OA (.iface 122 (Oy b 0))/\W.heap.size<=b/\w'.heap[b]? = some (OM #[NY 4,NY 0,Oj Uw] 126))/\Oo W w'):=fun W=>WW Uw W;clear aw;go_enter func314,ntmps314
 by_cases h1:n < -1000000000
 all_goals
  have U:n < -1000000000\/n > 1000000000:=ax;have av:¬ n < -1000000000->n > 1000000000:=fun h=>ax.resolve_left h
  try have aN:=av h1
  clear ax U av;go_wp2_with fail;refine cm (NZ aj _) ?_;rintro e w1 ⟨⟨b,rfl,ll,hbk⟩,A⟩;have⟨dl,bT,cY,fp,nl⟩:=YA (A.mono OW);have l7:=fp 0;have l8:=fp 1;have l9:=fp 2;have f1:=hide hbk;have dX:=hide ll;clear fp hbk ll;go_wp2_with fail;refine bodyPost_ret (v:=.tuple #[vA vU,.iface 122 (Oy b 0)]) (by simp[results,results314,go_sem,dl,bT,cY,vU]) rfl ⟨⟨_,rfl,b,rfl,?_⟩,?_⟩
  ·have cC:b≠w.heap.size:=by have:=NZ dX;simp at this;omega
   rw[heap_setCell_other _ _ _ _ cC,heap_setCell_other _ _ _ _ cC,heap_setCell_other _ _ _ _ cC];exact NZ f1
  ·exact below3 (PE.trans (A.mono OW)) Pg _ _ _
abbrev mR (σ:St)(aT aB aA aK:Ot)(af:Nat):List Ot:=[aT,NY 0,Pm,NY (σ.steps:Int),aB,.map (some af),aA,aK,NY (σ.calls:Int),NY 0,NY 0,NY 1]
section
variable {H:Nat} {R:List Ot} {w:Og} {M:Mo}
include H R w M
def HP.cell {aA aB:Ot}{os b':List Ot}(h:HP H R w M aA aB os b')(j:Nat)(u:Ot) :
  HP H (R.set j u) (w.setCell (N9 H (j+2)) u) M aA aB os b'/\O8 [84] H w (w.setCell (N9 H (j+2)) u):=by
 have A:=h.blk;have f:O8 [84] H w (w.setCell (N9 H (j+2)) u):=O8.setCell (O8.of QI (OO (lt_of_block A))) A OW Pg _;refine⟨⟨?_,h.ob.keep f Ol Ol,h.ro.keep f Ol Ol⟩,f⟩;rw[heap_setCell_same w H (j+2) _ 84 _ A]
 congr 2
 apply Array.ext';simp
def Pz.cell (h:Pz H R w M)(j:Nat)(u:Ot):Pz H (R.set j u) (w.setCell (N9 H (j+2)) u) M/\O8 [84] H w (w.setCell (N9 H (j+2)) u):=by
 obtain⟨aA,aB,os,b',h⟩:=h;exact⟨⟨aA,aB,os,b',(h.cell j u).1⟩,(h.cell j u).2⟩
def Pz.at_ (h:Pz H R w M)(j:Nat)(u:Ot)(aS:R[j]? = some u):w.cell? (N9 H (j+2))=some u/\w.frozen? (N9 H (j+2))=false:=by
 obtain⟨aA,aB,os,b',h⟩:=h;have A:=h.blk;refine⟨?_,by simp[World.frozen?,A]⟩;simp[World.cell?,A,aS]
end
def apb {mb af:Nat}{σ:St}{aT aB aA aK es:Ot}{w:Og}(h:Pz mb (mR σ aT aB aA aK af) w σ.M)(ab:σ.steps<=20000)(ao:w.cell? (N9 1 0)=some es)(aR:1<mb) :
  Oq 107 #[Oy mb 0] w fun e w'=>e=OA (if 20000<σ.steps+1 then es else Qd)/\Pz mb (mR σ.step aT aB aA aK af) w' σ.M/\O8 [84] mb w w':=by
 obtain⟨C4,C9⟩:=h.at_ 3 _ rfl;have c5:w.cell? (N9 mb 5)=some (NY (σ.steps:Int)):=C4;have HF:w.frozen? (N9 mb 5)=false:=C9;clear C4 C9;have hl:=h.lt;have dT:=hide (h.cell 3 (NY ((σ.steps:Int)+1)));have bi:(mR σ aT aB aA aK af).set 3 (NY ((σ.steps:Int)+1))=mR σ.step aT aB aA aK af:=rfl;rw[bi] at dT;have bP:(w.setCell (N9 mb 5) (NY ((σ.steps:Int)+1))).cell? (N9 1 0)=some es:=by
  rw[World.cell?_of_block (w:=w) (a:=(N9 1 0)) (heap_setCell_other _ _ _ _ (show (1:Nat)≠mb by omega))];exact ao
 have eV:1<w.heap.size:=Oe;clear h ao bi
 by_cases bC:20000<σ.steps+1
 ·rw[if_pos bC];have az:(σ.steps:Int)+1 > 20000:=Oe;clear bC
  generalize σ.steps=n at *
  go_enter func107,ntmps107;go_wp2;go_ret;exact⟨rfl,dT.out⟩
 ·rw[if_neg bC];have az:¬ (σ.steps:Int)+1 > 20000:=Oe;clear bC
  generalize σ.steps=n at *
  go_enter func107,ntmps107;go_wp2;go_ret;exact⟨rfl,dT.out⟩
def row_of {w w':Og}{B e sz:Nat}{v:Ot}{n:Nat}{xs:List Ot}(h:w.ownsRow B e sz v n xs)(E:∀ g ck,v.ownBlock=some g->w.heap[g]? = some (OM ck e)->w'.heap[g]? = some (OM ck e)):w'.ownsRow B e sz v n xs:=by
 refine⟨h.1,?_⟩
 rcases h.2 with ax|⟨g,cap,ck,am,A,hg,rest⟩
 ·exact Or.inl ax
 ·exact Or.inr ⟨g,cap,ck,am,A,E g ck (by rw[am];rfl) hg,rest⟩
def Kp (w w':Og):Prop:=∀ (b:Nat) (c:Array Ot) (e:TypeId),w.heap[b]? = some (OM c e)->(e=40\/e=22)->w'.heap[b]? = some (OM c e)
mutual
def PO.kp {I:Nat->Prop}{w w':Og}(h:Kp w w'):∀ (t:Tr) (p:Nat),PO I w t p->PO I w' t p
 | .mk kd tx n ks,p,ax=>by
  rw[PO] at ax ⊢;obtain⟨al,v,ps,A,aa,E⟩:=ax;exact⟨al,v,ps,h _ _ _ A (Or.inl rfl),⟨row_of aa.1 fun g ck _ hg=>h _ _ _ hg (Or.inr rfl),aa.2⟩,Oz.kp h ks ps E⟩
def Oz.kp {I:Nat->Prop}{w w':Og}(h:Kp w w'):∀ (ap:List Tr) (ps:List Nat),Oz I w ap ps->Oz I w' ap ps
 | [],ps,ax=>by rw[Oz] at ax ⊢;exact ax
 | t::ap,ps,ax=>by
  rw[Oz] at ax ⊢;obtain⟨p,eH,M,rfl,h1,U⟩:=ax;exact⟨p,eH,M,rfl,PO.kp h t p h1,Oz.kp h ap eH U⟩
end
mutual
def Ri.kp {I:Nat->Prop}{w w':Og}(h:Kp w w'):∀ a:Ad,Ri I w a->Ri I w' a
 | .mk p kd tx n ks,ay=>by
  rw[Ri] at ay ⊢;obtain⟨ax,al,⟨v,A,aa⟩,E⟩:=ay;exact⟨PO.kp h _ _ ax,al,⟨v,h _ _ _ A (Or.inl rfl),row_of aa.1 fun g ck _ hg=>h _ _ _ hg (Or.inr rfl),aa.2⟩,QM.kp h ks E⟩
def QM.kp {I:Nat->Prop}{w w':Og}(h:Kp w w'):∀ es:List Ad,QM I w es->QM I w' es
 | [],_=>by rw[QM];trivial
 | a::es,ay=>by
  rw[QM] at ay ⊢;exact⟨Ri.kp h a ay.1,QM.kp h es ay.2⟩
end
def Tm:List TypeId:=Th++[9,54,3,211]
structure OV (L:Option Nat)(B:Nat)(w w':Og):Prop where
 below:Below B w w'
 rest:∀ (b:Nat) c (e:TypeId),w.heap[b]? = some (OM c e)->e ∉ Tm->some b≠L->w'.heap[b]? = some (OM c e)
section
variable {L:Option Nat} {B:Nat} {w w' w2:Og}
def OV.of (A:Oo w w')(a1:B<=w.heap.size):OV L B w w':=⟨A.mono a1,fun b _ _ h _ _=>(A.block b (lt_of_block h)).trans h⟩
def OV.trans (h:OV L B w w')(k:OV L B w' w2):OV L B w w2:=⟨h.below.trans k.below,fun x y e bB q r=>k.rest x y e (h.rest x y e bB q r) q r⟩
def OV.up (h:OV none B w w'):OV L B w w':=⟨h.below,fun x y e bB q _=>h.rest x y e bB q OW⟩
def OV.ofT (h:O8 Th B w w'):OV L B w w':=⟨h.below,fun x y e bB q _=>h.rest x y e bB (fun h=>q (List.mem_append_left _ h))⟩
def OV.down {b:Nat}(h:OV (some b) B w w')(A:w.heap.size<=b):OV none B w w':=⟨h.below,fun x y e bB q _=>h.rest x y e bB q (fun e=>by cases e;exact absurd (lt_of_block bB) Oe)⟩
def OV.kp (h:OV L B w w')(dA:∀ b,L=some b->∃ c,w.heap[b]? = some (OM c 65)):Kp w w':=fun b c e A ao=>h.rest b c e A (by rcases ao with rfl|rfl <;> decide) (fun hl=>by
 have⟨eT,ai⟩:=dA b hl.symm;exact QA A ai (by rcases ao with rfl|rfl <;> decide) rfl)
def Kp.of (A:Oo w w'):Kp w w':=fun b _ _ h _=>(A.block b (lt_of_block h)).trans h
def O8.kp (h:O8 Th B w w'):Kp w w':=fun b c e A ao=>h.rest b c e A (by rcases ao with rfl|rfl <;> decide)
end
structure OJ (O:List Nat)(w:Og)(a:Ad)(d:Nd):Prop where
 at_:Ri (fun _=>True) w a
 tr:a.tr=d.2
 no:match d.1 with
  | some k=>∃ i1 post,O=i1++a.UY++post/\i1.length=k
  | none=>∀ q ∈ a.UY,q ∉ O
def OJ.kp {O:List Nat}{w w':Og}{a:Ad}{d:Nd}(h:OJ O w a d)(E:Kp w w'):OJ O w' a d:=⟨Ri.kp E _ h.at_,h.tr,h.no⟩
def agU {O:List Nat}{w:Og}:∀ (es:List Ad) (no:Option Nat) (i:Nat) (k:Ad),QM (fun _=>True) w es->es[i]? = some k ->
  (match no with
   | some n=>∃ i1 post,O=i1++Ad.SL es++post/\i1.length=n
   | none=>∀ q ∈ Ad.SL es,q ∉ O)->∃ fX,(WU no (Ad.trs es))[i]? = some fX/\OJ O w k fX
 | [],_,i,k,_,h,_=>by simp at h
 | e::es,no,0,k,ay,h,ax=>by
  simp at h;subst h;rw[QM] at ay;refine⟨(no,e.tr),by rw[Ad.trs,WU];rfl,ay.1,rfl,?_⟩
  cases no with
  | none=>exact fun q ag=>ax q (by rw[Ad.SL];exact List.mem_append_left _ ag)
  | some n=>
   obtain⟨i1,post,h1,U⟩:=ax;exact⟨i1,Ad.SL es++post,by rw[h1,Ad.SL];simp,U⟩
 | e::es,no,i+1,k,ay,h,ax=>by
  rw[QM] at ay;obtain⟨fX,h1,U⟩:=agU es (no.map (· + e.tr.count)) i k ay.2 (by simpa using h) (by
   cases no with
   | none=>exact fun q ag=>ax q (by rw[Ad.SL];exact List.mem_append_right _ ag)
   | some n=>
    obtain⟨i1,post,h1,U⟩:=ax;exact⟨i1++e.UY,post,by rw[h1,Ad.SL];simp,by rw[List.length_append,U,Ad.aj0,Ad.ad8]⟩)
  exact⟨fX,by rw[Ad.trs,WU];simpa using h1,U⟩
def OJ.kid {O:List Nat}{w:Og}{a:Ad}{d:Nd}(h:OJ O w a d){i:Nat}{k:Ad}(E:a.ks[i]? = some k):∃ fX,(Px d)[i]? = some fX/\OJ O w k fX:=by
 obtain⟨h1,U,av⟩:=h;obtain⟨no,t⟩:=d
 cases a with
 | mk p kd tx n ks=>
  rw[Ri] at h1;have e:t=.mk kd tx n (Ad.trs ks):=by rw[Ad.tr] at U;exact U.symm
  subst e;refine agU ks (no.map (· + 1)) i k h1.2.2.2 E ?_
  cases no with
  | none=>exact fun q ag=>av q (by rw[Ad.UY];exact List.mem_cons_of_mem _ ag)
  | some m=>
   obtain⟨i1,post,aN,bx⟩:=av;exact⟨i1++[p],post,by rw[aN,Ad.UY];simp,by simp[bx]⟩
def agV:∀ (no:Option Nat) (ap:List Tr),(WU no ap).length=ap.length
 | _,[]=>rfl
 | no,t::ap=>by rw[WU,List.length_cons,agV,List.length_cons]
def RG (d:Nd):(Px d).length=d.2.kids.length:=agV _ _
def OJ.ks {O:List Nat}{w:Og}{a:Ad}{d:Nd}(h:OJ O w a d):a.ks.length=d.2.kids.length:=by
 rw[<-h.tr,a.ajY.2.2,List.length_map]
def ab2:∀ (no:Option Nat) (ap:List Tr),(WU no ap).map (·.2)=ap
 | _,[]=>rfl
 | no,t::ap=>by rw[WU,List.map_cons,ab2]
section
variable {O:List Nat} {w:Og} {a:Ad} {d:Nd} (h:OJ O w a d)
include O w a d h
def OJ.aBV {i:Nat}(az:i<d.2.kids.length):∃ k,a.ks[i]? = some k/\(Px d)[i]? = some (Oa d i)/\OJ O w k (Oa d i):=by
 obtain⟨k,E⟩:∃ k,a.ks[i]? = some k:=⟨_,List.getElem?_eq_getElem (by rw[h.ks];exact az)⟩
 have⟨fX,h1,U⟩:=h.kid E;have e:Oa d i=fX:=by unfold Oa;rw[List.getD_eq_getElem?_getD,h1];rfl
 rw[e];exact⟨k,E,h1,U⟩
def OJ.cells:a.p<w.heap.size/\w.cell? (N9 a.p 0)=some (NY d.2.kd)/\w.cell? (N9 a.p 1)=some (Oj d.2.tx)/\w.cell? (N9 a.p 2)=some (NY d.2.n) /\
  ∃ v,w.cell? (N9 a.p 3)=some v/\ank (fun _=>True) w v (a.ks.map Ad.p):=by
 obtain⟨h1,U,_⟩:=h;rw[<-U]
 cases a with
 | mk p kd tx n ks=>
  rw[Ri] at h1;obtain⟨_,al,⟨v,A,aa⟩,_⟩:=h1;have⟨c0,c1,c2,c3,_⟩:=node_cells A;rw[Ad.tr];exact⟨lt_of_heap A,c0,c1,c2,v,c3,aa⟩
end
def amv {w:Og}{v:Ot}{ps:List Nat}(h:ank (fun _=>True) w v ps){i q:Nat}(ag:ps[i]? = some q):∃ g cap,v=.slice (some (N9 g 0)) ps.length cap/\g<w.heap.size/\w.cell? (N9 g i)=some (N7 q):=by
 have az:i<ps.length:=(List.getElem?_eq_some_iff.1 ag).1;obtain⟨g,cap,rfl,_,_⟩:=h.1.form Oe;refine⟨g,cap,rfl,(h.1.lt g rfl).2,?_⟩;rw[h.1.cellAt i Oe];simp[ag]
def OJ.Yb {O:List Nat}{w:Og}{a:Ad}{d:Nd}(h:OJ O w a d){i:Nat}(az:i<d.2.kids.length) :
  ∃ k g cap,w.cell? (N9 a.p 3)=some (.slice (some (N9 g 0)) d.2.kids.length cap)/\w.cell? (N9 g i)=some (N7 k.p)/\OJ O w k (Oa d i)/\(Px d)[i]? = some (Oa d i):=by
 have⟨k,E,h1,U⟩:=h.aBV az;obtain⟨_,_,_,_,v,c3,aa⟩:=h.cells;obtain⟨g,cap,rfl,_,ai⟩:=amv aa (i:=i) (q:=k.p) (by simp[E]);rw[List.length_map,h.ks] at c3;exact⟨k,g,cap,c3,ai,U,h1⟩
abbrev sn2 (e:Int × Int):List Ot:=[NY e.1,NY e.2]
abbrev fn3 (e:Ad × Fu):List Ot:=[N7 e.1.p,NY e.2.scope,Om e.2.strict]
structure Bs (w0:Og)(mb af:Nat)(O:List Nat)(es:Ot):Prop where
 sz:w0.heap.size=mb
 nm:w0.heap[af]? = some (.map (W9 (V9 O)) O.length)
 an:∀ q ∈ O,Cl w0 q
 nd:O.Nodup
 es:w0.cell? (N9 1 0)=some es
structure Mx (w0:Og)(mb af:Nat)(O:List Nat)(aT aB aA aK:Ot)(w:Og)(σ:St):Prop where
 bw:Below mb w0 w
 hh:Pz mb (mR σ aT aB aA aK af) w σ.M
 lg:w.ownsRow mb 9 1 aT σ.log.length (σ.log.map Value.string)
 se:w.ownsRow mb 54 2 aB σ.seen.length (σ.seen.flatMap sn2)
 ow:w.ownsRow mb 3 1 aA σ.Qw.length (σ.Qw.map (Value.int .i64))
 fu:∃ d9:List Ad,d9.length=σ.Qg.length/\w.ownsRow mb 211 3 aK σ.Qg.length ((d9.zip σ.Qg).flatMap fn3)/\∀ (i:Nat) a f,d9[i]? = some a->σ.Qg[i]? = some f->OJ O w a f.d
section
variable {w0:Og} {mb af:Nat} {O:List Nat} {es aT aB aA aK:Ot} {w w':Og} {σ:St}
section
variable (h:Mx w0 mb af O aT aB aA aK w σ)
include h
def Mx.lt:mb<w.heap.size:=h.hh.lt
def Mx.later (A:Oo w w'):Mx w0 mb af O aT aB aA aK w' σ:=aB1
end
structure Q9 (B:Nat)(o f gT fv:Ot)(w w':Og):Prop where
 below:Below B w w'
 rest:∀ (b:Nat) c (e:TypeId),w.heap[b]? = some (OM c e)->e ∉ Th->o.ownBlock≠some b->f.ownBlock≠some b->w'.heap[b]? = some (OM c e)
 oo:∀ k,gT.ownBlock=some k->o.ownBlock=some k\/w.heap.size<=k
 ff:∀ k,fv.ownBlock=some k->f.ownBlock=some k\/w.heap.size<=k
def Q9.trans {B:Nat}{o f bH dU iY dQ:Ot}{w w1 w2:Og}(h:Q9 B o f bH dU w w1)(k:Q9 B bH dU iY dQ w1 w2):Q9 B o f iY dQ w w2:=by
 refine⟨h.below.trans k.below,fun b c e A ao aO aF=>?_,fun q ag=>?_,fun q ag=>?_⟩
 ·refine k.rest b c e (h.rest b c e A ao aO aF) ao (fun e=>?_) (fun e=>?_)
  ·rcases h.oo b e with e|e
   ·exact aO e
   ·exact absurd (lt_of_block A) Oe
  ·rcases h.ff b e with e|e
   ·exact aF e
   ·exact absurd (lt_of_block A) Oe
 ·rcases k.oo q ag with e|e
  ·exact h.oo q e
  ·exact .inr (Nat.le_trans h.below.size e)
 ·rcases k.ff q ag with e|e
  ·exact h.ff q e
  ·exact .inr (Nat.le_trans h.below.size e)
def Q9.of {B:Nat}{o f:Ot}{w w':Og}(A:Oo w w')(a1:B<=w.heap.size):Q9 B o f o f w w':=⟨A.mono a1,fun b _ _ h _ _ _=>(A.block b (lt_of_block h)).trans h,fun _ h=>.inl h,fun _ h=>.inl h⟩
def Q9.ofT {B:Nat}{o f:Ot}{w w':Og}(h:O8 Th B w w'):Q9 B o f o f w w':=⟨h.below,fun b c e A ao _ _=>h.rest b c e A ao,fun _ h=>.inl h,fun _ h=>.inl h⟩
def Q9.frL {gT fv:Ot}{L:Option Nat}(h:Q9 mb aA aK gT fv w w')(ac:Mx w0 mb af O aT aB aA aK w σ):OV L mb w w':=by
 obtain⟨d9,_,U,_⟩:=ac.fu;refine⟨h.below,fun b c e A ao _=>h.rest b c e A (fun q=>ao (List.mem_append_left _ q)) (fun q=>?_) (fun q=>?_)⟩
 ·have⟨eT,ai⟩:=PW ac.ow q;exact QA A ai (by rintro rfl;exact ao Ol) rfl
 ·have⟨eT,ai⟩:=PW U q;exact QA A ai (by rintro rfl;exact ao Ol) rfl
def Q9.kp {gT fv:Ot}(h:Q9 mb aA aK gT fv w w')(ac:Mx w0 mb af O aT aB aA aK w σ):Kp w w':=(h.frL (L:=none) ac).kp (fun b e=>by cases e)
def Mx.heap (h:Mx w0 mb af O aT aB aA aK w σ){M:Mo}(hh:Pz mb (mR σ aT aB aA aK af) w' M)(aF:O8 Th mb w w'):Mx w0 mb af O aT aB aA aK w' { σ with M:=M }:=aB2
end
def ag5 (m k:Nat)(l:List (Nat × Ot))(p:Nat)(W:Og)(aR:W.heap[m]? = some (.map (W9 l) k))(al:Cl W p)(hl:∀ e ∈ l,Cl W e.1) :
  (Instr.lookup 80 (.map (some m)) (N7 p) true).run prog W=.ok (.tuple #[((l.find? (fun e=>decide (p=e.1))).map (·.2)).getD (NY 0),Om (l.find? (fun e=>decide (p=e.1))).isSome]) W:=by
 have⟨o,av,U⟩:=akw al l hl;have rk:=underlying22;have z7:=underlying80;have aH:(zeroValue 3).run prog W=.ok (NY 0) W:=by kernel_rfl
 unfold Instr.lookup;rw[Sem.run_bind,run_underlying z7 W];have eJ:∀ b,(Instr.checkKey b 10000 22 (N7 p)).run prog W=.ok () W:=by
  intro b;rw[Instr.checkKey,Sem.run_bind,run_underlying rk W];rfl
 have hg:(getObj m).run prog W=.ok (.map (W9 l) k) W:=by simp[getObj,Sem.run,aR]
 simp only[Result.andThen_ok,Sem.run_bind,hg,Sem.run_pure,eJ,av]
 cases o with
 | none=>
  cases aF:l.find? (fun e=>decide (p=e.1)) with
  | none=>simp[aH]
  | some x=>rw[aF] at U;simp at U
 | some y=>
  cases aF:l.find? (fun e=>decide (p=e.1)) with
  | none=>rw[aF] at U;simp at U
  | some x=>rw[aF] at U;simp at U;simp[U]
def ag6 (p:Nat):∀ (i1 post:List Nat) (n:Nat),p ∉ i1->(((i1++p::post).zipIdx n).map fun e=>(e.1,Value.int .i64 (e.2:Int))).find? (fun e=>decide (p=e.1))=some (p,NY ((n+i1.length:Nat):Int))
 | [],post,n,_=>by simp
 | x::i1,post,n,h=>by
  have ac:p≠x:=fun e=>h (by simp[e]);rw[List.cons_append,List.zipIdx_cons,List.map_cons,List.find?_cons];simp only[decide_eq_false ac];rw[ag6 p i1 post (n+1) (fun e=>h (List.mem_cons_of_mem _ e)),List.length_cons,show n+1+i1.length=n+(i1.length+1) by omega]
def noV (d:Nd):Int:=match d.1 with
 | some k=>k
 | none=>0
def OJ.find {O:List Nat}{w:Og}{a:Ad}{d:Nd}(h:OJ O w a d)(hd:O.Nodup) :
  (((V9 O).find? (fun e=>decide (a.p=e.1))).map (·.2)).getD (NY 0)=NY (noV d)/\((V9 O).find? (fun e=>decide (a.p=e.1))).isSome=d.1.isSome:=by
 obtain⟨_,_,av⟩:=h;obtain⟨no,t⟩:=d
 cases no with
 | none=>
  rw[adP (av a.p (by rw[abh];simp))]
  exact⟨rfl,rfl⟩
 | some k=>
  obtain⟨i1,post,rfl,E⟩:=av;have ax:a.p ∉ i1:=by
   rw[abh,List.append_assoc,List.nodup_append] at hd;exact fun aR=>hd.2.2 _ aR _ OW rfl
  have e:(V9 (i1++a.UY++post)).find? (fun e=>decide (a.p=e.1))=some (a.p,NY (k:Int)):=by
   unfold V9;rw[abh,List.append_assoc,List.cons_append,ag6 a.p i1 _ 0 ax,Nat.zero_add,E]
  rw[e];exact⟨rfl,rfl⟩
section
variable {w0:Og} {mb af:Nat} {O:List Nat} {es aT aB aA aK:Ot} {w w':Og} {σ:St}
def Pz.keep {H B:Nat}{R:List Ot}{M:Mo}{T:List TypeId}(h:Pz H R w M)(f:O8 T B w w')(h1:84 ∉ T)(U:185 ∉ T)(av:207 ∉ T)(aN:198 ∉ T)(bx:262 ∉ T):Pz H R w' M:=by
 obtain⟨o,s,os,b',h⟩:=h;exact⟨o,s,os,b',f.rest _ _ _ h.blk h1,h.ob.keep f U av,h.ro.keep f aN bx⟩
def ae3 (a1:Bs w0 mb af O es)(ac:Below mb w0 w){a:Ad}{d:Nd}(hd:OJ O w a d) :
  (Instr.lookup 80 (.map (some af)) (N7 a.p) true).run prog w=.ok (.tuple #[NY (noV d),Om d.1.isSome]) w:=by
 have aR:w.heap[af]? = some (.map (W9 (V9 O)) O.length):=(ac.block af (by rw[<-a1.sz];exact lt_of_heap a1.nm)).trans a1.nm
 have h1:=ag5 af _ (V9 O) a.p w aR hd.at_.cl (fun e ao=>by
  obtain⟨cs,t,ai⟩:=a1.an _ (ab6 ao);exact⟨cs,t,(ac.block _ (by rw[<-a1.sz];exact lt_of_heap ai)).trans ai⟩)
 rw[(hd.find a1.nd).1,(hd.find a1.nd).2] at h1;exact h1
def Yt (a1:Bs w0 mb af O es)(ac:Mx w0 mb af O aT aB aA aK w σ){a:Ad}{d:Nd}(hd:OJ O w a d) :
  Oq 51 #[N7 mb,N7 a.p] w fun e w'=>e=OA (NY (own d))/\w'=w:=by
 have hl:=ae3 a1 ac.bw hd;obtain⟨xQ,zU⟩:=ac.hh.at_ 5 _ rfl;have bG:=ac.lt;have⟨p,al⟩:=xE a.p;rw[<-al] at hl ⊢;obtain⟨no,t⟩:=d;clear al
 cases no with
 | none=>
  have aw:own (none,t) = -3:=rfl;exact aCD
 | some k=>
  have aw:own (some k,t)=(k:Int):=rfl;exact aCE
def Mx.aki (h:Mx w0 mb af O aT aB aA aK w σ)(x:Int){aq:Og}{Vr:Ot}(hg:w.grownBy aq aA.ownBlock)(aO:aq.ownsRow mb 3 1 Vr (σ.Qw.length+1) (σ.Qw.map (Value.int .i64)++[NY x]))
  (ag:∀ q,Vr.ownBlock=some q->aA.ownBlock=some q\/w.heap.size<=q) :
  Mx w0 mb af O aT aB Vr aK (aq.setCell (N9 mb 8) Vr) { σ with Qw:=σ.Qw++[x] }/\Q9 mb aA aK Vr aK w (aq.setCell (N9 mb 8) Vr):=aCF
def ajb (w:Og)(q:Int)(H:Nat)(h:w.heap.size=H):∀ j u,[Value.int .i64 q][j]? = some u->(w.alloc (.cells #[NY q] 3)).cell? (((N9 H 0):Addr).add j)=some u:=by
 intro j u aS;subst h
 cases j with
 | zero=>
  simp at aS;subst aS;simp[Addr.add]
 | succ j=>simp at aS
def apx (q:Int):∀ u ∈ [Value.int .i64 q],u.oneCell'=true:=by
 intro u aQ;rw[List.mem_singleton.1 aQ];rfl
def info3:(prog.info? 3).map (fun i=>(i.zero,i.size,i.bytes))=some (some (NY 0),1,8):=by kernel_rfl
def open_any (ac:Mx w0 mb af O aT aB aA aK w σ)(u o x:Int)(hl:σ.Qw.length<=1000000000)
  (iW:∀ X R,Pz mb R X σ.M->Oq 105 #[N7 mb,NY u,NY o] X fun e w'=>e=OA (NY (σ.M.Ov.length:Int))/\Pz mb R w' (σ.M.scope u o)/\O8 Th mb X w') :
  Oq 50 #[N7 mb,NY u,NY o,NY x] w fun e w'=>e=OA (NY σ.top)/\∃ Vr,Mx w0 mb af O aT aB Vr aK w' (σ.opn u o x)/\Q9 mb aA aK Vr aK w w':=by
 have z:=N8 (∀{G}(h:G:=by
 show Oq 50 #[N7 mb,NY u,NY o,NY x] w fun e w'=>e=OA (NY (σ.M.Ov.length:Int))/\∃ Vr,Mx w0 mb af O aT aB Vr aK w' (σ.opn u o x)/\Q9 mb (.slice aC n iJ) aK Vr aK w w'
 exact aCG),G);exact aCH
abbrev PD (p:Pl)(aC:Option Addr):Ot:=.agg #[NY p.scope,NY p.declares,Om p.strict,.pointer aC]
abbrev plO (p:Pl)(aC:Option Addr):Obj:=OM #[NY p.scope,NY p.declares,Om p.strict,.pointer aC] 73
def cells3 {w:Og}{b:Nat}{x y bB:Ot}{t:TypeId}(h:w.heap[b]? = some (OM #[x,y,bB] t)):w.cell? (N9 b 0)=some x/\w.cell? (N9 b 1)=some y/\w.cell? (N9 b 2)=some bB/\(∀ j,w.frozen? (N9 b j)=false)/\b<w.heap.size:=by
 refine⟨?_,?_,?_,fun j=>?_,lt_of_heap h⟩
 ·rw[cell_of h];rfl
 ·rw[cell_of h];rfl
 ·rw[cell_of h];rfl
 ·simp[World.frozen?,h]
def cells4 {w:Og}{b:Nat}{x y bB u:Ot}{t:TypeId}(h:w.heap[b]? = some (OM #[x,y,bB,u] t)):w.cell? (N9 b 0)=some x/\w.cell? (N9 b 1)=some y/\w.cell? (N9 b 2)=some bB/\w.cell? (N9 b 3)=some u/\(∀ j,w.frozen? (N9 b j)=false)/\b<w.heap.size:=by
 refine⟨?_,?_,?_,?_,fun j=>?_,lt_of_heap h⟩
 ·rw[cell_of h];rfl
 ·rw[cell_of h];rfl
 ·rw[cell_of h];rfl
 ·rw[cell_of h];rfl
 ·simp[World.frozen?,h]
def stays {w X:Og}{b:Nat}{o:Obj}(A:Oo w X)(h:w.heap[b]? = some o):X.heap[b]? = some o:=(A.block b (lt_of_heap h)).trans h
def alloc_old {w:Og}{b:Nat}{o gT:Obj}(h:w.heap[b]? = some o):(w.alloc gT).heap[b]? = some o:=by rw[Below.heap_alloc w gT b (lt_of_heap h)];exact h
def aag {w:Og}{b:Nat}{x y bB:Ot}{t:TypeId}(h:w.heap[b]? = some (OM #[x,y,bB] t))(x' jC jm:Ot) :
  (((w.setCell (N9 b 0) x').setCell (N9 b 1) jC).setCell (N9 b 2) jm).heap[b]? = some (OM #[x',jC,jm] t):=by
 have z:=N8 (∀{G}(h:G:=by
 exact av),G);exact atn
def Mx.YC {T:List TypeId}(h:Mx w0 mb af O aT aB aA aK w σ)(f:O8 T mb w w')(dZ:∀ e ∈ T,e ∉ Tm/\e≠40/\e≠22):Mx w0 mb af O aT aB aA aK w' σ:=by
 have ax:∀ e,e ∈ Tm->e ∉ T:=fun e ao h=>(dZ e h).1 ao;obtain⟨d9,h1,U,av⟩:=h.fu;exact⟨h.bw.trans f.below,h.hh.keep f (ax _ Ol) (ax _ Ol) (ax _ Ol) (ax _ Ol) (ax _ Ol),OH h.lg f (ax _ Ol),OH h.se f (ax _ Ol),OH h.ow f (ax _ Ol),d9,h1,OH U f (ax _ Ol),fun i a fv ay gg=>(av i a fv ay gg).kp (fun b c e A ao=>f.rest b c e A (fun q=>by rcases ao with rfl|rfl;exact(dZ _ q).2.1 rfl;exact(dZ _ q).2.2 rfl))⟩
def RF {b:Nat}{x y bB:Ot}{t:TypeId}(h:w.heap[b]? = some (OM #[x,y,bB] t))(A:mb<=b)(x' jC jm:Ot):O8 [t] mb w (((w.setCell (N9 b 0) x').setCell (N9 b 1) jC).setCell (N9 b 2) jm):=by
 have h1:=heap_setCell_same w b 0 _ t x' h;have U:=heap_setCell_same _ b 1 _ t jC h1;exact O8.setCell (O8.setCell (O8.setCell (O8.of QI (Nat.le_trans A (OO (lt_of_heap h)))) h OW A _) h1 OW A _) U OW A _
def Q9.new {o f gT fv:Ot}{w2:Og}{T:List TypeId}(h:Q9 mb o f gT fv w w')(k:O8 T mb w' w2)(E:∀ b,b<w.heap.size->w2.heap[b]? = w'.heap[b]?):Q9 mb o f gT fv w w2:=
 ⟨h.below.trans k.below,fun b c e A ao aO aF=>by rw[E b (lt_of_heap A)];exact h.rest b c e A ao aO aF,h.oo,h.ff⟩
def Ub {b:Nat}(A:w.heap.size<=b)(x' jC jm:Ot)(j:Nat)(aS:j<w.heap.size):(((w'.setCell (N9 b 0) x').setCell (N9 b 1) jC).setCell (N9 b 2) jm).heap[j]? = w'.heap[j]?:=by
 have cC:j≠b:=Oe;rw[heap_setCell_other _ _ _ _ cC,heap_setCell_other _ _ _ _ cC,heap_setCell_other _ _ _ _ cC]
def Mx.aCW (h:Mx w0 mb af O aT aB aA aK w σ){a:Ad}{f:Fu}(hd:OJ O w a f.d){aq:Og}{WA:Ot}(hg:w.grownBy aq aK.ownBlock)
  {d9:List Ad} (h1:d9.length=σ.Qg.length) (U:w.ownsRow mb 211 3 aK σ.Qg.length ((d9.zip σ.Qg).flatMap fn3)) (av:∀ (i:Nat) a f,d9[i]? = some a->σ.Qg[i]? = some f->OJ O w a f.d)
  (aO:aq.ownsRow mb 211 3 WA (σ.Qg.length+1) ((d9.zip σ.Qg).flatMap fn3++fn3 (a,f)))
  (ag:∀ q,WA.ownBlock=some q->aK.ownBlock=some q\/w.heap.size<=q) :
  Mx w0 mb af O aT aB aA WA (aq.setCell (N9 mb 9) WA) { σ with Qg:=σ.Qg++[f] }/\Q9 mb aA aK aA WA w (aq.setCell (N9 mb 9) WA):=by
 have dU:O8 [211] mb w aq:=O8.grown hg (OO h.lt) fun k E=>by
  have⟨c,ai⟩:=PW U E;exact⟨(U.lt k E).1,c,211,ai,by simp⟩
 have kW:=h.hh.keep dU Ol Ol Ol Ol Ol;have⟨lY,dQ⟩:=kW.cell 7 WA;have g0:O8 [211,84] mb w (aq.setCell (N9 mb 9) WA):=(dU.mono Ol Pg).trans (dQ.mono Ol Pg);have c':Kp w (aq.setCell (N9 mb 9) WA):=fun b c e A ao=>g0.rest b c e A (by rcases ao with rfl|rfl <;> decide);refine⟨⟨h.bw.trans g0.below,lY,OH h.lg g0 Ol,OH h.se g0 Ol,OH h.ow g0 Ol,d9++[a],by simp[h1],?_,fun i jc fv ay gg=>?_⟩,⟨g0.below,fun b c e A ao _ gg=>?_,fun _ h=>.inl h,ag⟩⟩
 ·have bx:=OH aO dQ Ol
  show World.ownsRow _ _ _ _ _ (σ.Qg++[f]).length (((d9++[a]).zip (σ.Qg++[f])).flatMap fn3)
  rw[List.length_append,List.zip_append h1,List.flatMap_append];simpa using bx
 ·rcases Nat.lt_or_ge i d9.length with az|az
  ·rw[List.getElem?_append_left az] at ay;have c7:(σ.Qg++[f])[i]? = some fv:=gg;rw[List.getElem?_append_left Oe] at c7;exact(av i jc fv ay c7).kp c'
  ·rw[List.getElem?_append_right az] at ay;have kt:=(List.getElem?_eq_some_iff.1 ay).1;simp at kt;have IB:i - d9.length=0:=Oe;have c7:(σ.Qg++[f])[i]? = some fv:=gg;rw[List.getElem?_append_right Oe,show i - σ.Qg.length=0 by omega] at c7;rw[IB] at ay;simp at ay c7;subst ay c7;exact hd.kp c'
 ·have cf:aq.heap[b]? = some (OM c e):=(hg.block b (lt_of_block A) (fun e=>gg e.symm)).trans A;exact dQ.rest b c e cf (fun q=>ao (by rw[List.mem_singleton.1 q];decide))
def ato:(prog.info? 211).map (fun i=>(i.zero,i.size,i.bytes))=some (some (.agg #[QS,NY 0,Om false]),3,24):=by kernel_rfl
def apK (w:Og)(H:Nat)(fl:w.heap.size=H)(q:Nat)(s:Int)(b:Bool)(j:Nat)(u:Ot)(h:([N7 q,NY s,Om b]:List Ot)[j]? = some u) :
  (w.alloc (.cells #[N7 q,NY s,Om b] 211)).cell? (((N9 H 0):Addr).add j)=some u:=by
 subst fl
 rcases j with _|_|_|j <;> simp at h
 all_goals subst h;simp[Addr.add]
def axp (q:Nat)(s:Int)(b:Bool):∀ u ∈ ([N7 q,NY s,Om b]:List Ot),u.oneCell'=true:=by
 intro u aQ;simp at aQ
 rcases aQ with rfl|rfl|rfl <;> rfl
section
variable (ac:Mx w0 mb af O aT aB aA aK w σ) {a:Ad} {d:Nd} (hd:OJ O w a d) (E:d.2.kids.length=2) (hl:σ.Qg.length<=1000000000) {K:Nat} (ab:σ.M.Small K) (D:K<=1000000000) (au aG:Int) (aC:Option Addr) (j':Bool) (d5:j'=OU (Oa d 1).2)
include ac a d hd E hl K ab D au aG aC j' d5
def ajh :
  Oq 60 #[N7 mb,N7 a.p,.agg #[NY au,NY aG,Om true,.pointer aC]] w fun e w'=>e=OA (vA (SQ σ.M.objs.length))/\∃ WA,Mx w0 mb af O aT aB aA WA w' { σ with Qg:=σ.Qg++[⟨d,au,true⟩],M:=σ.M.OY (3+σ.Qg.length) }/\Q9 mb aA aK aA WA w w':=by
 have z:=N8 (∀{G}(h:G:=by
 have⟨w2,cM⟩:=xE ((w.alloc (.cells #[NY au,NY aG,Om true,.pointer aC] 73)).alloc (.cells #[NY 0,NY 0,Pm] 65));have z:=N8 (∀{G}(h:G:=by
 have bb:w2.heap[bc]? = some (OM #[NY au,NY aG,Om true,.pointer aC] 73):=by
  rw[cM,bS];exact alloc_old (Oi _ _)
 have hr2:w2.heap[aV]? = some (OM #[NY 0,NY 0,Pm] 65):=by
  rw[cM,b4,show w.heap.size+1=(w.alloc (.cells #[NY au,NY aG,Om true,.pointer aC] 73)).heap.size by simp];exact Oi _ _
 have b7:=hide (cells4 bb);have bq:=hide hr2;have bo:=hide cM;have cq:=aE;have z:=N8 (∀{G}(h:G:=by
 refine aod (G:=?GG) (fun dD=>?ways) ?rest
 case ways=>
  have z:=N8 (∀{G}(h:G:=by
  refine uh 5 (Om true) (ae) ?_;have z:=N8 (∀{G}(h:G:=by
  refine uh 11 undef (ae) ?_ (hy:=Or.inr ⟨by kernel_rfl,rfl⟩);refine uh 12 undef (ae) ?_ (hy:=Or.inr ⟨by kernel_rfl,rfl⟩);refine uh 13 (Om true) (ae) ?_;refine uh 14 (.agg #[Oy q 0,NY au,Om true]) (ae) ?_;refine PS 15 fun K D=>?_;go_simp;refine D.out _ _ (fun _=>PE.drew) ?_;clear D K;refine PS 16 fun K D=>?_;go_simp;refine ko D ?_;clear D K;refine RY ?_ _;go_simp;exact dD),G);exact awo),G);exact aCX
 case rest=>
  clear ha j'
  let j':Bool:=true
  exact aCY),G);exact aCZ),G);exact axq),G);exact aC0
def amB :
  Oq 60 #[N7 mb,N7 a.p,.agg #[NY au,NY aG,Om false,.pointer aC]] w fun e w'=>e=OA (vA (SQ σ.M.objs.length))/\∃ WA,Mx w0 mb af O aT aB aA WA w' { σ with Qg:=σ.Qg++[⟨d,au,j'⟩],M:=σ.M.OY (3+σ.Qg.length) }/\Q9 mb aA aK aA WA w w':=by
 have z:=N8 (∀{G}(h:G:=by
 have⟨w2,cM⟩:=xE ((w.alloc (.cells #[NY au,NY aG,Om false,.pointer aC] 73)).alloc (.cells #[NY 0,NY 0,Pm] 65));have z:=N8 (∀{G}(h:G:=by
 have bb:w2.heap[bc]? = some (OM #[NY au,NY aG,Om false,.pointer aC] 73):=by
  rw[cM,bS];exact alloc_old (Oi _ _)
 have hr2:w2.heap[aV]? = some (OM #[NY 0,NY 0,Pm] 65):=by
  rw[cM,b4,show w.heap.size+1=(w.alloc (.cells #[NY au,NY aG,Om false,.pointer aC] 73)).heap.size by simp];exact Oi _ _
 have b7:=hide (cells4 bb);have bq:=hide hr2;have bo:=hide cM;have cq:=aE;have ez:=hide (OT aE c3);have e9:=hide (OT aE c1);have z:=N8 (∀{G}(h:G:=by
 refine aod (G:=?GG) (fun dD=>?ways) ?rest
 case ways=>
  have z:=N8 (∀{G}(h:G:=by
  refine uh 5 (Om false) (ae) ?_;refine up 6 q 0 ae ?_;refine up 7 q 0 ae ?_;refine up 8 q 3 ae ?_;refine uk 9 ez.out ae ?_;refine up 10 g 1 ae ?_;refine uk 11 e9.out ae ?_;refine uq2 12 15 (fun K D=>?ca) fun K D=>?cb
  case' ca=>
   go_simp;refine cm (NZ ha _ (ae)) ?_;rintro e k5 ⟨rfl,iX⟩;rw[iX];clear iX k5;refine D.out _ _ (fun _=>ae) ?_;clear D K;refine uh 13 (Om j') (ae) ?_ (hy:=Or.inl ⟨by kernel_rfl,fun _ _=>j'.rec (by go_simp) (by go_simp)⟩);refine uh 14 (.agg #[Oy q 0,NY au,Om j']) (ae) ?_;refine PS 15 fun K D=>?_;go_simp;refine D.out _ _ (fun _=>PE.drew) ?_;clear D K;refine PS 16 fun K D=>?_;go_simp;refine ko D ?_;clear D K;refine RY ?_ _
  case' cb=>
   go_simp;refine D.out _ _ (fun _=>PE.drew) ?_;clear D K;refine PS 12 fun K D=>?_;go_simp;refine cm (NZ ha _ (PE.drew)) ?_;rintro e k5 ⟨rfl,iX⟩;rw[iX];clear iX k5;refine D.out _ _ (fun _=>PE.drew) ?_;clear D K;refine uh 13 (Om j') (PE.drew) ?_ (hy:=Or.inl ⟨by kernel_rfl,fun _ _=>j'.rec (by go_simp) (by go_simp)⟩);refine uh 14 (.agg #[Oy q 0,NY au,Om j']) (PE.drew) ?_;refine PS 16 fun K D=>?_;go_simp;refine ko D ?_;clear D K;refine RY ?_ _
  all_goals
   go_simp;exact dD),G);exact aCX
 case rest=>
  exact aCY),G);exact aCZ),G);exact axq),G);exact aC0
end
end
abbrev aP (e:Ad):Ot:=N7 e.p
def RZ (B:Nat)(w:Og)(v:Ot)(es:List Ad):Prop:=w.ownsRow B 22 1 v es.length (es.map aP)/\QM (fun _=>True) w es
def QM.of {I:Nat->Prop}{w:Og}:∀ (es:List Ad),(∀ a ∈ es,Ri I w a)->QM I w es
 | [],_=>by rw[QM];trivial
 | x::es,h=>by rw[QM];exact⟨h x OW,QM.of es fun a ay=>h a (by simp[ay])⟩
section
variable {B:Nat} {w w':Og} {v:Ot} {es:List Ad} (h:RZ B w v es)
include B w w' v es h
def RZ.kp (E:Kp w w'):RZ B w' v es:=⟨row_of h.1 fun _ _ _ hg=>E _ _ _ hg (Or.inr rfl),QM.kp E _ h.2⟩
def RZ.later (A:Oo w w'):RZ B w' v es:=h.kp (Kp.of A)
end
section
variable {B:Nat} {w:Og} {v:Ot} {es:List Ad} (h:RZ B w v es)
include B w v es h
def RZ.form:∃ a cap,v=.slice a es.length cap:=OG h.1
def RZ.cell (k:Nat)(E:k<es.length):∃ g cap,v=.slice (some (N9 g 0)) es.length cap/\g<w.heap.size/\w.cell? (N9 g k)=some (N7 (es[k]).p)/\Ri (fun _=>True) w es[k]:=by
 obtain⟨g,cap,rfl,_,_⟩:=h.1.form Oe;refine⟨g,cap,rfl,(h.1.lt g rfl).2,?_,QM.mem es h.2 _ (List.getElem_mem _)⟩;rw[h.1.cellAt k Oe];simp[E]
end
def Ri.row {w:Og}{a:Ad}(h:Ri (fun _=>True) w a):∃ v,w.cell? (N9 a.p 3)=some v/\RZ 0 w v a.ks/\a.p<w.heap.size:=by
 cases a with
 | mk p kd tx n ks=>
  rw[Ri] at h;obtain⟨_,al,⟨v,A,aa⟩,E⟩:=h;have⟨c0,c1,_,c3,_⟩:=node_cells A;refine⟨v,c3,⟨?_,E⟩,lt_of_heap A⟩;have h1:=aa.1;rw[List.length_map,List.map_map] at h1;exact h1
def alY (a:Ad)(w:Og)(h:Ri (fun _=>True) w a):Oq 120 #[N7 a.p] w fun e w'=>(∃ u,e=OA u/\RZ 0 w u a.ks)/\w'=w:=by
 have⟨u,c3,aa,eM⟩:=Ri.row h;obtain⟨cV,uc,rfl⟩:=aa.form;have⟨p,al⟩:=xE a.p;rw[<-al] at c3 eM ⊢;clear h al;go_enter func120,ntmps120;go_wp2;go_ret;exact⟨⟨_,rfl,aa⟩,rfl⟩
def YH (F:Nat)(f:Tr->Bool)(jv:VH F)
  (ah:∀ t p W,Ug W t p->Oq F #[N7 p] W fun e w'=>e=OA (Om (f t))/\w'=W)
  (a:Ad) (w:Og) (h:Ri (fun _=>True) w a) (hl:a.ks.length<=90000) :
  Oq 129 #[N7 a.p,fnV F] w fun e w'=>(∃ u,e=OA u/\RZ w.heap.size w' u (a.ks.filter fun k=>f k.tr))/\Oo w w':=by
 have⟨i0,dW,dw,b8,cn⟩:=info_parts info22;have f1:=(alY a w h);have hR:=hide ah;clear h ah
 generalize Bh:a.ks=ap at f1 hl
 have⟨p,al⟩:=xE a.p;rw[<-al] at f1 ⊢;clear Bh al a;go_enter func129,ntmps129;go_wp2_with fail;refine cm f1 ?_;rintro e w1 ⟨⟨u,rfl,aa⟩,rfl⟩;obtain⟨va,du,rfl⟩:=aa.form;go_wp2_with fail
 go_loopw [5,11] (fun o i wr=>∃ (k:Nat) (dI:List Ad),k<=ap.length/\i=NY k/\wr.ownsRow w1.heap.size 22 1 o dI.length (dI.map aP)/\dI=((ap.take k).filter fun k=>f k.tr)/\Oo w1 wr) (fun _ i _=>ap.length - (intOf i).toNat)
 case atStart=>exact⟨0,[],Nat.zero_le _,rfl,⟨rfl,Or.inl ⟨rfl,rfl⟩⟩,rfl,QI⟩
 case round=>
  obtain⟨k,dI,E,rfl,hown,fo,hbel⟩:=hrel;have dp:=hown;have fK:=hide fo;obtain⟨aC,iJ,rfl⟩:=UL hown;have ds:dI.length<=k:=by
   rw[fo];have:=List.length_filter_le (fun k=>f k.tr) (ap.take k);rw[List.length_take] at this;omega
  clear fo
  by_cases aM:k<ap.length
  ·have⟨g,cap,am,hg,gf,rC⟩:=aa.cell k aM;simp only[Value.slice.injEq] at am;obtain⟨rfl,_,rfl⟩:=am;have⟨q,bj⟩:=xH ((ap[k]).p);rw[<-bj.out] at gf;have z:=N8 (∀{G}(h:G:=by
   have aj:=(NZ hR ap[k].tr q wr (by rw[bj.out];exact rC.nat.nt.later hbel))
   have iy:=hide (List.take_succ_eq_append_getElem aM);have dd:g<wr.heap.size:=Oe;have tH:=hide (P6 dp);clear gf
   cases hh:f ap[k].tr with
   | true=>
    have z:=N8 (∀{G}(h:G:=by
    go_roundw
    case rel=>
     refine⟨k+1,dI++[ap[k]],by omega,by go_num,?_,?_,dG⟩
     ·rw[List.length_append,List.map_append];have h:=hown';rw[bj.out] at h;exact h
     ·rw[iy.out,List.filter_append,<-fK.out];simp only[List.filter_cons,ic.out,List.filter_nil,if_true]
    case measure=>simp[intOf];omega),G);exact az3
   | false=>
    rw[hh] at aj;have ic:=hide hh;clear hh;have z:=N8 (∀{G}(h:G:=by
    go_roundw
    case rel=>
     refine⟨k+1,dI,by omega,by go_num,dp,?_,hbel⟩;rw[iy.out,List.filter_append,<-fK.out];simp only[List.filter_cons,ic.out,List.filter_nil,Bool.false_eq_true,if_false,List.append_nil]
    case measure=>simp[intOf];omega),G);exact aer),G);exact az4
  ·have cL:k=ap.length:=Oe;subst cL;go_wp2;go_ret;have h:=NZ fK;rw[List.take_length] at h;subst h;exact⟨⟨_,rfl,dp,QM.of _ fun x ac=>Ri.later (Below.stay hbel) _ (QM.mem _ aa.2 x (List.mem_filter.1 ac).1)⟩,hbel⟩
section
variable (a:Ad) (w:Og) (h:Ri (fun _=>True) w a) (hl:a.ks.length<=90000)
include a w h hl
def Xj :
  Oq 59 #[N7 a.p] w fun e w'=>(∃ u,e=OA u/\RZ w.heap.size w' u (a.ks.filter fun k=>TJ k.tr))/\Oo w w':=by
 have aj:=(YH 130 TJ az5 abC a w h hl);clear h;go_enter func59,ntmps59;exact ar2
def adD :
  Oq 77 #[N7 a.p] w fun e w'=>(∃ u,e=OA u/\RZ w.heap.size w' u (a.ks.filter fun k=>Pj k.tr))/\Oo w w':=by
 have aj:=(YH 163 Pj az6 adC a w h hl);clear h;go_enter func77,ntmps77;exact ar2
end
def Y6 (s:Int)(nm:Ou)(v:Va)(M:Mo):Mo:=if (M.declare s nm 0 v).1=0 then (M.declare s nm 0 v).2 else (M.write s nm v).2
def adS (s:Int)(nm:Ou)(v:Va)(σ:St):settle s nm v σ={ σ with M:=Y6 s nm v σ.M }:=by
 unfold settle Y6 St.dec
 split <;> rfl
def adK:TT 0=Qd:=rfl
def aeb {c:Int}(h:c≠0):TT c=.iface 34 (NY c):=by unfold TT;rw[if_neg h]
def apO {M:Mo}(s:Int)(nm:Ou)(v:Va):(M.declare s nm 0 v).1≠0->(M.declare s nm 0 v).2=M:=by
 unfold Mo.declare
 split
 ·intro _;rfl
 ·split
  ·intro _;rfl
  ·split
   ·intro _;rfl
   ·intro h;exact absurd rfl h
def Mo.Go.Y6 {M:Mo}{N:Nat}(h:M.Go N)(s:Int)(nm:Ou)(v:Va):(Hp.Y6 s nm v M).Go (N+1):=by
 unfold Hp.Y6
 split
 ·exact h.declare s nm 0 v
 ·exact h.write s nm v
section
variable {mb:Nat} {R:List Ot} {w w':Og} {M:Mo} {N:Nat}
section
variable (h:Pz mb R w M) (ab:M.Go N) (hN:N<1000000000) (au:Int) (nm:Ou) (v:Va)
include h ab hN au nm v
def amD (h0:(M.declare au nm 0 v).1=0) :
  Oq 270 #[N7 mb,NY au,Oj nm,vA v] w fun e w'=>e=OA (.tuple #[])/\Pz mb R w' (Y6 au nm v M)/\O8 Th mb w w':=by
 have bG:=h.lt;have z:=N8 (∀{G}(h:G:=by
 have z:=N8 (∀{G}(h:G:=by
 have ic:=(h.later aE);have d7:=hide (fun X (ak:Oo w2 X)=>WT ((h.later aE).later ak) ab.sm (OO hN) au nm 0 v);clear h eY;have aw:Y6 au nm v M=(M.declare au nm 0 v).2:=by unfold Y6;rw[if_pos h0]
 rw[aw];rw[h0,adK] at d7;clear aw h0;go_enter func270,ntmps270;go_wp2_with fail;rw[<-bo.out,<-a7];clear a7;refine S9 6 fun ae=>?_;have z:=N8 (∀{G}(h:G:=by
 have z:=N8 (∀{G}(h:G:=by
 refine uz 7 (Om false) ?_;refine RY ?_ _;go_simp;go_wp2
 go_end0
 exact⟨rfl,kW,cT⟩),G);exact aC8),G);exact TI),G);exact aC9),G);exact aDa
def ajl (h0:(M.declare au nm 0 v).1≠0) :
  Oq 270 #[N7 mb,NY au,Oj nm,vA v] w fun e w'=>e=OA (.tuple #[])/\Pz mb R w' (Y6 au nm v M)/\O8 Th mb w w':=by
 have bG:=h.lt;have z:=N8 (∀{G}(h:G:=by
 have z:=N8 (∀{G}(h:G:=by
 have fa:=hide eY;have ic:=(h.later aE);have d7:=hide (fun X (ak:Oo w2 X)=>WT ((h.later aE).later ak) ab.sm (OO hN) au nm 0 v);clear h eY;have aw:Y6 au nm v M=(M.write au nm v).2:=by unfold Y6;rw[if_neg h0]
 rw[aw];rw[aeb h0,apO au nm v h0] at d7;have⟨c0,gf⟩:=xE ((M.declare au nm 0 v).1);rw[<-gf] at d7;clear gf;clear aw h0;go_enter func270,ntmps270;go_wp2_with fail;rw[<-bo.out,<-a7];clear a7;refine S9 6 fun ae=>?_;have z:=N8 (∀{G}(h:G:=by
 have z:=N8 (∀{G}(h:G:=by
 have lP:=hide (c7.rest vb _ 65 (stays ae fa.out) Ol);refine uz 7 (Om true) ?_;refine RY ?_ _;have ft:=hide (fun X (ak:Oo aq X)=>aey (kW.later ak) ab.sm (OO hN) au nm v);have gd:=hide (cells3 lP.out);have fQ:=kW.lt;have Ey:=lt_of_heap lP.out;go_simp;go_wp2_with fail;refine S9 6 fun ae=>?_;have z:=N8 (∀{G}(h:G:=by
 refine uh 3 (NY au) (ae) ?_;refine uh 4 (Oj nm) (ae) ?_;refine uk3 5 gd.out ae ?_;refine PS 6 fun K D=>?_;go_simp;refine cm (NZ ft _ ae) ?_;rintro e bD ⟨rfl,lY,hY⟩;refine ko D ?_;clear D K;have fD:=(cT.trans ((O8.of ae (OO fQ)).trans hY));refine RY ?_ _;go_simp;go_wp2
 go_end0
 exact⟨rfl,lY,fD⟩),G);exact TI),G);exact aC8),G);exact TI),G);exact aC9),G);exact aDa
def apP :
  Oq 270 #[N7 mb,NY au,Oj nm,vA v] w fun e w'=>e=OA (.tuple #[])/\Pz mb R w' (Y6 au nm v M)/\O8 Th mb w w':=by
 by_cases h0:(M.declare au nm 0 v).1=0
 ·exact amD h ab hN au nm v h0
 ·exact ajl h ab hN au nm v h0
end
def Yf (au:Int)(ap:List Tr)(M:Mo):Mo:=ap.foldl (fun M k=>(M.declare au k.tx (if k.kd=4 then 2 else 1) vU).2) M
def acg (ap:List Tr)(au:Int):∀ σ:St,PN ap au σ={ σ with M:=Yf au ap σ.M }:=by
 unfold PN Yf
 induction ap with
 | nil=>intro σ;rfl
 | cons t ap bv=>intro σ;rw[List.foldl_cons,bv];rfl
def ajm (au:Int)(ap:List Tr)(M:Mo)(k:Nat)(E:k<ap.length):Yf au (ap.take (k+1)) M=((Yf au (ap.take k) M).declare au (ap[k]).tx (if (ap[k]).kd=4 then 2 else 1) vU).2:=by
 unfold Yf;rw[List.take_succ_eq_append_getElem E,List.foldl_append];rfl
def Mo.Go.lets (au:Int):∀ (ap:List Tr) {M:Mo} {N:Nat},M.Go N->(Yf au ap M).Go (N+ap.length)
 | [],_,_,h=>h
 | t::ap,M,N,h=>by
  have:=Mo.Go.lets au ap (h.declare au t.tx (if t.kd=4 then 2 else 1) vU);rw[List.length_cons,show N+(ap.length+1)=N+1+ap.length by omega];exact this
def amE (f:Tr->Bool)(es:List Ad):(es.filter fun k=>f k.tr).map Ad.tr=(es.map Ad.tr).filter f:=by rw[List.filter_map];rfl
def axv (h:Pz mb R w M)(ab:M.Go N){a:Ad}(ay:Ri (fun _=>True) w a)(E:a.ks.length<=90000)(hN:N+a.ks.length<1000000000)(au:Int) :
  Oq 57 #[N7 mb,N7 a.p,NY au] w fun e w'=>e=OA (.tuple #[])/\Pz mb R w' (Yf au (OZ a.tr) M)/\O8 Th mb w w':=by
 have bG:=h.lt;have aj:=(adD a w ay E);have⟨es,gJ⟩:=xE (a.ks.filter fun k=>Pj k.tr);have aw:OZ a.tr=es.map Ad.tr:=by unfold OZ;rw[gJ,amE,a.ajY.2.2]
 have fc:es.length<=a.ks.length:=by rw[gJ];exact List.length_filter_le _ _
 rw[<-gJ] at aj;rw[aw];have ic:=h;have⟨p,al⟩:=xE a.p;rw[<-al] at aj ⊢;have H9:N+es.length<1000000000:=Oe;have Ik:es.length<=90000:=Oe;clear h ay gJ aw al fc hN E;go_enter func57,ntmps57;go_wp2_with fail;refine cm aj ?_;rintro e w1 ⟨⟨u,rfl,aa⟩,bZ⟩;obtain⟨cV,dM,rfl⟩:=aa.form;have gq:=(ic.later bZ);have n2:=gq.lt;go_wp2_with fail
 go_loopw [12] (fun i wr=>∃ k:Nat,k<=es.length/\i=NY k/\Pz mb R wr (Yf au ((es.map Ad.tr).take k) M)/\O8 Th mb w1 wr) (fun i _=>es.length - (intOf i).toNat)
 case atStart=>exact⟨0,Nat.zero_le _,rfl,gq,O8.of QI (OO n2)⟩
 case round=>
  obtain⟨k,E,rfl,hh,aF⟩:=hrel;have xu:=hh;have h4:=hh.lt
  by_cases aM:k<es.length
  ·obtain⟨g,cap,am,hg,ai,ax⟩:=(aa.kp (O8.kp aF)).cell k aM;simp only[Value.slice.injEq] at am;obtain⟨rfl,_,rfl⟩:=am;have hK:(k:Int)<(es.length:Int):=Oe;have⟨ds,c0,c1,_⟩:=Ug.cells ax.nat.nt;have ry:k<(es.map Ad.tr).length:=by simpa using aM
   have iy:=hide (ajm au (es.map Ad.tr) M k ry);have DT:(es.map Ad.tr)[k]=(es[k]).tr:=by simp
   rw[DT] at iy;have⟨q,ag⟩:=xE ((es[k]).p);have⟨t,aZ⟩:=xE ((es[k]).tr);rw[<-ag] at ai ds c0 c1;rw[<-aZ] at c0 c1 iy;have ut:(Yf au ((es.map Ad.tr).take k) M).Go (N+k):=by
    have:=Mo.Go.lets au ((es.map Ad.tr).take k) ab;rw[List.length_take,List.length_map,Nat.min_eq_left E] at this;exact this
   have⟨KN,Dr⟩:=xE (Yf au ((es.map Ad.tr).take k) M);rw[<-Dr] at xu iy ut;have xY:N+k<1000000000:=Oe;have e9:=hide c1;clear DT ag aZ Dr ry
   by_cases aN:t.kd=4
   ·rw[if_pos aN] at iy;have hC:t.kd=4:=aN;rw[hC] at c0;clear aN hC;go_wp2_with fail;have d7:=hide (fun X (ak:Oo wr X)=>WT (xu.later ak) ut.sm (OO xY) au t.tx 2 vU);have⟨tx,cB⟩:=xE t.tx;rw[<-cB] at d7 e9;have lO:=hide cB;clear cB;refine S9 10 fun ae=>?_;have z:=N8 (∀{G}(h:G:=by
    refine uh 3 (NY au) (ae) ?_;have z:=N8 (∀{G}(h:G:=by
    refine uh 8 (NY 2) (ae) ?_;exact aDb),G);exact asB),G);exact TI
   ·rw[if_neg aN] at iy;have⟨kd,bm⟩:=xE t.kd;rw[<-bm] at c0 aN;clear bm;go_wp2_with fail;have d7:=hide (fun X (ak:Oo wr X)=>WT (xu.later ak) ut.sm (OO xY) au t.tx 1 vU);have⟨tx,cB⟩:=xE t.tx;rw[<-cB] at d7 e9;have lO:=hide cB;clear cB;refine S9 10 fun ae=>?_;have z:=N8 (∀{G}(h:G:=by
    refine uh 3 (NY au) (ae) ?_;have z:=N8 (∀{G}(h:G:=by
    refine uh 8 (NY 1) (ae) ?_;exact aDb),G);exact asB),G);exact TI
  ·have cL:k=es.length:=Oe;subst cL;go_wp2
   go_end0
   have h:=xu;rw[show es.length=(es.map Ad.tr).length by simp,List.take_length] at h;exact⟨rfl,h,(O8.of bZ (OO bG)).trans aF⟩
end
structure Sz (N:Nat)(σ:St):Prop where
 go:σ.M.Go N
 ow:σ.Qw.length<=N
 fn:σ.Qg.length<=N
 lg:σ.log.length<=N
 se:σ.seen.length<=N
 oe:σ.Qw.length=σ.M.Ov.length
def Sz.up {N N':Nat}{σ:St}(h:Sz N σ)(hN:N<=N'):Sz N' σ:=⟨h.go.up hN,Nat.le_trans h.ow hN,Nat.le_trans h.fn hN,Nat.le_trans h.lg hN,Nat.le_trans h.se hN,h.oe⟩
def Sz.heap {N N':Nat}{σ:St}{M:Mo}(h:Sz N σ)(hN:N<=N')(aJ:M.Go N')(aa:M.Ov.length=σ.M.Ov.length):Sz N' { σ with M:=M }:=⟨aJ,Nat.le_trans h.ow hN,Nat.le_trans h.fn hN,Nat.le_trans h.lg hN,Nat.le_trans h.se hN,h.oe.trans aa.symm⟩
def aae (M:Mo)(o:Int)(nm:Ou)(v:Va)(fx:Bool):(M.put o nm v fx).2.Ov.length=M.Ov.length:=by
 unfold Mo.put
 repeat' split
 all_goals first|rfl|simp[Mo.SI]
def Vj (M:Mo)(s:Int)(nm:Ou)(k:Int)(v:Va):(M.declare s nm k v).2.Ov.length=M.Ov.length:=by
 unfold Mo.declare
 repeat' split
 all_goals first|rfl|simp[Mo.RD]
def Yd (M:Mo)(s:Int)(nm:Ou)(v:Va):(M.write s nm v).2.Ov.length=M.Ov.length:=by
 unfold Mo.write
 repeat' split
 all_goals first|rfl|exact aae _ _ _ _ _|simp[Mo.RD]
def ajn (s:Int)(nm:Ou)(v:Va)(M:Mo):(Y6 s nm v M).Ov.length=M.Ov.length:=by
 unfold Y6
 split
 ·exact Vj _ _ _ _ _
 ·exact Yd _ _ _ _
def ach (au:Int):∀ (ap:List Tr) (M:Mo),(Yf au ap M).Ov.length=M.Ov.length
 | [],_=>rfl
 | _::ap,_=>(ach au ap _).trans (Vj _ _ _ _ _)
section
variable {N:Nat} {σ:St} (h:Sz N σ)
include N σ h
def Sz.settle (s:Int)(nm:Ou)(v:Va):Sz (N+1) (settle s nm v σ):=by
 rw[adS];exact h.heap (Nat.le_succ _) (h.go.Y6 s nm v) (ajn _ _ _ _)
def Sz.mkFun (d:Nd)(p:Pl):Sz (N+1) (mkFun d p σ).2:=
 ⟨h.go.OY _,Nat.le_succ_of_le h.ow,by have:=h.fn;simp[Hp.mkFun];omega,Nat.le_succ_of_le h.lg,Nat.le_succ_of_le h.se,h.oe⟩
def Sz.opn (u o x:Int):Sz (N+1) (σ.opn u o x):=
 ⟨h.go.scope _ _,by have:=h.ow;simp[St.opn];omega,Nat.le_succ_of_le h.fn,Nat.le_succ_of_le h.lg,Nat.le_succ_of_le h.se,by have:=h.oe;simp[St.opn,Mo.scope,this]⟩
def Sz.lets (ap:List Tr)(s:Int):Sz (N+ap.length) (PN ap s σ):=by
 rw[acg];exact h.heap Oe (h.go.lets s ap) (ach _ _ _)
end
def Uc (O:List Nat)(w:Og):List Ad->List Nd->Prop
 | [],[]=>True
 | e::es,d::aW=>OJ O w e d/\Uc O w es aW
 | _,_=>False
def Uc.of {O:List Nat}{w:Og}:∀ (es:List Ad) (aW:List Nd),es.length=aW.length->(∀ (i:Nat) k,es[i]? = some k->∃ fX,aW[i]? = some fX/\OJ O w k fX)->Uc O w es aW
 | [],[],_,_=>trivial
 | [],_::_,h,_=>by simp at h
 | _::_,[],h,_=>by simp at h
 | e::es,d::aW,h,E=>by
  refine⟨?_,Uc.of es aW (by simpa using h) fun i k az=>by simpa using E (i+1) k (by simpa using az)⟩;have⟨fX,h1,U⟩:=E 0 e rfl;simp at h1;subst h1;exact U
def OJ.ndl {O:List Nat}{w:Og}{a:Ad}{d:Nd}(h:OJ O w a d):Uc O w a.ks (Px d):=Uc.of _ _ (by rw[h.ks,RG]) fun _ _ az=>h.kid az
def Uc.filter {O:List Nat}{w:Og}(f:Tr->Bool):∀ (es:List Ad) (aW:List Nd),Uc O w es aW->Uc O w (es.filter fun k=>f k.tr) (aW.filter fun k=>f k.2)
 | [],[],_=>trivial
 | [],_::_,h=>h.elim
 | _::_,[],h=>h.elim
 | e::es,d::aW,h=>by
  rw[List.filter_cons,List.filter_cons,h.1.tr]
  split
  ·exact⟨h.1,Uc.filter f es aW h.2⟩
  ·exact Uc.filter f es aW h.2
def Uc.get {O:List Nat}{w:Og}:∀ (es:List Ad) (aW:List Nd),Uc O w es aW->∀ (i:Nat) (h1:i<es.length) (U:i<aW.length),OJ O w es[i] aW[i]
 | [],_,_,i,h1,_=>by simp at h1
 | _::_,[],_,i,_,U=>by simp at U
 | _::_,_::_,h,0,_,_=>h.1
 | _::es,_::aW,h,i+1,h1,U=>Uc.get es aW h.2 i (by simpa using h1) (by simpa using U)
def Uc.len {O:List Nat}{w:Og}:∀ (es:List Ad) (aW:List Nd),Uc O w es aW->es.length=aW.length
 | [],[],_=>rfl
 | [],_::_,h=>h.elim
 | _::_,[],h=>h.elim
 | _::es,_::aW,h=>by rw[List.length_cons,List.length_cons,Uc.len es aW h.2]
def Uc.kp {O:List Nat}{w w':Og}(E:Kp w w'):∀ (es:List Ad) (aW:List Nd),Uc O w es aW->Uc O w' es aW
 | [],[],_=>trivial
 | [],_::_,h=>h.elim
 | _::_,[],h=>h.elim
 | _::es,_::aW,h=>⟨h.1.kp E,Uc.kp E es aW h.2⟩
def XH (p:Pl)(aW:List Nd)(σ:St):St:=aW.foldl (fun σ k=>settle p.scope k.2.tx (mkFun k p σ).1 (mkFun k p σ).2) σ
def ajo (p:Pl)(aW:List Nd)(σ:St)(k:Nat)(E:k<aW.length):XH p (aW.take (k+1)) σ=settle p.scope (aW[k]).2.tx (mkFun aW[k] p (XH p (aW.take k) σ)).1 (mkFun aW[k] p (XH p (aW.take k) σ)).2:=by
 unfold XH;rw[List.take_succ_eq_append_getElem E,List.foldl_append];rfl
def Sz.XH (p:Pl):∀ (aW:List Nd) {σ:St} {N:Nat},Sz N σ->Sz (N+2 * aW.length) (XH p aW σ)
 | [],_,_,h=>h
 | d::aW,σ,N,h=>by
  have:=Sz.XH p aW ((h.mkFun d p).settle p.scope d.2.tx (Hp.mkFun d p σ).1);rw[List.length_cons,show N+2 * (aW.length+1)=N+1+1+2 * aW.length by omega];exact this
section
variable {w0:Og} {mb af:Nat} {O:List Nat} {es aT aB aA aK:Ot} {w w':Og} {σ:St} {N:Nat}
section
variable (ac:Mx w0 mb af O aT aB aA aK w σ)
include ac
def Zv {a:Ad}{d:Nd}(hd:OJ O w a d)(E:d.2.kids.length=2)(aH:Sz N σ)(hN:N<1000000000)(p:Pl)(aC:Option Addr) :
  Oq 60 #[N7 mb,N7 a.p,PD p aC] w fun e w'=>e=OA (vA (mkFun d p σ).1)/\∃ WA,Mx w0 mb af O aT aB aA WA w' (mkFun d p σ).2/\Q9 mb aA aK aA WA w w':=by
 obtain⟨au,aG,st⟩:=p;have hl:σ.Qg.length<=1000000000:=OO (Nat.lt_of_le_of_lt aH.fn hN)
 cases st with
 | true=>
  have h:=ajh ac hd E hl aH.go.sm (OO hN) au aG aC _ rfl;unfold mkFun;rw[Bool.true_or];exact h
 | false=>
  have h:=amB ac hd E hl aH.go.sm (OO hN) au aG aC _ rfl;unfold mkFun;rw[Bool.false_or];exact h
def ag1 (aH:Sz N σ)(hN:N<1000000000)(au:Int)(nm:Ou)(v:Va) :
  Oq 270 #[N7 mb,NY au,Oj nm,vA v] w fun e w'=>e=OA (.tuple #[])/\Mx w0 mb af O aT aB aA aK w' (settle au nm v σ)/\O8 Th mb w w':=by
 refine(apP ac.hh aH.go hN au nm v).mono ?_;rintro e w' ⟨rfl,h1,U⟩;rw[adS];exact⟨rfl,ac.heap h1 U,U⟩
def ae1 (aH:Sz N σ){a:Ad}{d:Nd}(hd:OJ O w a d)(E:d.2.kids.length<=90000)(hN:N+d.2.kids.length<1000000000)(au:Int) :
  Oq 57 #[N7 mb,N7 a.p,NY au] w fun e w'=>e=OA (.tuple #[])/\Mx w0 mb af O aT aB aA aK w' (PN (OZ d.2) au σ)/\O8 Th mb w w':=by
 have h:=axv ac.hh aH.go hd.at_ (by rw[hd.ks];exact E) (by rw[hd.ks];exact hN) au
 rw[hd.tr] at h;refine h.mono ?_;rintro e w' ⟨rfl,h1,U⟩;rw[acg];exact⟨rfl,ac.heap h1 U,U⟩
end
def V4 {b j:Nat}{c:Array Ot}{t:TypeId}(h:w.heap[b]? = some (OM c t))(A:mb<=b)(x:Ot):O8 [t] mb w (w.setCell (N9 b j) x):=
 O8.setCell (O8.of QI (Nat.le_trans A (OO (lt_of_heap h)))) h OW A _
def ZA {b j:Nat}(A:w.heap.size<=b)(x:Ot)(i:Nat)(az:i<w.heap.size):(w'.setCell (N9 b j) x).heap[i]? = w'.heap[i]?:=heap_setCell_other _ _ _ _ (show i≠b by omega)
def OJ.blk {a:Ad}{d:Nd}(h:OJ O w a d):∃ c,w.heap[a.p]? = some (OM c 40):=by
 have h1:=h.at_;exact aw4
section
variable {gT fv:Ot} (h:Q9 mb aA aK gT fv w w') (ac:Mx w0 mb af O aT aB aA aK w σ)
include gT fv h ac
def Q9.XG {q j:Nat}{v:Ot}(ai:w.cell? (N9 q j)=some v)(ag:∃ c,w.heap[q]? = some (OM c 40)):w'.cell? (N9 q j)=some v:=by
 obtain⟨c,ag⟩:=ag;have U:w'.heap[q]? = w.heap[q]?:=(h.kp ac q c 40 ag (Or.inl rfl)).trans ag.symm;exact(World.cell?_of_block (w:=w) (a:=(N9 q j)) U).trans ai
def Q9.keep {b:Nat}{c:Array Ot}{t:TypeId}(A:w.heap[b]? = some (OM c t))(aZ:t ∉ Tm):w'.heap[b]? = some (OM c t):=(h.frL (L:=none) ac).rest b c t A aZ OW
end
def akW (ac:Mx w0 mb af O aT aB aA aK w σ)(aH:Sz N σ){a:Ad}{d:Nd}(hd:OJ O w a d)(E:d.2.kids.length<=90000)(hN:N+2 * d.2.kids.length<1000000000)(U:∀ k ∈ SX d,k.2.kids.length=2)(p:Pl)(aC:Option Addr) :
  Oq 199 #[N7 mb,N7 a.p,PD p aC] w fun e w'=>e=OA (.tuple #[])/\∃ WA,Mx w0 mb af O aT aB aA WA w' (Sj d p σ)/\Q9 mb aA aK aA WA w w':=by
 have bG:=ac.lt;have z:=N8 (∀{G}(h:G:=by
 have⟨es,gJ⟩:=xE (a.ks.filter fun k=>TJ k.tr);have⟨aW,hds⟩:=xE (SX d);have fc:es.length<=d.2.kids.length:=by rw[gJ,<-hd.ks];exact List.length_filter_le _ _
 have fw:Uc O w es aW:=by rw[gJ,hds];exact Uc.filter TJ _ _ hd.ndl
 have hlen:=Uc.len _ _ fw;have aj:=(Xj a w2 (Ri.kp (Kp.of aE) _ hd.at_) (by rw[hd.ks];exact E))
 rw[<-gJ] at aj;have aw:∀ p,Sj d p σ=XH p aW σ:=fun p=>by rw[hds];rfl
 rw[aw];rw[<-hds] at U;have⟨q,ag⟩:=xE a.p;rw[<-ag] at aj ⊢;have el:=(ac.later aE);have Gb:=(Uc.kp (Kp.of aE) _ _ fw);have b7:=hide bb;have gY:=hide U;have H9:N+2 * es.length<1000000000:=Oe;have Ik:es.length<=90000:=Oe;have qb:=hide hlen;clear E hN U gJ hds fc aw ag bb hlen;go_enter func199,ntmps199;go_wp2_with fail;rw[<-bo.out,<-bS];clear bS;refine cm aj ?_;rintro e w1 ⟨⟨u,rfl,aa⟩,bZ⟩;obtain⟨cV,dM,rfl⟩:=aa.form;have eE:=(aE.trans (bZ.mono aE.size));have hV:=(el.later bZ)
 have nF:=(Uc.kp (Kp.of bZ) _ _ Gb);have gD:=hide (stays bZ b7.out);have n2:=hV.lt;go_wp2_with fail
 go_loopw [11] (fun i wr=>∃ (k:Nat) (WA:Ot),k<=es.length/\i=NY k/\Mx w0 mb af O aT aB aA WA wr (XH ⟨au,aG,st⟩ (aW.take k) σ)/\Q9 mb aA aK aA WA w1 wr) (fun i _=>es.length - (intOf i).toNat)
 case atStart=>exact⟨0,aK,Nat.zero_le _,rfl,hV,Q9.of QI (OO n2)⟩
 case round=>
  obtain⟨k,ql,E,rfl,hh,aF⟩:=hrel;have eS:=hh;have fL:=hide (aF.keep hV gD.out Ol);have h4:=hh.lt
  by_cases aM:k<es.length
  ·obtain⟨g,cap,am,hg,ai,ax⟩:=(aa.kp (aF.kp hV)).cell k aM;simp only[Value.slice.injEq] at am;obtain⟨rfl,_,rfl⟩:=am;have hK:(k:Int)<(es.length:Int):=Oe;have bm:k<aW.length:=by rw[<-qb.out];exact aM
   have ji:=(Uc.get _ _ nF k aM bm).kp (aF.kp hV);obtain⟨ds,_,c1,_⟩:=ji.cells;have iy:=hide (ajo ⟨au,aG,st⟩ aW σ k bm);have jV:Sz (N+2 * k) (XH ⟨au,aG,st⟩ (aW.take k) σ):=by
    have:=(Sz.XH ⟨au,aG,st⟩ (aW.take k) aH);rw[List.length_take,Nat.min_eq_left (OO bm)] at this;exact this
   have⟨dx,gS⟩:=xE (XH ⟨au,aG,st⟩ (aW.take k) σ);rw[<-gS] at eS iy jV;have De:=NZ gY aW[k] (List.getElem_mem _);have hR:=hide (fun X (ak:Oo wr X)=>Zv (eS.later ak) (ji.kp (Kp.of ak)) De jV Oe ⟨au,aG,st⟩ aC);have⟨bU,eX⟩:=xE ((es[k]).p);have⟨fX,oP⟩:=xE (aW[k]);have AS:=ji.blk;rw[<-eX] at ai ds c1 hR AS;rw[<-oP] at c1 iy hR;have wT:=jV.mkFun fX ⟨au,aG,st⟩;have⟨eD,mK⟩:=xE ((mkFun fX ⟨au,aG,st⟩ dx).1);have⟨tx,cB⟩:=xE fX.2.tx;rw[<-mK] at hR iy;rw[<-cB] at c1 iy
   have xY:N+2 * k+1<1000000000:=Oe;have eM:=lt_of_heap fL.out;have e9:=hide c1;have zf:Hid (∃ c,wr.heap[bU]? = some (OM c 40)):=AS;clear AS gS De eX oP mK cB c1;go_wp2_with fail;have ae:(fun X=>X.heap[bc]? = some (plO ⟨au,aG,st⟩ aC)/\X.cell? (N9 bU 1)=some (Oj tx)) wr.drew:=⟨fL.out,e9.out⟩;refine Qs 11 (fun X=>X.heap[bc]? = some (plO ⟨au,aG,st⟩ aC)/\X.cell? (N9 bU 1)=some (Oj tx)) Pe ?_;refine up 0 mb 0 ae ?_;refine up 1 bc 0 ae ?_
   refine uc 2 (NY au) rfl (Or.inl ⟨by kernel_rfl,fun X ak=>by have h0:=(cells4 ak.1).1;go_simp⟩) (ae) ?_
   refine up 3 bU 0 ae ?_;refine up 4 bU 0 ae ?_;refine up 5 bU 1 ae ?_;refine uc 6 (Oj tx) rfl (Or.inl ⟨by kernel_rfl,fun X ak=>by have h0:=ak.2;go_simp⟩) (ae) ?_
   refine up 7 mb 0 ae ?_;refine up 8 bU 0 ae ?_;refine uc 9 (.agg #[NY au,NY aG,Om st,.pointer aC]) rfl (Or.inl ⟨by kernel_rfl,fun X ak=>by have h0:=(cells4 ak.1).1;have h1:=(cells4 ak.1).2.1;have U:=(cells4 ak.1).2.2.1;have av:=(cells4 ak.1).2.2.2.1;go_simp⟩) (ae) ?_
   refine PS 10 fun K D=>?_;go_simp;refine cm (NZ hR _ QI.drew) ?_;rintro e aq ⟨rfl,fT,fI,c7⟩;have hfr3:Q9 mb aA ql aA fT wr aq:=(Q9.of QI.drew (OO h4)).trans c7;have s5:aq.heap[bc]? = some (plO ⟨au,aG,st⟩ aC)/\aq.cell? (N9 bU 1)=some (Oj tx):=⟨hfr3.keep eS fL.out Ol,hfr3.XG eS e9.out zf.out⟩;refine D.out _ _ (fun _=>s5) ?_;clear D K;have cT:=(aF.trans hfr3);refine PS 11 fun K D=>?_;go_simp;refine cm (ag1 fI wT xY au tx eD) ?_;rintro e bD ⟨rfl,gR,hY⟩;refine ko D ?_;clear D K
   have fD:=(cT.trans (Q9.ofT hY));clear s5 ae;refine RY ?_ _;go_simp;go_wp2
   go_roundw
   case rel=>
    refine⟨k+1,_,by omega,by go_num,?_,fD⟩;rw[iy.out];exact gR
   case measure=>simp[intOf];omega
  ·have cL:k=es.length:=Oe;subst cL;go_wp2
   go_end0
   rw[qb.out,List.take_length] at eS;exact⟨rfl,_,eS,(Q9.of eE (OO bG)).trans aF⟩),G);exact zss
end
section
variable {w:Og} {b:Nat} {x y bB u:Ot} {t:TypeId} (h:w.heap[b]? = some (OM #[x,y,bB,u] t))
include w b x y bB u t h
def aai (x' jC jm fV:Ot) :
  ((((w.setCell (N9 b 0) x').setCell (N9 b 1) jC).setCell (N9 b 2) jm).setCell (N9 b 3) fV).heap[b]? = some (OM #[x',jC,jm,fV] t):=by
 have z:=N8 (∀{G}(h:G:=by
 have aN:=heap_setCell_same _ b 3 _ t fV av;exact aN),G);exact atn
def Yu (x':Ot) :
  (w.setCell (N9 b 0) x').heap[b]? = some (OM #[x',y,bB,u] t):=heap_setCell_same w b 0 _ t x' h
end
section
variable {w0:Og} {mb af:Nat} {O:List Nat} {es aT aB aA aK:Ot} {w w':Og} {σ:St} {N:Nat}
def Ud {b:Nat}{x y bB u:Ot}{t:TypeId}(h:w.heap[b]? = some (OM #[x,y,bB,u] t))(A:mb<=b)(x' jC jm fV:Ot):O8 [t] mb w ((((w.setCell (N9 b 0) x').setCell (N9 b 1) jC).setCell (N9 b 2) jm).setCell (N9 b 3) fV):=by
 have z:=N8 (∀{G}(h:G:=by
 exact O8.setCell (O8.setCell (O8.setCell (O8.setCell (O8.of QI (Nat.le_trans A (OO (lt_of_heap h)))) h OW A _) h1 OW A _) U OW A _) av OW A _),G);exact atn
def UR {b:Nat}(A:w.heap.size<=b)(x' jC jm fV:Ot)(j:Nat)(aS:j<w.heap.size):((((w'.setCell (N9 b 0) x').setCell (N9 b 1) jC).setCell (N9 b 2) jm).setCell (N9 b 3) fV).heap[j]? = w'.heap[j]?:=by
 have cC:j≠b:=Oe;rw[heap_setCell_other _ _ _ _ cC,heap_setCell_other _ _ _ _ cC,heap_setCell_other _ _ _ _ cC,heap_setCell_other _ _ _ _ cC]
def QO (t:Tr):t.kids.length<t.count:=by
 cases t with
 | mk kd tx n ks=>
  rw[count_mk];have h:∀ ap:List Tr,ap.length<=Tr.counts ap:=by
   intro ap
   induction ap with
   | nil=>simp
   | cons t ap bv=>
    rw[OD,List.length_cons];have:1<=t.count:=by cases t with|mk kd tx n ks=>rw[count_mk];omega
    omega
  have:=h ks
  show ks.length<_
  omega
def YZ (ac:Mx w0 mb af O aT aB aA aK w σ)(aH:Sz N σ)(hN:N<1000000000)(u o x:Int)(aQ:(σ.M.ro u).isSome=true) :
  Oq 50 #[N7 mb,NY u,NY o,NY x] w fun e w'=>e=OA (NY σ.top)/\∃ Vr,Mx w0 mb af O aT aB Vr aK w' (σ.opn u o x)/\Q9 mb aA aK Vr aK w w':=
 open_any ac u o x (OO (Nat.lt_of_le_of_lt aH.ow hN)) fun _ _ ak=>aso ak aH.go.sm (OO hN) u o aQ
def atf (a1:Bs w0 mb af O es)(ac:Mx w0 mb af O aT aB aA aK w σ)(aH:Sz N σ){a:Ad}{d:Nd}(hd:OJ O w a d)(ai:d.2.count<=1500)(hN:N+10000<1000000000)(U:∀ k ∈ SX d,k.2.kids.length=2)(p:Pl)(aC:Option Addr)(iW:(σ.M.ro p.scope).isSome=true) :
  Oq 110 #[N7 mb,N7 a.p,PD p aC] w fun e w'=>e=OA (PD (Ph d p σ).1 aC)/\∃ Vr WA,Mx w0 mb af O aT aB Vr WA w' (Ph d p σ).2/\Q9 mb aA aK Vr WA w w':=by
 have bG:=ac.lt;obtain⟨au,aG,st⟩:=p;have⟨w2,cM⟩:=xE ((w.alloc (.cells #[NY au,NY aG,Om st,.pointer aC] 73)).alloc (.cells #[NY 0,NY 0,Om false,QS] 73));have z:=N8 (∀{G}(h:G:=by
 have bb:w2.heap[bc]? = some (OM #[NY au,NY aG,Om st,.pointer aC] 73):=by rw[cM,bS];exact alloc_old (Oi _ _)
 have hr2:w2.heap[aV]? = some (OM #[NY 0,NY 0,Om false,QS] 73):=by
  rw[cM,b4,show w.heap.size+1=(w.alloc (.cells #[NY au,NY aG,Om st,.pointer aC] 73)).heap.size by simp];exact Oi _ _
 have z:=N8 (∀{G}(h:G:=by
 have cI:=QO d.2;have eG:Ug w2 d.2 a.p:=by rw[<-hd.tr];exact(Ri.kp (Kp.of aE) _ hd.at_).nat.nt
 have aj:=(ZX d.2 a.p false w2 eG Oe);have el:=(ac.later aE);have k7:=(hd.kp (Kp.of aE));have b7:=hide bb;have bq:=hide hr2;have bo:=hide cM;have cQ:=hide cE;have sv:=hide dq;have tI:=hide d2;have dY:=aH;have yO:=a1;have gY:=hide U;have⟨q,ag⟩:=xE a.p;rw[<-ag] at aj ⊢;have bj:=hide ag;clear bb hr2 cM dq cE d2 U ag
 by_cases ax:(namesT d.2 false).length=0
 ·have aw:Ph d ⟨au,aG,st⟩ σ=(⟨au,aG,st⟩,σ):=by unfold Ph;rw[if_pos ax]
  rw[aw];clear aw;have z:=N8 (∀{G}(h:G:=by
  rw[ax];have hV:=(el.later bZ);have bN:=hide (stays bZ bq.out);have vc:=(Q9.of (o:=aA) (f:=aK) (aE.trans (bZ.mono aE.size)) (OO bG));have⟨aU,p1,cp,cJ,gU,pl⟩:=cells4 (stays bZ b7.out);have⟨cS,bY,cg,eo,eO,rl⟩:=cells4 bN.out;have dJ:=eO 0;have dK:=eO 1;have dL:=eO 2;have jj:=eO 3;have cC:bc≠aV:=NZ tI;clear eO gU ax;go_wp2_with fail;have⟨b3,bz⟩:=xE ((((w1.setCell (N9 aV 0) (NY au)).setCell (N9 aV 1) (NY aG)).setCell (N9 aV 2) (Om st)).setCell (N9 aV 3) (.pointer aC));rw[<-bz]
  have ea:=aai bN.out (NY au) (NY aG) (Om st) (.pointer aC);have hi:mb<=aV:=by have:=NZ cQ;omega
  have bh:=Ud bN.out hi (NY au) (NY aG) (Om st) (.pointer aC);have bI:=vc.new bh (UR cQ.out _ _ _ _);have bE:=hV.YC bh Ol;rw[<-bz] at ea bI bE;have⟨cK,b1,bU,ej,_,_⟩:=cells4 ea;exact U8 (v:=PD ⟨au,aG,st⟩ aC) ⟨rfl,_,_,bE,bI⟩),G);exact aDc
 ·have⟨e2,lx⟩:=xE (σ.top:Int);have aw:Ph d ⟨au,aG,st⟩ σ=(⟨e2,aG,st⟩,Sj d ⟨e2,aG,st⟩ (PN (OZ d.2) e2 (σ.opn au (-1) (own d)))):=by unfold Ph;rw[if_neg ax,lx]
  rw[aw];clear aw;have⟨nl,fw⟩:=xE ((namesT d.2 false).length);have nF:=hide fw;have jQ:¬ (nl:Int)=0:=Oe;clear fw ax;have⟨ow,l0⟩:=xE (own d:Int);rw[<-l0];have z:=N8 (∀{G}(h:G:=by
  rw[<-nF.out];have hV:=(el.later bZ);have bN:=hide (stays bZ bq.out);have gD:=hide (stays bZ b7.out);have ei:=hide (cells4 (stays bZ b7.out));have yY:=(k7.kp (Kp.of bZ));have vc:=(Q9.of (o:=aA) (f:=aK) (aE.trans (bZ.mono aE.size)) (OO bG));have lc:=hide (fun X (ak:Oo w1 X)=>Yt yO (hV.later ak) (yY.kp (Kp.of ak)));rw[<-bj.out,<-l0] at lc;have ci:=hide (fun X (ak:Oo w1 X)=>YZ (hV.later ak) dY Oe au (-1) ow iW);rw[<-lx] at ci;have n2:=hV.lt;have oX:=lt_of_heap gD.out
  have np:q<w1.heap.size:=by rw[bj.out];exact yY.cells.1
  clear l0 lx;go_wp2_with fail;have z:=N8 (∀{G}(h:G:=by
  have qz:=(Q9.of ae (OO n2)).trans c7;have fk:=hide (qz.keep hV gD.out Ol);have dg:=hide (qz.keep hV bN.out Ol);have mX:=(yY.kp (qz.kp hV));have cT:=(vc.trans qz);have⟨aU,p1,cp,cJ,gU,pl⟩:=cells4 fk.out;have z:=N8 (∀{G}(h:G:=by
  have f3:=(fI.YC lu Ol);have ls:=Yu fk.out (NY e2);have gE:Hid (bD.heap[aV]? = some (OM #[NY 0,NY 0,Om false,QS] 73)):=asv
  have z:=N8 (∀{G}(h:G:=by
  have uJ:=dY.opn au (-1) ow;have G8:=uJ;have dX:=(ae1 f3 uJ p4 Oe Oe e2);rw[<-bj.out] at dX;have⟨jA,kD,s2,pb,_,Ku⟩:=cells4 ls;have gz:=f3.lt;clear fH ls aU p1 cp cJ pa;go_wp2_with fail;refine cm dX ?_;rintro e ce ⟨rfl,l4,hJ⟩;have CL:=l4;have ja:=hide (hJ.rest bc _ 73 kN.out Ol);have gr:=hide (hJ.rest aV _ 73 gE.out Ol);have nz:=(p4.kp (O8.kp hJ));have g':=(fD.trans (Q9.ofT hJ));have s7:=G8.lets (OZ d.2) e2;have ij:=Tf d.2;have hS:=(akW l4 s7 nz Oe Oe gY.out ⟨e2,aG,st⟩ aC)
  rw[<-bj.out] at hS;have⟨t0,kG,t2,t3,_,NJ⟩:=cells4 ja.out;clear ij jA kD s2 pb;go_wp2_with fail;refine cm hS ?_;rintro e ch ⟨rfl,Lx,o3,km⟩;have ig:=hide (km.keep CL gr.out Ol);have lN:=(g'.trans km);have⟨hp,gp,gb,ka,_,NN⟩:=cells4 (km.keep CL ja.out Ol);have⟨cS,bY,cg,eo,eO,rl⟩:=cells4 ig.out;have dJ:=eO 0;have dK:=eO 1;have dL:=eO 2;have jj:=eO 3;have cC:bc≠aV:=NZ tI;clear t0 kG t2 t3 eO;go_wp2_with fail
  have⟨b3,bz⟩:=xE ((((ch.setCell (N9 aV 0) (NY e2)).setCell (N9 aV 1) (NY aG)).setCell (N9 aV 2) (Om st)).setCell (N9 aV 3) (.pointer aC));rw[<-bz];have ea:=aai ig.out (NY e2) (NY aG) (Om st) (.pointer aC);have hi:mb<=aV:=by have:=NZ cQ;omega
  have bh:=Ud ig.out hi (NY e2) (NY aG) (Om st) (.pointer aC);have bI:=lN.new bh (UR cQ.out _ _ _ _);have bE:=o3.YC bh Ol;rw[<-bz] at ea bI bE;have⟨cK,b1,bU,ej,_,_⟩:=cells4 ea;exact U8 (v:=PD ⟨e2,aG,st⟩ aC) ⟨rfl,_,_,bE,bI⟩),G);exact aAQ),G);exact av7),G);exact aAR),G);exact aDc),G);exact zsf),G);exact axq
end
section
variable {w0:Og} {mb af:Nat} {O:List Nat} {es aT aB aA aK:Ot} {w w':Og} {σ:St} {N:Nat}
def Sz.dec {N:Nat}{σ:St}(h:Sz N σ)(s:Int)(nm:Ou)(k:Int)(v:Va):Sz (N+1) (σ.dec s nm k v):=h.heap (Nat.le_succ _) (h.go.declare s nm k v) (Vj _ _ _ _ _)
def Sz.Qx {N:Nat}{σ:St}(h:Sz N σ)(o:Int)(nm:Ou)(v:Va)(fx:Bool):Sz (N+1) (σ.Qx o nm v fx):=h.heap (Nat.le_succ _) (h.go.put o nm v fx) (aae _ _ _ _ _)
section
variable (ac:Mx w0 mb af O aT aB aA aK w σ) (aH:Sz N σ) (hN:N<1000000000)
include ac aH hN
def WY (s:Int)(nm:Ou)(k:Int)(v:Va) :
  Oq 128 #[N7 mb,NY s,Oj nm,NY k,vA v] w fun e w'=>e=OA (TT (σ.M.declare s nm k v).1)/\Mx w0 mb af O aT aB aA aK w' (σ.dec s nm k v)/\O8 Th mb w w':=by
 refine(WT ac.hh aH.go.sm (OO hN) s nm k v).mono ?_;rintro e w' ⟨rfl,h1,U⟩;exact⟨rfl,ac.heap h1 U,U⟩
def YL (o:Int)(nm:Ou)(v:Va)(fx:Bool) :
  Oq 56 #[N7 mb,NY o,Oj nm,vA v,Om fx] w fun e w'=>e=OA (TT (σ.M.put o nm v fx).1)/\Mx w0 mb af O aT aB aA aK w' (σ.Qx o nm v fx)/\O8 Th mb w w':=by
 refine(aAO ac.hh aH.go.sm (OO hN) o nm v fx).mono ?_;rintro e w' ⟨rfl,h1,U⟩;exact⟨rfl,ac.heap h1 U,U⟩
def aaf (c:Int) :
  Oq 49 #[N7 mb,NY c] w fun e w'=>e=OA (NY σ.M.objs.length)/\Mx w0 mb af O aT aB aA aK w' { σ with M:=σ.M.OY c }/\O8 Th mb w w':=by
 refine(abK ac.hh aH.go.sm (OO hN) c).mono ?_;rintro e w' ⟨rfl,h1,U⟩;exact⟨rfl,ac.heap h1 U,U⟩
end
def aoL (a1:Bs w0 mb af O es)(ac:Mx w0 mb af O aT aB aA aK w σ)(aH:Sz N σ){a:Ad}{d:Nd}(hd:OJ O w a d)(E:d.2.kids.length=2)(hN:N+10000<1000000000)(p:Pl)(aC:Option Addr)(iW:(σ.M.ro p.scope).isSome=true) :
  Oq 265 #[N7 mb,N7 a.p,PD p aC] w fun e w'=>e=OA (vA (Uz d p σ).1)/\∃ Vr WA,Mx w0 mb af O aT aB Vr WA w' (Uz d p σ).2/\Q9 mb aA aK Vr WA w w':=by
 have bG:=ac.lt;obtain⟨au,aG,st⟩:=p;have⟨w2,bo⟩:=xH ((w.alloc (.cells #[NY au,NY aG,Om st,.pointer aC] 73)).alloc (.cells #[NY 0,NY 0,Pm] 65));have z:=N8 (∀{G}(h:G:=by
 have hr2:w2.heap[aV]? = some (OM #[NY 0,NY 0,Pm] 65):=asu
 have z:=N8 (∀{G}(h:G:=by
 obtain⟨I',_,sG,_⟩:=hd.cells;obtain⟨ds,_,c1,_⟩:=(hd.kp (Kp.of aE)).cells;have el:=(ac.later aE);have k7:=(hd.kp (Kp.of aE));have b7:=hide bb;have bq:=hide hr2;have cG:=(Q9.of (o:=aA) (f:=aK) aE (OO bG));have cQ:=hide cE;have sv:=hide dq;have tI:=hide d2;have⟨q,bj⟩:=xH a.p;have⟨tx,cB⟩:=xE d.2.tx;rw[<-bj.out] at ds c1 I' sG ⊢;rw[<-cB] at c1 sG;have e9:=hide c1;clear c1;have dk:=el.lt;have hpl2:=lt_of_heap bb;clear hr2 dq cE d2
 by_cases h0:d.2.tx=Oh
 ·have⟨v,am⟩:=xE ((mkFun d ⟨au,aG,st⟩ σ).1);have⟨σ1,h8⟩:=xE ((mkFun d ⟨au,aG,st⟩ σ).2);have aw:Uz d ⟨au,aG,st⟩ σ=(v,σ1):=by unfold Uz;rw[if_pos h0,am,h8]
  rw[aw];have hS:=(Zv el k7 E aH Oe ⟨au,aG,st⟩ aC);rw[<-am,<-h8,<-bj.out] at hS;have Jl:tx.toList.isEmpty=true:=by rw[cB,h0];decide +kernel
  have⟨aU,p1,cp,cJ,_,_⟩:=cells4 bb;clear aw am h8 h0 cB bb;go_enter func265,ntmps265;go_wp2_with fail;rw[<-bo.out,<-b4,<-bS];clear bS b4;refine cm hS ?_;rintro e aq ⟨rfl,fT,fI,c7⟩;have eF:=fI;have dg:=hide (c7.keep el bq.out Ol);have cT:=(cG.trans c7);have z:=N8 (∀{G}(h:G:=by
  clear aU p1 cp cJ;go_wp2_with fail;have⟨b3,bz⟩:=xE (((aq.setCell (N9 aV 0) (NY v.k)).setCell (N9 aV 1) (NY v.n)).setCell (N9 aV 2) (Oj v.s));rw[<-bz];have ea:=aag dg.out (NY v.k) (NY v.n) (Oj v.s);have hi:mb<=aV:=by have:=NZ cQ;omega
  have bh:=RF dg.out hi (NY v.k) (NY v.n) (Oj v.s);have bI:=cT.new bh (Ub cQ.out _ _ _);have bE:=eF.YC bh Ol;rw[<-bz] at ea bI bE;have⟨cK,b1,bU,_,_⟩:=cells3 ea;exact WB (v:=vA v) ⟨rfl,_,_,bE,bI⟩),G);exact av6
 ·have⟨e2,lx⟩:=xE (σ.top:Int);have⟨ow,l0⟩:=xE (own d:Int);have⟨uS,zw⟩:=xH (σ.opn au (-1) ow);have⟨v,am⟩:=xE ((mkFun d ⟨e2,aG,st⟩ uS).1);have⟨σ1,h8⟩:=xE ((mkFun d ⟨e2,aG,st⟩ uS).2);have aw:Uz d ⟨au,aG,st⟩ σ=(v,σ1.dec e2 tx 3 v):=by unfold Uz;rw[if_neg h0,am,h8,zw.out,lx,l0,cB]
  rw[aw];have Jl:tx.toList.isEmpty=false:=by rw[adI,cB];exact decide_eq_false h0
  have ei:=hide (cells4 bb);have lc:=hide (fun X (ak:Oo w2 X)=>Yt a1 (el.later ak) (k7.kp (Kp.of ak)));rw[<-bj.out,<-l0] at lc;have ci:=hide (fun X (ak:Oo w2 X)=>YZ (el.later ak) aH Oe au (-1) ow iW);rw[<-lx,<-zw.out] at ci;have iQ:=hide h8;have bF:=hide am;clear aw l0 lx h0 cB h8 am bb;go_enter func265,ntmps265;go_wp2_with fail;rw[<-bo.out,<-b4,<-bS];clear bS b4;have z:=N8 (∀{G}(h:G:=by
  have qz:=(Q9.of ae (OO dk)).trans c7;have eF:=fI;have fk:=hide (qz.keep el b7.out Ol);have dg:=hide (qz.keep el bq.out Ol);have mX:=(k7.kp (qz.kp el));have cT:=(cG.trans qz);have⟨aU,p1,cp,cJ,gU,pl⟩:=cells4 fk.out;have z:=N8 (∀{G}(h:G:=by
  have f3:=(eF.YC lu Ol);have ls:=Yu fk.out (NY e2);have gE:Hid (bD.heap[aV]? = some (OM #[NY 0,NY 0,Pm] 65)):=asv
  have z:=N8 (∀{G}(h:G:=by
  have uJ:=aH.opn au (-1) ow;rw[<-zw.out] at uJ;have s7:=uJ.mkFun d ⟨e2,aG,st⟩;rw[<-iQ.out] at s7;have dX:=(Zv f3 p4 E uJ Oe ⟨e2,aG,st⟩ aC);rw[<-bF.out,<-iQ.out,<-bj.out] at dX;have⟨jA,kD,s2,pb,_,Ku⟩:=cells4 ls;have gz:=f3.lt;clear fH ls aU p1 cp cJ pa;go_wp2_with fail;refine cm dX ?_;rintro e ce ⟨rfl,HF,l4,hJ⟩;have ja:=hide (hJ.keep f3 kN.out Ol);have gr:=hide (hJ.keep f3 gE.out Ol);have nz:=(p4.kp (hJ.kp f3));have g':=(fD.trans hJ);clear jA kD s2 pb;go_wp2_with fail
  have⟨ch,gn⟩:=xE (ce.alloc (.cells #[NY v.k,NY v.n,Oj v.s] 65));rw[<-gn];have fh:Oo ce ch:=by rw[gn];exact PE
  have wN:ch.heap[ce.heap.size]? = some (OM #[NY v.k,NY v.n,Oj v.s] 65):=by rw[gn];exact Oi _ _
  have⟨vb,a7⟩:=xE ce.heap.size;rw[<-a7] at wN ⊢;have mo:=(l4.later fh);have rA:=mo.lt;have mh:=hide (stays fh ja.out);have Gp:=hide (cells4 (stays fh ja.out));have ig:=hide (stays fh gr.out);have lN:=(g'.trans (Q9.of fh (OO l4.lt)));have re:=hide wN;have gd:=hide (cells3 wN);have MJ:q<ch.heap.size:=by rw[bj.out];exact(nz.kp (Kp.of fh)).cells.1
  have DR:ch.cell? (N9 q 1)=some (Oj tx):=by
   have h1:=(nz.kp (Kp.of fh)).cells.2.2.1;have U:=k7.cells.2.2.1;rw[<-bj.out] at h1 U;have av:=NZ e9;rw[U] at av;cases av;exact h1
  have tz:=hide DR;have I4:=lt_of_heap mh.out;have MZ:=lt_of_heap wN;have tA:=hide (fun X (ak:Oo ch X)=>WY (mo.later ak) s7 Oe e2 tx 3 v);clear wN a7 gn DR;refine S9 10 fun ae=>?_;have z:=N8 (∀{G}(h:G:=by
  refine up 3 bc 0 ae ?_;refine uk 4 (Gp.out.1) ae ?_;refine up 5 q 0 ae ?_;refine up 6 q 0 ae ?_;refine up 7 q 1 ae ?_;refine uk 8 tz.out ae ?_;refine uk3 9 gd.out ae ?_;refine PS 10 fun K D=>?_;go_simp;refine cm (NZ tA _ ae) ?_;rintro e d6 ⟨rfl,rI,ng⟩;refine ko D ?_;clear D K;have Ay:=(O8.of (T:=Th) ae (OO rA)).trans ng;have rf:=hide rI;have nL:=hide (Ay.rest aV _ 65 ig.out Ol);have p7:=hide (lN.trans (Q9.ofT Ay));obtain⟨v0,v1,v2,_,vl⟩:=cells3 (Ay.rest vb _ 65 re.out Ol);refine RY ?_ _
  have⟨cS,bY,cg,eO,rl⟩:=cells3 nL.out;have dJ:=eO 0;have dK:=eO 1;have dL:=eO 2;clear eO;go_simp;go_wp2_with fail;have⟨b3,bz⟩:=xE (((d6.setCell (N9 aV 0) (NY v.k)).setCell (N9 aV 1) (NY v.n)).setCell (N9 aV 2) (Oj v.s));rw[<-bz];have ea:=aag nL.out (NY v.k) (NY v.n) (Oj v.s);have hi:mb<=aV:=by have:=NZ cQ;omega
  have bh:=RF nL.out hi (NY v.k) (NY v.n) (Oj v.s);have bI:=p7.out.new bh (Ub cQ.out _ _ _);have bE:=rf.out.YC bh Ol;rw[<-bz] at ea bI bE;have⟨cK,b1,bU,_,_⟩:=cells3 ea;exact WB (v:=vA v) ⟨rfl,_,_,bE,bI⟩),G);exact TI),G);exact aAQ),G);exact av7),G);exact aAR),G);exact zsf),G);exact zsc
def Ms (w0:Og)(mb af:Nat)(O:List Nat)(w:Og)(σ:St):Prop:=∃ aT aB aA aK,Mx w0 mb af O aT aB aA aK w σ
abbrev Y0 (v:Va):Obj:=OM #[NY v.k,NY v.n,Oj v.s] 65
variable {w2:Og}{L:Option Nat}
def Ms.lt (h:Ms w0 mb af O w σ):mb<w.heap.size:=by obtain⟨_,_,_,_,h⟩:=h;exact h.lt
def Ms.later (h:Ms w0 mb af O w σ)(A:Oo w w'):Ms w0 mb af O w' σ:=by obtain⟨_,_,_,_,h⟩:=h;exact⟨_,_,_,_,h.later A⟩
def Ms.YC {T:List TypeId}(h:Ms w0 mb af O w σ)(f:O8 T mb w w')(dZ:∀ e ∈ T,e ∉ Tm/\e≠40/\e≠22):Ms w0 mb af O w' σ:=by obtain⟨_,_,_,_,h⟩:=h;exact⟨_,_,_,_,h.YC f dZ⟩
def Ms.below (h:Ms w0 mb af O w σ):Below mb w0 w:=by obtain⟨_,_,_,_,h⟩:=h;exact h.bw
def OV.newT {T:List TypeId}(h:OV L mb w w')(k:O8 T mb w' w2)(E:∀ b,b<w.heap.size->w2.heap[b]? = w'.heap[b]?):OV L mb w w2:=
 ⟨h.below.trans k.below,fun b c e A ao hl=>by rw[E b (lt_of_heap A)];exact h.rest b c e A ao hl⟩
def OV.keep (h:OV none mb w w'){b:Nat}{c:Array Ot}{t:TypeId}(A:w.heap[b]? = some (OM c t))(aZ:t ∉ Tm):w'.heap[b]? = some (OM c t):=h.rest b c t A aZ OW
def OV.Ul (h:OV none mb w w'):Kp w w':=h.kp (fun b e=>by cases e)
def WZ.Qn {v:Ot}{e:Er}{T:List TypeId}(h:WZ es w v e)(aF:O8 T mb w w')(dZ:126 ∉ T):WZ es w' v e:=by
 cases e with
 | no=>exact h
 | stop=>exact h
 | mis=>exact h
 | X8 x=>
  obtain⟨b,h1,U⟩:=h;exact⟨b,h1,aF.rest b _ _ U dZ⟩
def Zf (v:Ot):Prop:=∃ t x,v=.iface t x
def WZ.WC {v:Ot}{e:Er}(h:WZ es w v e)(ao:e≠.no)(ab:Zf es):Zf v:=by
 cases e with
 | no=>exact absurd rfl ao
 | stop=>rw[show v=es from h];exact ab
 | mis=>exact⟨_,_,h⟩
 | X8 x=>obtain⟨b,h1,_⟩:=h;exact⟨_,_,h1⟩
structure VB (w0:Og)(mb af:Nat)(O:List Nat)(es:Ot)(w2:Og)(v:Va)(e:Er)(σ:St)(wz:Og)(vb:Nat)(ev:Ot):Prop where
 v:wz.heap[vb]? = some (Y0 v)
 vb:w2.heap.size<=vb
 er:WZ es wz ev e
 ms:Ms w0 mb af O wz σ
 fr:OV none mb w2 wz
def VB.late {aD:Og}{ev:Ot}{v:Va}{e:Er}(aL:WZ es aD ev e)(aJ:Ms w0 mb af O aD σ)(ah:OV none mb w2 aD):VB w0 mb af O es w2 v e σ (aD.alloc (.cells #[NY v.k,NY v.n,Oj v.s] 65)) aD.heap.size ev:=by
 have A:Oo aD (aD.alloc (.cells #[NY v.k,NY v.n,Oj v.s] 65)):=PE;exact⟨Oi _ _,ah.below.size,aL.later A,aJ.later A,ah.trans (OV.of A (OO aJ.lt))⟩
def VB.early {aD:Og}{ev x y bB:Ot}{v:Va}{e:Er}{vb:Nat}(am:aD.heap[vb]? = some (OM #[x,y,bB] 65))(a7:w2.heap.size<=vb)(aR:mb<=w2.heap.size)(aL:WZ es aD ev e)(aJ:Ms w0 mb af O aD σ)(ah:OV none mb w2 aD) :
  VB w0 mb af O es w2 v e σ (((aD.setCell (N9 vb 0) (NY v.k)).setCell (N9 vb 1) (NY v.n)).setCell (N9 vb 2) (Oj v.s)) vb ev:=by
 have aF:=RF am (Nat.le_trans aR a7) (NY v.k) (NY v.n) (Oj v.s);exact⟨aag am _ _ _,a7,aL.Qn aF Ol,aJ.YC aF Ol,ah.newT aF (Ub a7 _ _ _)⟩
def VG {H G:Og->Nat->Ot->Prop}{goal:Prop}(h1:(∀ w v u,H w v u->G w v u)->goal)(U:∀ w v u,H w v u->G w v u):goal:=h1 U
def OQ (w0:Og)(mb af:Nat)(O:List Nat)(es:Ot)(w:Og)(r:(Va × Er) × St)(e:Ending)(w':Og):Prop:=
 (∃ ev,e=OA (.tuple #[vA r.1.1,ev])/\WZ es w' ev r.1.2)/\Ms w0 mb af O w' r.2/\OV none mb w w'
section
variable (h:Mx w0 mb af O aT aB aA aK w σ)
include h
def Mx.aAS (x:Int × Int){aq:Og}{sv':Ot}(hg:w.grownBy aq aB.ownBlock)(aO:aq.ownsRow mb 54 2 sv' (σ.seen.length+1) (σ.seen.flatMap sn2++sn2 x)) :
  Mx w0 mb af O aT sv' aA aK (aq.setCell (N9 mb 6) sv') { σ with seen:=σ.seen++[x] }/\OV none mb w (aq.setCell (N9 mb 6) sv'):=by
 have dU:O8 [54] mb w aq:=O8.grown hg (OO h.lt) fun k E=>by
  have⟨c,ai⟩:=PW h.se E;exact⟨(h.se.lt k E).1,c,54,ai,by simp⟩
 have kW:=h.hh.keep dU Ol Ol Ol Ol Ol;have⟨lY,dQ⟩:=kW.cell 4 sv';have g0:O8 [54,84] mb w (aq.setCell (N9 mb 6) sv'):=(dU.mono Ol Pg).trans (dQ.mono Ol Pg);obtain⟨d9,h1,U,av⟩:=h.fu
 refine⟨⟨h.bw.trans g0.below,lY,OH h.lg g0 Ol,?_,OH h.ow g0 Ol,d9,h1,OH U g0 Ol,fun i a f ay gg=>(av i a f ay gg).kp (fun b c e A ao=>g0.rest b c e A (by rcases ao with rfl|rfl <;> decide))⟩,⟨g0.below,fun b c e A ao _=>g0.rest b c e A (fun q=>ao (by rcases List.mem_cons.1 q with rfl|q;decide;rw[List.mem_singleton.1 q];decide))⟩⟩
 have bx:=OH aO dQ Ol
 show World.ownsRow _ _ _ _ _ (σ.seen++[x]).length ((σ.seen++[x]).flatMap sn2)
 rw[List.length_append,List.flatMap_append];simpa using bx
def Mx.aAT (x:Ou){aq:Og}{lv':Ot}(hg:w.grownBy aq aT.ownBlock)(aO:aq.ownsRow mb 9 1 lv' (σ.log.length+1) (σ.log.map Value.string++[Oj x])) :
  Mx w0 mb af O lv' aB aA aK (aq.setCell (N9 mb 2) lv') { σ with log:=σ.log++[x] }/\OV none mb w (aq.setCell (N9 mb 2) lv'):=by
 have dU:O8 [9] mb w aq:=O8.grown hg (OO h.lt) fun k E=>by
  have⟨c,ai⟩:=PW h.lg E;exact⟨(h.lg.lt k E).1,c,9,ai,by simp⟩
 have kW:=h.hh.keep dU Ol Ol Ol Ol Ol;have⟨lY,dQ⟩:=kW.cell 0 lv';have g0:O8 [9,84] mb w (aq.setCell (N9 mb 2) lv'):=(dU.mono Ol Pg).trans (dQ.mono Ol Pg);obtain⟨d9,h1,U,av⟩:=h.fu
 refine⟨⟨h.bw.trans g0.below,lY,?_,OH h.se g0 Ol,OH h.ow g0 Ol,d9,h1,OH U g0 Ol,fun i a f ay gg=>(av i a f ay gg).kp (fun b c e A ao=>g0.rest b c e A (by rcases ao with rfl|rfl <;> decide))⟩,⟨g0.below,fun b c e A ao _=>g0.rest b c e A (fun q=>ao (by rcases List.mem_cons.1 q with rfl|q;decide;rw[List.mem_singleton.1 q];decide))⟩⟩
 have bx:=OH aO dQ Ol
 show World.ownsRow _ _ _ _ _ (σ.log++[x]).length ((σ.log++[x]).map _)
 rw[List.length_append,List.map_append];exact bx
end
def av9:(prog.info? 54).map (fun i=>(i.zero,i.size,i.bytes))=some (some (.agg #[NY 0,NY 0]),2,16):=by kernel_rfl
def aoM (w:Og)(H:Nat)(fl:w.heap.size=H)(a b:Int)(j:Nat)(u:Ot)(h:([NY a,NY b]:List Ot)[j]? = some u) :
  (w.alloc (.cells #[NY a,NY b] 54)).cell? (((N9 H 0):Addr).add j)=some u:=by
 subst fl
 rcases j with _|_|j <;> simp at h
 all_goals subst h;simp[Addr.add]
def awc (a b:Int):∀ u ∈ ([NY a,NY b]:List Ot),u.oneCell'=true:=by
 intro u aQ;simp at aQ
 rcases aQ with rfl|rfl <;> rfl
def aoN (M:Mo)(nm:Ou):∀ (f:Nat) (i:Int),M.fnd nm f i = -1\/∃ k:Nat,M.fnd nm f i=k/\k<M.Ov.length
 | 0,_=>.inl rfl
 | f+1,i=>by
  rw[Mo.fnd]
  rcases PK M i with ⟨h0,_⟩|⟨k,x,rfl,ac,h1⟩
  ·rw[h0];exact .inl rfl
  ·rw[h1]
   show (if M.has k nm=true then (k:Int) else M.fnd nm f x.outer) = -1\/_
   split
   ·right;refine⟨k,?_,(List.getElem?_eq_some_iff.1 ac).1⟩;simp[*]
   ·rename_i hh
    simp only[];exact aoN M nm f x.outer
def asw (M:Mo)(i:Int)(nm:Ou):M.find i nm = -1\/∃ k:Nat,M.find i nm=k/\k<M.Ov.length:=aoN _ _ _ _
section
open Go.RowKit Go.Extern.Stop Go.Stop Go.Extern
def ano {w:Og}{T:Nat}{n v0:Ot}(bH iY:Obj)(dZ:w.cell? (N9 T 0)=some v0)(lU:T<w.heap.size) :
  (((w.setCell (N9 T 0) n).alloc bH).alloc iY).cell? (N9 T 0)=some n/\Below T w (((w.setCell (N9 T 0) n).alloc bH).alloc iY):=by
 have tV:Below T w (w.setCell (N9 T 0) n):=QI.setCell (p:=(N9 T 0)) Pg _;have aH:=tV.size;have h0:(w.setCell (N9 T 0) n).cell? (N9 T 0)=some n:=World.cell?_setCell_same _ _ _ dZ;have h1:((w.setCell (N9 T 0) n).alloc bH).cell? (N9 T 0)=some n:=by rw[World.cell?_alloc_past _ _ _ Oe];exact h0
 have b8:((w.setCell (N9 T 0) n).alloc bH).heap.size=(w.setCell (N9 T 0) n).heap.size+1:=World.size_alloc _ _;refine⟨by rw[World.cell?_alloc_past _ _ _ Oe];exact h1,(tV.alloc Oe _).alloc Oe _⟩
def as_hit (n:Int)(T a:Nat)(w:Og)(dZ:w.cell? (N9 T 0)=some (NY 0))(ah:w.frozen? (N9 T 0)=false)(ay:w.cell? (N9 a 0)=some (Oy T 0))(lU:T<w.heap.size)(oM:a<w.heap.size) :
  Oq 65 #[.iface 34 (NY n),.iface 86 (Oy T 0),.agg #[Oy 13 86,Oy a 0,.int .u64 150],.iface 215 (.agg #[Oy 13 34])] w fun e w'=>
   e=OA (Om true)/\w'.cell? (N9 T 0)=some (NY n)/\Below T w w':=by
 have z:=N8 (∀{G}(h:G:=by
 have BH:=R9.afU;have Hb:=R9.aaM;have KA:=R9.alm;have cZ:=R9.arl (N9 a 0) (N9 T 0) (w.alloc (.cells #[Oy 13 86,Oy a 0,.int .u64 150] 130)) (by rw[World.cell?_alloc_past _ _ _ oM];exact ay)
 have st:=R9.aza (N9 T 0) (N9 (w.heap.size+1) 0) n (NY 0) ((w.alloc (.cells #[Oy 13 86,Oy a 0,.int .u64 150] 130)).alloc (.cells #[NY n] 34))
  (by rw[World.cell?_alloc_at _ _ _ _ OW];rfl) (by rw[World.cell?_alloc_past _ _ _ QY,World.cell?_alloc_past _ _ _ lU];exact dZ) (by rw[World.frozen?_alloc_old _ _ _ QY,World.frozen?_alloc_old _ _ _ QY];exact ah)
 have z:=N8 (∀{G}(h:G:=by
 exact⟨rfl,ano _ _ dZ lU⟩),G);exact arn),G);exact aro
def avg (n:Int)(T:Nat)(w:Og)(dZ:w.cell? (N9 T 0)=some (NY 0))(ah:w.frozen? (N9 T 0)=false)(lU:T<w.heap.size)(hg:w.cell? (N9 0 0)=some (.iface 215 (.agg #[Oy 13 31]))) :
  Oq 32 #[.iface 34 (NY n),.iface 86 (Oy T 0)] w fun e w'=>e=OA (Om true)/\w'.cell? (N9 T 0)=some (NY n)/\Below T w w':=by
 have bL:=N8 (∀{G}(h:G:=by
 have KB:=R9.aln;have Kv:=R9.avh;have JR:=R9.avi;have kA:=R9.avj;have Hz:=R9.avk;have JJ:=R9.aea;have dC:0<w.heap.size:=azb
 have⟨gF,iR⟩:=xE ((w.alloc (.cells #[Oy T 0] 86)).alloc (.cells #[Oy 13 86,Oy w.heap.size 0,.int .u64 150] 130));have lX:((w.alloc (.cells #[Oy T 0] 86)).alloc (.cells #[Oy 13 86,Oy w.heap.size 0,.int .u64 150] 130)).cell? (N9 0 0)=some (.iface 215 (.agg #[Oy 13 31])):=azc
 have ay:gF.cell? (N9 w.heap.size 0)=some (Oy T 0):=azd
 have rp:gF.cell? (N9 T 0)=some (NY 0):=by rw[iR,World.cell?_alloc_past _ _ _ QY,World.cell?_alloc_past _ _ _ lU];exact dZ
 have bL:=N8 (∀{G}(h:G:=by
 have rR:=R9.arp (N9 w.heap.size 0) (N9 T 0) gF ay;rw[iR] at rR;have aj:Hid _:=as_hit n T w.heap.size gF rp qo ay Oe Oe;rw[iR] at aj kk;clear b8 qo rp ay iR gF;exact aze),G);exact zty),G);exact ztb
def arq (n:Int)(T a:Nat)(w:Og)(_:w.cell? (N9 T 0)=some QS)(_:w.frozen? (N9 T 0)=false)(_:w.cell? (N9 a 0)=some (Oy T 0))(_:T<w.heap.size)(_:a<w.heap.size) :
  Oq 65 #[.iface 34 (NY n),.iface 123 (Oy T 0),.agg #[Oy 13 123,Oy a 0,.int .u64 150],.iface 215 (.agg #[Oy 13 122])] w fun e w'=>
   e=OA (Om false)/\Oo w w':=by
 have z:=N8 (∀{G}(h:G:=by
 have BH:=R9.afU;have Hc:=R9.ZT;have n220:∀ (v:Ot) (io:TypeId) (w:Og),(Instr.typeAssert (.iface 34 v) io 220 true).run prog w=.ok (.tuple #[Qd,Om false]) w:=fun v io w=>run_typeAssert_lacksB underlying220 Pe Pe v io w;have n223:∀ (v:Ot) (io:TypeId) (w:Og),(Instr.typeAssert (.iface 34 v) io 223 true).run prog w=.ok (.tuple #[Qd,Om false]) w:=fun v io w=>run_typeAssert_lacksB underlying223 Pe Pe v io w
 have n224:∀ (v:Ot) (io:TypeId) (w:Og),(Instr.typeAssert (.iface 34 v) io 224 true).run prog w=.ok (.tuple #[Qd,Om false]) w:=fun v io w=>run_typeAssert_lacksB underlying224 Pe Pe v io w;have z:=N8 (∀{G}(h:G:=by
 exact⟨rfl,PE⟩),G);exact arn),G);exact aro
def ars (n:Int)(T:Nat)(w:Og)(dZ:w.cell? (N9 T 0)=some QS)(ah:w.frozen? (N9 T 0)=false)(lU:T<w.heap.size)(hg:w.cell? (N9 0 0)=some (.iface 215 (.agg #[Oy 13 31]))) :
  Oq 32 #[.iface 34 (NY n),.iface 123 (Oy T 0)] w fun e w'=>e=OA (Om false)/\Oo w w':=by
 have z:=N8 (∀{G}(h:G:=by
 have z:=N8 (∀{G}(h:G:=by
 have aj:Hid _:=arq n T w.heap.size gF rp qo ay Oe Oe;exact azf),G);exact avl),G);exact zsv
def anp (bc:Addr)(T a:Nat)(w:Og)(_:w.cell? (N9 T 0)=some QS)(_:w.frozen? (N9 T 0)=false)(_:w.cell? (N9 a 0)=some (Oy T 0))(_:T<w.heap.size)(_:a<w.heap.size) :
  Oq 65 #[.iface 359 (.pointer (some bc)),.iface 123 (Oy T 0),.agg #[Oy 13 123,Oy a 0,.int .u64 150],.iface 215 (.agg #[Oy 13 122])] w fun e w'=>
   e=OA (Om false)/\Oo w w':=by
 have z:=N8 (∀{G}(h:G:=by
 have BH:=R9.alo;have Hc:=R9.Zh;have n220:∀ (v:Ot) (io:TypeId) (w:Og),(Instr.typeAssert (.iface 359 v) io 220 true).run prog w=.ok (.tuple #[Qd,Om false]) w:=fun v io w=>run_typeAssert_lacksB underlying220 Pe Pe v io w;have n223:∀ (v:Ot) (io:TypeId) (w:Og),(Instr.typeAssert (.iface 359 v) io 223 true).run prog w=.ok (.tuple #[Qd,Om false]) w:=fun v io w=>run_typeAssert_lacksB underlying223 Pe Pe v io w
 have n224:∀ (v:Ot) (io:TypeId) (w:Og),(Instr.typeAssert (.iface 359 v) io 224 true).run prog w=.ok (.tuple #[Qd,Om false]) w:=fun v io w=>run_typeAssert_lacksB underlying224 Pe Pe v io w;have z:=N8 (∀{G}(h:G:=by
 exact⟨rfl,PE⟩),G);exact arn),G);exact aro
def afV (bc:Addr)(T:Nat)(w:Og)(dZ:w.cell? (N9 T 0)=some QS)(ah:w.frozen? (N9 T 0)=false)(lU:T<w.heap.size)(hg:w.cell? (N9 0 0)=some (.iface 215 (.agg #[Oy 13 31]))) :
  Oq 32 #[.iface 359 (.pointer (some bc)),.iface 123 (Oy T 0)] w fun e w'=>e=OA (Om false)/\Oo w w':=by
 have z:=N8 (∀{G}(h:G:=by
 have z:=N8 (∀{G}(h:G:=by
 have aj:Hid _:=anp bc T w.heap.size gF rp qo ay Oe Oe;exact azf),G);exact avl),G);exact zsv
def anq (T:Nat)(w:Og)(P:TypeId):Oq 32 #[Qd,.iface P (Oy T 0)] w fun e w'=>e=OA (Om false)/\w'=w:=by
 go_enter func32,ntmps32;go_wp2;go_ret;exact⟨rfl,rfl⟩
abbrev Rj (w:Og):Prop:=w.cell? (N9 0 0)=some (.iface 215 (.agg #[Oy 13 31]))
def YG {w:Og}(h:Rj w):0<w.heap.size:=by
 rcases Nat.lt_or_ge 0 w.heap.size with fb|fb
 ·exact fb
 ·simp[Rj,World.cell?,Array.getElem?_eq_none fb] at h
def Vd {w w':Og}{B:Nat}(h:Rj w)(A:Below B w w')(a1:0<B):Rj w':=by
 unfold Rj;rw[A.cell (p:=(N9 0 0)) a1];exact h
def anr (n:Int)(w:Og)(hg:Rj w) :
  Oq 12 #[.iface 34 (NY n)] w fun e w'=>e=OA (NY n)/\Oo w w':=by
 have dC:=YG hg;have⟨gF,iR⟩:=xE (w.alloc (.cells #[NY 0] 34));have dZ:gF.cell? (N9 w.heap.size 0)=some (NY 0):=by rw[iR,World.cell?_alloc_at _ _ _ _ rfl];rfl
 have ah:gF.frozen? (N9 w.heap.size 0)=false:=by rw[iR];exact World.frozen?_alloc_at _ _ _ _ rfl
 have b8:gF.heap.size=w.heap.size+1:=by rw[iR];simp
 have kk:Oo w gF:=by rw[iR];exact PE
 have jg:Rj gF:=Vd hg kk dC;have aj:Hid _:=avg n w.heap.size gF dZ ah Oe jg;rw[iR] at aj kk;clear jg b8 ah dZ iR gF dC;go_enter func12,ntmps12;go_wp2_with fail;refine cm aj.out ?_;rintro e w2 ⟨rfl,eI,aE⟩;go_wp2;go_ret;exact⟨rfl,kk.trans aE⟩
def ant (w:Og):Oq 12 #[Qd] w fun e w'=>e=OA (NY 0)/\Oo w w':=by
 go_enter func12,ntmps12;go_wp2;go_ret;exact⟨rfl,QI⟩
def VR (c:Int)(w:Og)(hg:Rj w):Oq 12 #[TT c] w fun e w'=>e=OA (NY c)/\Oo w w':=by
 by_cases h:c=0
 ·subst h;exact ant w
 ·rw[aeb h];exact anr c w hg
