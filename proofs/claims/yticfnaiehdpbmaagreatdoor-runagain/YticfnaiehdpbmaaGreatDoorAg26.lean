import Derived.Test.YticfnaiehdpbmaaGreatDoorAg24
set_option maxRecDepth 100000
set_option maxHeartbeats 8000000
set_option linter.unusedVariables false
namespace Go.Proofs.YticfnaiehdpbmaaGreatDoor
open Go.RowKit Go.Proofs.Tryz
namespace Hp
abbrev aP (e:Ad):NP:=Nu e.p
def QT (B:Nat)(w:Ny)(v:NP)(es:List Ad):Prop:=w.ownsRow B 22 1 v es.length (es.map aP)/\Qd (fun _=>True) w es
theorem Qd.of {I:Nat->Prop}{w:Ny}:∀ (es:List Ad),(∀ a ∈ es,QD I w a)->Qd I w es
 | [],_=>by rw[Qd];trivial
 | x::es,h=>by rw[Qd];exact⟨h x Oq,Qd.of es fun a aw=>h a (by simp[aw])⟩
section
variable {B:Nat} {w w':Ny} {v:NP} {es:List Ad} (h:QT B w v es)
include B w w' v es h
theorem QT.kp (E:Kp w w'):QT B w' v es:=⟨row_of h.1 fun _ _ _ hg=>E _ _ _ hg (Or.inr rfl),Qd.kp E _ h.2⟩
theorem QT.later (D:NJ w w'):QT B w' v es:=h.kp (Kp.of D)
end
section
variable {B:Nat} {w:Ny} {v:NP} {es:List Ad} (h:QT B w v es)
include B w v es h
theorem QT.form:∃ a cap,v=.slice a es.length cap:=N8 h.1
theorem QT.cell (k:Nat)(E:k<es.length):∃ g cap,v=.slice (some (Nv g 0)) es.length cap/\g<w.heap.size/\w.cell? (Nv g k)=some (Nu (es[k]).p)/\QD (fun _=>True) w es[k]:=by
 obtain⟨g,cap,rfl,_,_⟩:=h.1.form Nw;refine⟨g,cap,rfl,(h.1.lt g rfl).2,?_,Qd.mem es h.2 _ (List.getElem_mem _)⟩;rw[h.1.cellAt k Nw];simp[E]
end
theorem QT.low {B B':Nat}{w:Ny}{v:NP}{es:List Ad}(h:QT B w v es)(aZ:B'<=B):QT B' w v es:=⟨XZ h.1 aZ,h.2⟩
theorem QD.row {w:Ny}{a:Ad}(h:QD (fun _=>True) w a):∃ v,w.cell? (Nv a.p 3)=some v/\QT 0 w v a.ks/\a.p<w.heap.size:=by
 cases a with
 | mk p kd tx n ks=>
  rw[QD] at h;obtain⟨_,al,⟨v,D,U⟩,E⟩:=h;obtain⟨c0,c1,_,c3,_⟩:=node_cells D;refine⟨v,c3,⟨?_,E⟩,lt_of_heap D⟩;have h1:=U.1;rw[List.length_map,List.map_map] at h1;exact h1
theorem ajW (a:Ad)(w:Ny)(h:QD (fun _=>True) w a):NK 120 #[Nu a.p] w fun e w'=>(∃ u,e=NU u/\QT 0 w u a.ks)/\w'=w:=by
 obtain⟨u,c3,U,eY⟩:=QD.row h;obtain⟨cT,uc,rfl⟩:=U.form;obtain⟨p,al⟩:=xE a.p;rw[<-al] at c3 eY ⊢;clear h al;go_enter func120,ntmps120;go_wp2_with fail;go_ret;exact⟨⟨_,rfl,U⟩,rfl⟩
theorem XL (F:Nat)(f:Tr->Bool)(js:UE F)
  (ak:∀ t p W,SC W t p->NK F #[Nu p] W fun e w'=>e=NU (NI (f t))/\w'=W)
  (a:Ad) (w:Ny) (h:QD (fun _=>True) w a) (hl:a.ks.length<=90000) :
  NK 129 #[Nu a.p,fnV F] w fun e w'=>(∃ u,e=NU u/\QT w.heap.size w' u (a.ks.filter fun k=>f k.tr))/\NJ w w':=by
 obtain⟨i0,d2,dH,b6,cq⟩:=info_parts info22;have f2:=(ajW a w h);have hR:=hide ak;clear h ak
 generalize Bc:a.ks=am at f2 hl
 obtain⟨p,al⟩:=xE a.p;rw[<-al] at f2 ⊢;clear Bc al a;go_enter func129,ntmps129;go_wp2_with fail;refine cm f2 ?_;rintro e w1 ⟨⟨u,rfl,U⟩,rfl⟩;obtain⟨va,dv,rfl⟩:=U.form;go_wp2_with fail
 go_loopw [5,11] (fun o i wr=>∃ (k:Nat) (dR:List Ad),k<=am.length/\i=Nr k/\wr.ownsRow w1.heap.size 22 1 o dR.length (dR.map aP)/\dR=((am.take k).filter fun k=>f k.tr)/\NJ w1 wr) (fun _ i _=>am.length - (intOf i).toNat)
 case atStart=>exact⟨0,[],Nat.zero_le _,rfl,⟨rfl,Or.inl ⟨rfl,rfl⟩⟩,rfl,P8⟩
 case round=>
  obtain⟨k,dR,E,rfl,hown,fo,hbel⟩:=hrel;have dr:=hown;have fJ:=hide fo;obtain⟨aC,iK,rfl⟩:=Tt hown;have dL:dR.length<=k:=by
   rw[fo];have:=List.length_filter_le (fun k=>f k.tr) (am.take k);rw[List.length_take] at this;omega
  clear fo
  by_cases aQ:k<am.length
  ·obtain⟨g,cap,ap,hg,ge,rn⟩:=U.cell k aQ;simp only[Value.slice.injEq] at ap;obtain⟨rfl,_,rfl⟩:=ap;obtain⟨q,bo⟩:=xH ((am[k]).p);rw[<-bo.out] at ge;have z:=kk (∀{G}(h:G:=by
   have ah:=(Ns hR am[k].tr q wr (by rw[bo.out];exact rn.nat.nt.later hbel))
   have iy:=hide (List.take_succ_eq_append_getElem aQ);have db:g<wr.heap.size:=Nw;have rX:=hide (O9 dr);clear ge
   cases hh:f am[k].tr with
   | true=>
    have z:=kk (∀{G}(h:G:=by
    go_roundw
    case rel=>
     refine⟨k+1,dR++[am[k]],by omega,by go_num,?_,?_,ef⟩
     ·rw[List.length_append,List.map_append];have h:=hown';rw[bo.out] at h;exact h
     ·rw[iy.out,List.filter_append,<-fJ.out];simp only[List.filter_cons,iw.out,List.filter_nil,if_true]
    case measure=>simp[intOf];omega),G);exact axF
   | false=>
    rw[hh] at ah;have iw:=hide hh;clear hh;have z:=kk (∀{G}(h:G:=by
    go_roundw
    case rel=>
     refine⟨k+1,dR,by omega,by go_num,dr,?_,hbel⟩;rw[iy.out,List.filter_append,<-fJ.out];simp only[List.filter_cons,iw.out,List.filter_nil,Bool.false_eq_true,if_false,List.append_nil]
    case measure=>simp[intOf];omega),G);exact adf),G);exact axG
  ·have cM:k=am.length:=Nw;subst cM;go_wp2_with fail;go_ret;have h:=Ns fJ;rw[List.take_length] at h;subst h;exact⟨⟨_,rfl,dr,Qd.of _ fun x ac=>QD.later (Below.stay hbel) _ (Qd.mem _ U.2 x (List.mem_filter.1 ac).1)⟩,hbel⟩
section
variable (a:Ad) (w:Ny) (h:QD (fun _=>True) w a) (hl:a.ks.length<=90000)
include a w h hl
theorem VY :
  NK 59 #[Nu a.p] w fun e w'=>(∃ u,e=NU u/\QT w.heap.size w' u (a.ks.filter fun k=>RN k.tr))/\NJ w w':=by
 have ah:=(XL 130 RN axH aaH a w h hl);clear h;go_enter func59,ntmps59;exact apn
theorem acv :
  NK 77 #[Nu a.p] w fun e w'=>(∃ u,e=NU u/\QT w.heap.size w' u (a.ks.filter fun k=>OI k.tr))/\NJ w w':=by
 have ah:=(XL 163 OI axI acu a w h hl);clear h;go_enter func77,ntmps77;exact apn
end
end Hp
end Go.Proofs.YticfnaiehdpbmaaGreatDoor
