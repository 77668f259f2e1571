import Derived.Test.YticfnaiehdpbmaaGreatDoorOn2
import Derived.Laws.Rows
import Derived.ProofKit
import Derived.OpenShut
import Derived.Stop.Joined
import Derived.RegionTactic
import Derived.Deep.RegionHeld
import Derived.Laws.IdiomStrings
import Derived.Laws.BytesArg
set_option maxRecDepth 100000
set_option maxHeartbeats 8000000
set_option linter.all false
namespace Go.Proofs.YticfnaiehdpbmaaGreatDoor
open Go.RowKit Go.Proofs.Tryz
def isIn (aY:List OH)(s:OH):Bool:=aY.any (fun x=>x.toList==s.toList)
section
variable (aY:List OH) (s:OH) (k:Nat) (h:k<aY.length)
include aY s k h
theorem ac3 (h0:isIn (aY.take k) s=false)(h1:(aY[k].toList==s.toList)=false):isIn (aY.take (k+1)) s=false:=by
 unfold isIn at *;rw[List.take_succ_eq_append_getElem h,List.any_append,h0];simpa using h1
theorem aqW (h1:(aY[k].toList==s.toList)=true):isIn aY s=true:=by
 unfold isIn;exact List.any_eq_true.2 ⟨aY[k],List.getElem_mem h,h1⟩
end
def avl (cs:Array OG)(k:Nat)(E:k<19)(x:OH)(ae:cs[k]? = some (OB x))(w:Ov) :
  (Instr.index 272 (.agg cs) (Ol (k:Int))).run prog w=.ok (OB x) w:=by
 simp[Instr.index,run_underlying underlying272,asIntOf,go_sem,E,ae]
def acN (aY:List OH)(s:OH)(w:Ov)(az:aY.length=19)(t:TypeId)(fr:Nat × Nat)
  (hg:w.heap[6]? = some (.cells (aY.map Value.string).toArray t fr)) :
  OE 214 #[OB s] w fun e w'=>e=OQ (OC (isIn aY s))/\w'=w:=by
 obtain⟨cs,si⟩:=xH ((aY.map Value.string).toArray);rw[<-si.out] at hg;have dd:cs.size=19:=by rw[si.out];simpa using az
 have oT:∀ k:Nat,k<19->∀ W,(Instr.index 272 (.agg cs) (Ol (k:Int))).run prog W=.ok (OB (aY.getD k ByteArray.empty)) W:=fun k E W=>
  avl cs k E _ (by rw[si.out];simp[az,E]) W
 have r1:=hide oT;have sl:=hide dd;have sk:=hide hg;clear oT dd hg;go_enter func214,ntmps214
 go_wp2_with (refine wpList_load_row rfl 272 _ rfl 6 rfl t cs fr _ sk.out underlying272 rfl (by rw[sl.out];kernel_rfl) ?_)
 go_loop [4,6] (fun _ i=>∃ k:Nat,k<=19/\i=Ol k/\isIn (aY.take k) s=false) (fun _ i=>19 - (intOf i).toNat)
 case atStart=>exact⟨0,Nat.zero_le _,rfl,rfl⟩
 case round=>
  obtain⟨k,E,rfl,aq⟩:=hrel;have dH:=hide aq;clear aq
  by_cases aQ:k<19
  ·have ej:=Om r1 k aQ
   go_wp2
   ·go_ret;exact⟨Uu (aqW aY s k Ou (by rw[BEq.comm];assumption)).symm,rfl⟩
   ·exact⟨⟨k+1,by omega,by go_num,ac3 aY s k Ou dH.out (by rw[BEq.comm];assumption)⟩,by simp[intOf];omega⟩
  ·go_wp2
   go_ret;exact⟨Uu (by have:=Om dH;rw[List.take_of_length_le Ou] at this;exact this.symm),rfl⟩
section
open Go.ChangeShapes Go.WideShapes Go.ChangeAt Go.WideMaps Go.WideElems Go.RowKit
def ofBytes (l:List UInt8):OH:=⟨l.toArray⟩
def apV:List (List UInt8):=[[118,97,114],[108,101,116],[99,111,110,115,116],[102,117,110,99,116,105,111,110],[105,102],[101,108,115,101],[119,104,105,108,101],[119,105,116,104],[114,101,116,117,114,110],[116,104,114,111,119],[116,114,121],[99,97,116,99,104],[102,105,110,97,108,108,121],[116,121,112,101,111,102],[100,101,108,101,116,101],[116,114,117,101],[102,97,108,115,101],[110,117,108,108],[117,110,100,101,102,105,110,101,100]]
def Pn:List OH:=apV.map ofBytes
def apW:List (List UInt8):=[[61,61,61],[38,38],[124,124],[40],[41],[123],[125],[91],[93],[59],[58],[44],[46],[61],[43],[45],[42],[60],[33]]
def Ph:List OH:=apW.map ofBytes
def ajz:Pn.length=19:=rfl
def ajA:Ph.length=19:=rfl
def acG {s:OH}{l:List UInt8}(h:s.data.toList=l):s=ofBytes l:=bytes_inj (by rw[h];rfl)
def at_eq (s:OH)(i:Nat)(h:i<s.size):s.data.toList.getD i 0=s[i]:=by
 have aw:i<s.data.toList.length:=by (have aL:s.data.toList.length=s.size:=by simp);omega
 rw[List.getD_eq_getElem?_getD,List.getElem?_eq_getElem aw];rfl
end
section
variable {P:Program} {bZ:Region.Mode} {bh:Array Oper} {Q:Exit->Act->Ov->Prop} {S:Ov->Prop} {fuel:Nat} {listed:Array Bool} {a:Act} {w:Ov}
def wt {dN:Oper}(i:Nat)(v:OG)
    (h:wpAny P bZ bh Q fuel (listed.setIfInBounds i true) (a.put dN.dst v) w) (am:bh[i]? = some dN:=by rfl)
    (ac:Region.noSelect bh=true:=by kernel_rfl) (aH:Region.free bZ bh listed i=true:=by kernel_rfl) (aa:(Region.ready bZ bh listed).contains i=true:=by kernel_rfl)
    (hO:∀ c a w,Q (.panic c) (a.put dN.dst v) w->Q (.panic c) a w:=by exact fun _ _ _ h=>h) (hy:Yields P bh dN v a:=by exact Or.inl ⟨by kernel_rfl,fun w=>by go_simp⟩):wpAny P bZ bh Q (fuel+1) listed a w:=
  wpAny_take am ac aH aa hO hy h
def wg {dN:Oper}(i:Nat)(v:OG)(am:bh[i]? = some dN)(hy:YieldsIf P bh S dN v a)(eC:S w)
    (h:wpAnyH P bZ bh Q S fuel (listed.setIfInBounds i true) (a.put dN.dst v) w)
    (ac:Region.noSelect bh=true:=by kernel_rfl) (aH:Region.free bZ bh listed i=true:=by kernel_rfl) (aa:(Region.ready bZ bh listed).contains i=true:=by kernel_rfl)
    (hO:∀ c a w,Q (.panic c) (a.put dN.dst v) w->Q (.panic c) a w:=by exact fun _ _ _ h=>h):wpAnyH P bZ bh Q S (fuel+1) listed a w:=
  wpAnyH_take am ac aH aa hO hy eC h
def wh {dN:Oper}(i:Nat)(v:OG)(eC:S w)
    (h:wpAnyH P bZ bh Q S fuel (listed.setIfInBounds i true) (a.put dN.dst v) w) (am:bh[i]? = some dN:=by rfl)
    (ac:Region.noSelect bh=true:=by kernel_rfl) (aH:Region.free bZ bh listed i=true:=by kernel_rfl) (aa:(Region.ready bZ bh listed).contains i=true:=by kernel_rfl)
    (hO:∀ c a w,Q (.panic c) (a.put dN.dst v) w->Q (.panic c) a w:=by exact fun _ _ _ h=>h) (hy:YieldsIf P bh S dN v a:=by exact Or.inl ⟨by kernel_rfl,fun _ _=>by go_simp⟩):wpAnyH P bZ bh Q S (fuel+1) listed a w:=
  wpAnyH_take am ac aH aa hO hy eC h
def QV {o:Oper}(i:Nat)
    (h:∀ hF:Act->Ov->Prop,(∀ a w,wpAny P bZ bh Q fuel (listed.setIfInBounds i true) a w->hF a w)->if Region.wanted o (yielded bh a.tmps)=true then Oper.wp P o a w hF Q else hF (a.put o.dst undef) w)
    (aR:bh[i]? = some o:=by rfl) (aa:Region.ready bZ bh listed=[i]:=by kernel_rfl):wpAny P bZ bh Q (fuel+1) listed a w:=
  wpAny_ready aa O8 (AllReady.cons aR h AllReady.nil)
def wr2 {o gU:Oper}(i j:Nat)
    (h:∀ hF:Act->Ov->Prop,(∀ a w,wpAny P bZ bh Q fuel (listed.setIfInBounds i true) a w->hF a w)->if Region.wanted o (yielded bh a.tmps)=true then Oper.wp P o a w hF Q else hF (a.put o.dst undef) w)
    (fq:∀ hF:Act->Ov->Prop,(∀ a w,wpAny P bZ bh Q fuel (listed.setIfInBounds j true) a w->hF a w)->if Region.wanted gU (yielded bh a.tmps)=true then Oper.wp P gU a w hF Q else hF (a.put gU.dst undef) w)
    (aR:bh[i]? = some o:=by rfl) (A6:bh[j]? = some gU:=by rfl) (aa:Region.ready bZ bh listed=[i,j]:=by kernel_rfl):wpAny P bZ bh Q (fuel+1) listed a w:=
  wpAny_ready aa O8 (AllReady.cons aR h (AllReady.cons A6 fq AllReady.nil))
def XY {o:Oper}(i:Nat)
    (h:∀ hF:Act->Ov->Prop,Shut (∀ a w,S w->(S w->wpAnyH P bZ bh Q S fuel (listed.setIfInBounds i true) a w)->hF a w)->if Region.wanted o (yielded bh a.tmps)=true then Oper.wp P o a w hF Q else hF (a.put o.dst undef) w)
    (aR:bh[i]? = some o:=by rfl) (aa:Region.ready bZ bh listed=[i]:=by kernel_rfl):wpAnyH P bZ bh Q S (fuel+1) listed a w:=
  wpAnyH_ready aa O8 (AllReadyH.cons aR h AllReadyH.nil)
def acC {H G:Ov->Nat->Prop}{goal:Prop}(h1:(∀ aE cA,H aE cA->G aE cA)->goal)(U:∀ aE cA,H aE cA->G aE cA):goal:=h1 U
def UL {listed':Array Bool}{mi:Act}(h1:listed=listed')(U:a=mi)(h:wpAny P bZ bh Q fuel listed' mi w):wpAny P bZ bh Q fuel listed a w:=by
  subst h1 U;exact h
def tf (n m:Nat):Array Bool:=Array.replicate n true++Array.replicate m false
def wz {mi:Act}(n m:Nat)(h:wpAny P bZ bh Q fuel (tf n m) mi w)(h1:listed=tf n m:=by kernel_rfl)(U:a=mi:=by kernel_rfl):wpAny P bZ bh Q fuel listed a w:=UL h1 U h
def cm {f:FuncId}{args:Array OG}{R R':Ending->Ov->Prop}(h:Calls P f args w R)(U:∀ e w',R e w'->R' e w'):Calls P f args w R':=h.mono U
def ZV {W w1:Ov}(D:OD W w1):(∀ b o,b<W.heap.size->w1.cell? (Ot b o)=W.cell? (Ot b o))/\(∀ b o,b<W.heap.size->w1.frozen? (Ot b o)=W.frozen? (Ot b o)):=
 ⟨fun b o h=>D.cell (p:=(Ot b o)) h,fun b o h=>D.frozen (p:=(Ot b o)) h⟩
inductive Rd where
 | tok (kd:Int) (tx:OH) (n:Int) (e:Nat)
 | bad (er:Int) (p:Nat)
abbrev YW:OG:=.agg #[Ol 0,PN,Ol 0,Ol 0]
def Uy (k:Nat)(r:Rd)(w:Ov)(e:Ending)(w':Ov):Prop:=
 match r with
 | .tok kd tx n g0=>e=OQ (.tuple #[.agg #[Ol kd,OB tx,Ol n,Ol (k:Int)],Ol (g0:Int),.nilIface])/\OD w w'
 | .bad er p=>∃ b,e=OQ (.tuple #[YW,Ol 0,.iface 150 (OM b 0)])/\w'.heap[b]? = some (O1 #[Ol er,Ol (p:Int)] 152)/\w.heap.size<=b/\OD w w'
def abr {w w1:Ov}{b:Nat}{o X:Obj}(hbel:Below (w.alloc o).heap.size (w.alloc o) w1)(h9:(w.alloc o).heap.size<=b)(D:w1.heap[b]? = some X)(v0 v1 v2 v3:OG) :
  ((((w1.setCell (Ot w.heap.size 0) v0).setCell (Ot w.heap.size 1) v1).setCell (Ot w.heap.size 2) v2).setCell (Ot w.heap.size 3) v3).heap[b]? = some X/\w.heap.size<=b /\
   OD w ((((w1.setCell (Ot w.heap.size 0) v0).setCell (Ot w.heap.size 1) v1).setCell (Ot w.heap.size 2) v2).setCell (Ot w.heap.size 3) v3):=by
 have aI:(w.alloc o).heap.size=w.heap.size+1:=by simp
 have cl:b≠w.heap.size:=Ou;have tL:OD w (w.alloc o):=PO;have dq:OD w w1:=tL.trans (hbel.mono Ou);refine⟨?_,by omega,(((dq.setCell O6 _).setCell O6 _).setCell O6 _).setCell O6 _⟩;rw[Below.heap_setCell _ _ _ _ cl,Below.heap_setCell _ _ _ _ cl,Below.heap_setCell _ _ _ _ cl,Below.heap_setCell _ _ _ _ cl];exact D
def acL (er p:Int)(w:Ov):OE 215 #[Ol er,Ol p] w fun e w'=>
  ∃ b,e=OQ (.tuple #[YW,Ol 0,.iface 150 (OM b 0)])/\w'.heap[b]? = some (O1 #[Ol er,Ol p] 152)/\w.heap.size<=b/\OD w w':=by
 go_enter func215,ntmps215
 go_wp2
 refine UU (v:=.tuple #[YW,Ol 0,.iface 150 (OM (w.heap.size+1) 0)]) ⟨_,rfl,?_,by omega,PO.alloc O8 _⟩;simpa using heap_alloc_new (w.alloc (.cells #[Ol 0,PN,Ol 0,Ol 0] 144)) (.cells #[Ol er,Ol p] 152)
def YJ (x p:OH):Bool:=decide (p.size<=x.size)&&((x.extract 0 p.size).toList==p.toList)
def adq (x p:OH)(w:Ov)(_hx:x.size<=maxLen)(Hw:p.size<=maxLen) :
  OE 218 #[OB x,OB p] w fun e w'=>e=OQ (OC (YJ x p))/\w'=w:=by
 unfold maxLen at _hx Hw
 by_cases h:p.size<=x.size
 all_goals
  go_enter func218,ntmps218
  go_wp2
  go_ret;exact⟨Uu (by simp[YJ,h]),rfl⟩
def Uk (bb:List OH)(s:OH)(k:Nat):Rd:=
 match bb.find? (fun g=>YJ (s.extract k s.size) g) with
 | some g=>.tok 5 g 0 (k+g.size)
 | none=>.bad 3 k
section
variable {bb:List OH} {f:OH->Bool}
include bb f
def aqJ {i:Nat}(am:i<bb.length)(h0:∀ j,(aN:j<i)->f (bb[j]'Ou)=false)(h:f bb[i]=true):bb.find? f=some bb[i]:=by
 rw[List.find?_eq_some_iff_getElem];exact⟨h,i,am,rfl,fun j aN=>by rw[h0 j aN];rfl⟩
def aar (h0:∀ j,(aN:j<bb.length)->f bb[j]=false):bb.find? f=none:=by
 rw[List.find?_eq_none];intro x ae;obtain⟨j,aN,rfl⟩:=List.getElem_of_mem ae;rw[h0 j aN];simp
end
def extract_size (s:OH)(a b:Nat)(h1:a<=b)(U:b<=s.size):(s.extract a b).size=b - a:=by
 simp;omega
def afr (bb:List OH)(s:OH)(k:Nat)(w:Ov)(ac:s.size<=3000)(E:k<s.size)(az:bb.length=19)(dd:∀ i,i<19->(bb.getD i ByteArray.empty).size<=3)(t:TypeId)(fr:Nat × Nat)
  (hg:w.heap[2]? = some (.cells (bb.map Value.string).toArray t fr)) :
  OE 145 #[OB s,Ol (k:Int)] w (Uy k (Uk bb s k) w):=by
 obtain⟨cs,si⟩:=xH ((bb.map Value.string).toArray);rw[<-si.out] at hg;have hsz1:cs.size=19:=by rw[si.out];simpa using az
 have oT:∀ k:Nat,k<19->∀ W,(Instr.index 272 (.agg cs) (Ol (k:Int))).run prog W=.ok (OB (bb.getD k ByteArray.empty)) W:=fun k E W=>
  avl cs k E _ (by rw[si.out];simp[az,E]) W
 have r1:=hide oT;have sl:=hide dd;have Hv:=hide hsz1;have vx:=hide az;have sk:Hid ((w.alloc (.cells #[Ol 0,PN,Ol 0,Ol 0] 144)).heap[2]? = some (.cells cs t fr)):=by
  have aQ:2<w.heap.size:=(Array.getElem?_eq_some_iff.1 hg).1
  show _=_
  rw[Below.heap_alloc w _ 2 aQ];exact hg
 clear oT dd hg az hsz1;go_enter func145,ntmps145
 go_wp2_with (refine wpList_load_row rfl 272 _ rfl 2 rfl t cs fr _ sk.out underlying272 rfl (by rw[Hv.out];kernel_rfl) ?_)
 go_loopw [8,10] (fun _ i wr=>∃ j:Nat,j<=19/\i=Ol j/\(∀ q,q<j->YJ (s.extract k s.size) (bb.getD q ByteArray.empty)=false)/\wr=w.alloc (.cells #[Ol 0,PN,Ol 0,Ol 0] 144)) (fun _ i _=>19 - (intOf i).toNat)
 case atStart=>exact⟨0,Nat.zero_le _,rfl,fun q ag=>absurd ag (Nat.not_lt_zero _),rfl⟩
 case round=>
  obtain⟨j,aN,rfl,aq,rfl⟩:=hrel;have dH:=hide aq;clear aq
  by_cases aQ:j<19
  ·have ej:=Om r1 j aQ;have rh:=Om sl j aQ;obtain⟨g,hg⟩:=xE (bb.getD j ByteArray.empty);rw[<-hg] at ej rh;have uX:=hide hg;clear hg
   cases al:YJ (s.extract k s.size) g
   ·have z:=Oq (∀{G}(h:G:=by
    go_roundw
    case rel=>exact⟨j+1,by omega,by go_num,fun q ag=>by (by_cases Bg:q=j);(rw[Bg,<-uX.out];exact HP.out);exact Om dH q Ou,by trivial⟩
    case measure=>simp[intOf];omega),G);exact aEP
   ·have z:=Oq (∀{G}(h:G:=by
    have aa:Uk bb s k=.tok 5 g 0 (k+g.size):=by
     unfold Uk;have D9:g=bb[j]'(by rw[vx.out];exact aQ):=by rw[uX.out,List.getD_eq_getElem?_getD,List.getElem?_eq_getElem (by rw[vx.out];exact aQ)];rfl
     rw[aqJ (i:=j) (by rw[vx.out];exact aQ) (fun q ag=>by
      have:=Om dH q ag;rw[List.getD_eq_getElem?_getD,List.getElem?_eq_getElem (by rw[vx.out];omega)] at this
      exact this) (by rw[<-D9];exact HP.out),<-D9]
    rw[aa];exact UU (v:=.tuple #[.agg #[Ol 5,OB g,Ol 0,Ol (k:Int)],Ol ((k:Int)+(g.size:Int)),Qp]) ⟨by simp,PO⟩),G);exact aEP
  ·go_wp2_with fail;refine(acL _ _ _).mono ?_;rintro e w1 ⟨b,rfl,D,h9,hbel⟩;obtain⟨aj,aH⟩:=ZV hbel;have bL:=hide D;clear D;go_wp2_with fail;have aa:Uk bb s k=.bad 3 k:=by
    unfold Uk;rw[aar (fun q ag=>by
     have:=Om dH q (by rw[vx.out] at ag;omega)
     rw[List.getD_eq_getElem?_getD,List.getElem?_eq_getElem ag] at this;exact this)]
   rw[aa];exact afk (v:=.tuple #[YW,Ol 0,.iface 150 (OM b 0)]) ⟨b,rfl,abr hbel h9 bL.out _ _ _ _⟩
end
def Us (p:Int->Bool)(s:OH)(k:Nat):k<=OT p s k:=by unfold OT;omega
def Yr {w w1:Ov}{o:Obj}(hbel:Below (w.alloc o).heap.size (w.alloc o) w1)(v0 v1 v2 v3:OG) :
   OD w ((((w1.setCell (Ot w.heap.size 0) v0).setCell (Ot w.heap.size 1) v1).setCell (Ot w.heap.size 2) v2).setCell (Ot w.heap.size 3) v3):=by
 have aI:(w.alloc o).heap.size=w.heap.size+1:=by simp
 have tL:OD w (w.alloc o):=PO;have dq:OD w w1:=tL.trans (hbel.mono Ou);exact(((dq.setCell O6 _).setCell O6 _).setCell O6 _).setCell O6 _
def TG (aY:List OH)(s:OH)(k:Nat):Rd:=
 if isIn aY (s.extract k (OT Vf s k))=true then .tok 2 (s.extract k (OT Vf s k)) 0 (OT Vf s k)
 else if 20<OT Vf s k - k then .bad 4 k
 else .tok 1 (s.extract k (OT Vf s k)) 0 (OT Vf s k)
abbrev O35:Obj:=.cells #[Ol 0,PN,Ol 0,Ol 0] 144
section
variable (aY:List OH) (s:OH) (k e:Nat) (w:Ov) (ac:s.size<=3000) (E:k<s.size) (aq:OT Vf s k=e) (kV:k<=e) (gJ:e<=s.size)
include aY s k e w ac E aq kV gJ
theorem adv (hw:isIn aY (s.extract k e)=true)(az:aY.length=19)(t:TypeId)(fr:Nat × Nat)(hg:w.heap[6]? = some (.cells (aY.map Value.string).toArray t fr)) :
  OE 141 #[OB s,Ol (k:Int)] w (Uy k (.tok 2 (s.extract k e) 0 e) w):=by
 have z:=Oq (∀{G}(h:G:=by
 exact afk (v:=.tuple #[.agg #[Ol 2,OB (s.extract k e),Ol 0,Ol (k:Int)],Ol (e:Int),Qp]) ⟨rfl,Yr hbel _ _ _ _⟩),G);exact aEo
theorem adw (hw:isIn aY (s.extract k e)=false)(ra:¬ 20<e - k)(az:aY.length=19)(t:TypeId)(fr:Nat × Nat)(hg:w.heap[6]? = some (.cells (aY.map Value.string).toArray t fr)) :
  OE 141 #[OB s,Ol (k:Int)] w (Uy k (.tok 1 (s.extract k e) 0 e) w):=by
 have z:=Oq (∀{G}(h:G:=by
 exact afk (v:=.tuple #[.agg #[Ol 1,OB (s.extract k e),Ol 0,Ol (k:Int)],Ol (e:Int),Qp]) ⟨rfl,Yr hbel _ _ _ _⟩),G);exact aEo
theorem adx (hw:isIn aY (s.extract k e)=false)(ra:20<e - k)(az:aY.length=19)(t:TypeId)(fr:Nat × Nat)(hg:w.heap[6]? = some (.cells (aY.map Value.string).toArray t fr)) :
  OE 141 #[OB s,Ol (k:Int)] w (Uy k (.bad 4 k) w):=by
 have bN:=Oq (∀{G}(h:G:=by
 have l4:=hbel;go_wp2_with fail;have hpast:=Yq s k x Vf w1 (by unfold maxLen;omega) Ou ae
 rw[dH.out] at hpast;refine hpast.mono ?_;rintro bz w2 ⟨rfl,rfl⟩;have pj:Hid (w2.heap[6]? = some (.cells (aY.map Value.string).toArray t fr)):=by
  show _=_
  rw[l4.block 6 Rh,Below.heap_alloc w _ 6 aQ];exact Om gZ
 go_wp2_with fail;refine(acN aY (s.extract k e) w2 dB.out t fr pj.out).mono ?_;rw[fB.out];rintro ez ap ⟨rfl,rfl⟩;exact axU),G);exact ztp
end
def afq (aY:List OH)(s:OH)(k:Nat)(w:Ov)(ac:s.size<=3000)(E:k<s.size)(az:aY.length=19)(t:TypeId)(fr:Nat × Nat)
  (hg:w.heap[6]? = some (.cells (aY.map Value.string).toArray t fr)) :
  OE 141 #[OB s,Ol (k:Int)] w (Uy k (TG aY s k) w):=by
 have kV:=Us Vf s k;have gJ:=QL Vf s k Ou
 cases hw:isIn aY (s.extract k (OT Vf s k))
 ·by_cases ra:20<OT Vf s k - k
  ·have aa:TG aY s k=.bad 4 k:=by unfold TG;rw[hw];simp[ra]
   rw[aa];exact adx aY s k _ w ac E rfl kV gJ hw ra az t fr hg
  ·have aa:TG aY s k=.tok 1 (s.extract k (OT Vf s k)) 0 (OT Vf s k):=by unfold TG;rw[hw];simp[ra]
   rw[aa];exact adw aY s k _ w ac E rfl kV gJ hw ra az t fr hg
 ·have aa:TG aY s k=.tok 2 (s.extract k (OT Vf s k)) 0 (OT Vf s k):=by unfold TG;rw[hw];simp
  rw[aa];exact adv aY s k _ w ac E rfl kV gJ hw az t fr hg
def Xw (l:List UInt8):Int:=l.foldl (fun n b=>n * 10+((b.toNat:Int) - 48)) 0
section
variable (l:List UInt8)
include l
def alg (b:UInt8):Xw (l++[b])=Xw l * 10+((b.toNat:Int) - 48):=by simp[Xw,List.foldl_append]
def anx:∀ (n:Int),0<=n->(∀ b ∈ l,Ql (b.toNat:Int)=true) ->
  0<=l.foldl (fun n b=>n * 10+((b.toNat:Int) - 48)) n/\l.foldl (fun n b=>n * 10+((b.toNat:Int) - 48)) n<(n+1) * 10 ^ l.length:=by
 induction l with
 | nil=>intro n h0 _;simp;omega
 | cons b l bn=>
  intro n h0 h;have D:=h b O8;simp[Ql,af2] at D;have h1:=bn (n * 10+((b.toNat:Int) - 48)) Ou (fun c aj=>h c (by simp[aj]));refine⟨h1.1,Int.lt_of_lt_of_le h1.2 ?_⟩;rw[List.length_cons,Int.pow_succ,Int.mul_comm ((10:Int) ^ l.length) 10,<-Int.mul_assoc];exact Int.mul_le_mul_of_nonneg_right Ou (Int.pow_nonneg Ou)
def Y1 (h:∀ b ∈ l,Ql (b.toNat:Int)=true):0<=Xw l/\Xw l<10 ^ l.length:=by
 have h1:=anx l 0 (Int.le_refl _) h;refine⟨h1.1,?_⟩;have U:=h1.2;rw[Int.zero_add,Int.one_mul] at U;exact U
end
def abx (x:OH)(hd:∀ i,(am:i<x.size)->Ql (x[i].toNat:Int)=true)(k:Nat):∀ b ∈ x.data.toList.take k,Ql (b.toNat:Int)=true:=by
 intro b D;obtain⟨i,am,rfl⟩:=List.getElem_of_mem D;have oR:i<x.data.toList.length:=by simp at am;simp;omega
 have ac:i<x.size:=by
  have aL:x.data.toList.length=x.size:=by simp
  omega
 rw[List.getElem_take];exact hd i ac
def take_snoc (s:OH)(k:Nat)(h:k<s.size):s.data.toList.take (k+1)=s.data.toList.take k++[s[k]]:=by
 rw[List.take_succ_eq_append_getElem (by simpa using h)];rfl
def aib (x:OH)(w:Ov):∃ cap gF,(convert 9 42 (OB x)).run prog w=.ok (.slice (some (Ot w.heap.size 0)) x.size cap) gF/\OD w gF /\
  ∀ i,(am:i<x.size)->gF.cell? (Ot w.heap.size i)=some (.int .u8 (x[i].toNat:Int)):=by
 refine⟨_,_,run_bytes_of_string w 9 42 5 x underlying9 underlying42 underlying5,(QX.drew.alloc O6 _),?_⟩;intro i am;have hh:=heap_alloc_new w.drew (.cells (bytesRow x (grownCap w x.size 0 5)) 5 ((bytesRow x (grownCap w x.size 0 5)).size,(bytesRow x (grownCap w x.size 0 5)).size+1))
 have AN:(w.drew.alloc (.cells (bytesRow x (grownCap w x.size 0 5)) 5 ((bytesRow x (grownCap w x.size 0 5)).size,(bytesRow x (grownCap w x.size 0 5)).size+1))).heap[w.heap.size]? = some (.cells (bytesRow x (grownCap w x.size 0 5)) 5 ((bytesRow x (grownCap w x.size 0 5)).size,(bytesRow x (grownCap w x.size 0 5)).size+1)):=hh;have jM:i<x.data.size:=am;simp only[World.cell?,AN];have aw:(bytesRow x (grownCap w x.size 0 5))[i]? = some (.int .u8 (x[i].toNat:Int)):=by
  unfold bytesRow;rw[Array.getElem?_append_left (by simpa using jM),Array.getElem?_map,Array.getElem?_eq_getElem jM];rfl
 simpa using aw
def anz {n:Nat}(h:n<=10):(10:Int) ^ n<=10000000000:=by
 have:∀ m:Fin 11,(10:Int) ^ m.val<=10000000000:=by decide
 exact this ⟨n,by omega⟩
def alh (x:OH)(w:Ov)(h1:1<=x.size)(U:x.size<=10)(hd:∀ i,(am:i<x.size)->Ql (x[i].toNat:Int)=true) :
  OE 275 #[OB x] w fun e w'=>e=OQ (.tuple #[Ol (Xw x.data.toList),Qp])/\OD w w':=by
 obtain⟨cap,gF,ci,hbel,hcell⟩:=aib x w;have h0:=hd 0 h1;simp[Ql,af2] at h0;obtain⟨Di,xL⟩:=h0;have LN:(((x[0].toNat:Nat):Int)==45)=false:=beq_eq_false_iff_ne.2 Ou;have LM:(((x[0].toNat:Nat):Int)==43)=false:=beq_eq_false_iff_ne.2 Ou;have uQ:=hide hcell;have d4:=hide hd;clear hcell hd;go_enter func275,ntmps275
 go_wp2
 go_loop [6,8,49] (fun n _ i=>∃ k:Nat,k<=x.size/\i=Ol k/\n=Ol (Xw (x.data.toList.take k))) (fun _ _ i=>x.size - (intOf i).toNat)
 case atStart=>exact⟨0,Nat.zero_le _,rfl,rfl⟩
 case round=>
  obtain⟨k,E,rfl,rfl⟩:=hrel
  by_cases aQ:k<x.size
  ·have ej:=Om uQ k aQ;have oP:=Om d4 k aQ;simp[Ql,af2] at oP;obtain⟨ax,D⟩:=oP;have e':=Y1 _ (abx x d4.out k);have hl:(x.data.toList.take k).length<=10:=by simp;omega
   have al:=anz hl;obtain⟨ru,gL⟩:=e';have kr:Xw (x.data.toList.take k)<10000000000:=Ou;have a':=hide (alg (x.data.toList.take k) x[k]);have eM:=hide (take_snoc x k aQ);obtain⟨N,dB⟩:=xH (Xw (x.data.toList.take k));rw[<-dB.out] at ru kr ⊢;clear gL al hl
   go_wp2
   exact⟨⟨k+1,by omega,by go_num,by rw[eM.out,a'.out,<-dB.out]⟩,by simp[intOf];omega⟩
  ·have eM:Hid (x.data.toList.take k=x.data.toList):=List.take_of_length_le Rh
   go_wp2
   go_ret2
   refine⟨?_,hbel⟩;rw[eM.out];rfl
def ap8 (x:OH)(w:Ov)(h1:1<=x.size)(U:x.size<=10)(hd:∀ i,(am:i<x.size)->Ql (x[i].toNat:Int)=true) :
  OE 216 #[OB x] w fun e w'=>e=OQ (.tuple #[Ol (Xw x.data.toList),Qp])/\OD w w':=by
 have d4:=hide hd;clear hd;go_enter func216,ntmps216;go_wp2_with fail;refine(alh x w h1 U d4.out).mono ?_;rintro e w1 ⟨rfl,D⟩;go_wp2
 go_ret2
 exact⟨rfl,D⟩
def ahp (x:OH):x.data.toList.length=x.size:=by simp
def afp (p:Int->Bool)(s:OH):∀ n k,n+k=s.size->∀ i,k<=i->i<OT p s k->(am:i<s.size)->p (s[i].toNat:Int)=true
 | 0,k,e,i,h1,U,am=>by omega
 | n+1,k,e,i,h1,U,am=>by
  cases E:p ((s[k]'Ou).toNat:Int)
  ·rw[acI p s k Ou E] at U;omega
  ·by_cases x6:i=k
   ·subst x6;exact E
   ·rw[<-Yp p s k Ou E] at U;exact afp p s n (k+1) Ou i Ou U am
def Zg (s:OH)(a b i:Nat)(h1:b<=s.size)(am:i<(s.extract a b).size):(s.extract a b)[i]=s[a+i]'(by simp at am;omega):=by
 simp[ByteArray.getElem_extract]
def rdNum (s:OH)(k:Nat):Rd:=
 if 10<OT Ql s k - k then .bad 3 k
 else if 1<OT Ql s k - k/\(((s.data.toList.getD k 0).toNat:Nat):Int)=48 then .bad 3 k
 else if 1000000000<Xw (s.extract k (OT Ql s k)).data.toList then .bad 2 k
 else .tok 3 ⟨#[]⟩ (Xw (s.extract k (OT Ql s k)).data.toList) (OT Ql s k)
section
variable (s:OH) (k e:Nat) (w:Ov) (ac:s.size<=3000) (E:k<s.size) (aq:OT Ql s k=e) (kV:k<e) (gJ:e<=s.size)
include s k e w ac E aq kV gJ
theorem afA (kR:10<e - k) :
  OE 143 #[OB s,Ol (k:Int)] w (Uy k (.bad 3 k) w):=aFc
theorem afB (hpos:0<(s.extract k e).size)(kR:¬ 10<e - k)(h1:1<e - k)(sy:(((s.extract k e)[0].toNat:Int)==48)=true) :
  OE 143 #[OB s,Ol (k:Int)] w (Uy k (.bad 3 k) w):=aFc
theorem ahO (hpos:0<(s.extract k e).size)(n:Int)(az:Xw (s.extract k e).data.toList=n)(kR:¬ 10<e - k)(h1:1<e - k)(sy:(((s.extract k e)[0].toNat:Int)==48)=false)(D:1000000000<n) :
  OE 143 #[OB s,Ol (k:Int)] w (Uy k (.bad 2 k) w):=by
 have z:=Oq (∀{G}(h:G:=by
 clear hds dd;exact axU),G);exact aDB
theorem afC (hpos:0<(s.extract k e).size)(n:Int)(az:Xw (s.extract k e).data.toList=n)(kR:¬ 10<e - k)(h1:1<e - k)(sy:(((s.extract k e)[0].toNat:Int)==48)=false)(D:¬ 1000000000<n) :
  OE 143 #[OB s,Ol (k:Int)] w (Uy k (.tok 3 ⟨#[]⟩ n e) w):=aDA
theorem ahP (n:Int)(az:Xw (s.extract k e).data.toList=n)(h1:¬ 1<e - k)(D:¬ 1000000000<n) :
  OE 143 #[OB s,Ol (k:Int)] w (Uy k (.tok 3 ⟨#[]⟩ n e) w):=aDA
end
def aaU (s:OH)(k:Nat)(w:Ov)(ac:s.size<=3000)(E:k<s.size)(hd:Ql (s[k].toNat:Int)=true) :
  OE 143 #[OB s,Ol (k:Int)] w (Uy k (rdNum s k) w):=by
 have kV:k<OT Ql s k:=by rw[<-Yp Ql s k E hd];have:=Us Ql s (k+1);omega
 have gJ:=QL Ql s k Ou;have dd:=extract_size s k (OT Ql s k) Ou gJ;have hpos:0<(s.extract k (OT Ql s k)).size:=Ou;have h0:(s.extract k (OT Ql s k))[0]=s[k]:=by rw[Zg s k _ 0 gJ hpos];rfl
 have DY:=at_eq s k E
 by_cases kR:10<OT Ql s k - k
 ·have aa:rdNum s k=.bad 3 k:=by unfold rdNum;rw[if_pos kR]
  rw[aa];exact afA s k _ w ac E rfl kV gJ kR
 ·by_cases h1:1<OT Ql s k - k
  ·by_cases sy:((s[k].toNat:Nat):Int)=48
   ·have aa:rdNum s k=.bad 3 k:=by unfold rdNum;rw[if_neg kR,if_pos ⟨h1,by rw[DY];exact sy⟩]
    rw[aa];exact afB s k _ w ac E rfl kV gJ hpos kR h1 (by rw[h0];exact beq_iff_eq.2 sy)
   ·have h48':(((s.extract k (OT Ql s k))[0].toNat:Int)==48)=false:=by rw[h0];exact beq_eq_false_iff_ne.2 sy
    have aj:¬ (1<OT Ql s k - k/\(((s.data.toList.getD k 0).toNat:Nat):Int)=48):=fun h=>sy (by have:=h.2;rw[DY] at this;exact this)
    by_cases D:1000000000<Xw (s.extract k (OT Ql s k)).data.toList
    ·have aa:rdNum s k=.bad 2 k:=by unfold rdNum;rw[if_neg kR,if_neg aj,if_pos D]
     rw[aa];exact ahO s k _ w ac E rfl kV gJ hpos _ rfl kR h1 h48' D
    ·have aa:rdNum s k=.tok 3 ⟨#[]⟩ (Xw (s.extract k (OT Ql s k)).data.toList) (OT Ql s k):=by unfold rdNum;rw[if_neg kR,if_neg aj,if_neg D]
     rw[aa];exact afC s k _ w ac E rfl kV gJ hpos _ rfl kR h1 h48' D
  ·have aj:¬ (1<OT Ql s k - k/\(((s.data.toList.getD k 0).toNat:Nat):Int)=48):=fun h=>h1 h.1;have hds:∀ b ∈ (s.extract k (OT Ql s k)).data.toList,Ql (b.toNat:Int)=true:=azo
   have b6:=(Y1 _ hds).2;have hl:(s.extract k (OT Ql s k)).data.toList.length=1:=by rw[ahp];omega
   rw[hl] at b6;have D:¬ 1000000000<Xw (s.extract k (OT Ql s k)).data.toList:=Ou;have aa:rdNum s k=.tok 3 ⟨#[]⟩ (Xw (s.extract k (OT Ql s k)).data.toList) (OT Ql s k):=by unfold rdNum;rw[if_neg kR,if_neg aj,if_neg D]
   rw[aa];exact ahP s k _ w ac E rfl kV gJ _ rfl h1 D
def bt (s:OH)(i:Nat):UInt8:=s.data.toList.getD i 0
def ak2 (s:OH)(i:Nat)(h:i<s.size):bt s i=s[i]:=at_eq s i h
def esc (c:UInt8):Option UInt8:=if c=110 then some 10 else if c=39\/c=92 then some c else none
inductive SR where
 | ok (said:List UInt8) (e:Nat)
 | bad (p:Nat)
def U8 (s:OH)(i:Nat)(said:List UInt8):SR:=
 if i<s.size then
  if bt s i=39 then .ok said (i+1)
  else if bt s i=10 then .bad i
  else if bt s i=92 then
   if i+1<s.size then
    match esc (bt s (i+1)) with
    | some m=>U8 s (i+2) (said++[m])
    | none=>.bad (i+1)
   else .bad (i+1)
  else U8 s (i+1) (said++[bt s i])
 else .bad s.size
termination_by s.size - i
def rdStr (s:OH)(k:Nat):Rd:=
 match U8 s (k+1) [] with
 | .ok said e=>if 500<said.length then .bad 4 k else .tok 4 (ofBytes said) 0 e
 | .bad p=>.bad 3 p
section
variable (s:OH) (i:Nat) (said:List UInt8)
include s i said
def ZU (h:¬ i<s.size):U8 s i said=.bad s.size:=by rw[U8,if_neg h]
def Vo (h:i<s.size)(aj:bt s i=39):U8 s i said=.ok said (i+1):=by rw[U8,if_pos h,if_pos aj]
def abq (h:i<s.size)(aj:bt s i=10):U8 s i said=.bad i:=by rw[U8,if_pos h,if_neg (by rw[aj];decide),if_pos aj]
def Xr (m:UInt8)(h:i<s.size)(aj:bt s i=92)(h1:i+1<s.size)(aS:esc (bt s (i+1))=some m):U8 s i said=U8 s (i+2) (said++[m]):=by
 conv=>lhs;rw[U8]
 rw[if_pos h,if_neg (by rw[aj];decide),if_neg (by rw[aj];decide),if_pos aj,if_pos h1,aS]
def Ud (h:i<s.size)(aj:bt s i=92)(aS:i+1<s.size->esc (bt s (i+1))=none):U8 s i said=.bad (i+1):=by
 rw[U8,if_pos h,if_neg (by rw[aj];decide),if_neg (by rw[aj];decide),if_pos aj]
 by_cases h1:i+1<s.size
 ·rw[if_pos h1,aS h1]
 ·rw[if_neg h1]
def Vp (h:i<s.size)(h1:bt s i≠39)(U:bt s i≠10)(aw:bt s i≠92):U8 s i said=U8 s (i+1) (said++[bt s i]):=by
 conv=>lhs;rw[U8]
 rw[if_pos h,if_neg h1,if_neg U,if_neg aw]
end
def XM (b c:UInt8):(((b.toNat:Nat):Int)==((c.toNat:Nat):Int))=decide (b=c):=by
 by_cases h:b=c
 ·subst h;simp
 ·have:b.toNat≠c.toNat:=fun e=>h (UInt8.toNat_inj.1 e);simp[h];omega
def ayJ (o:Option UInt8):OG:=match o with|some m=>.tuple #[.int .u8 (m.toNat:Int),OC true] | none=>.tuple #[.int .u8 0,OC false]
def ahQ (s:OH)(i:Nat)(w:Ov)(h:s.size<=i) :
  OE 217 #[OB s,Ol (i:Int)] w fun e w'=>e=OQ (.tuple #[.int .u8 0,OC false])/\w'=w:=by
 go_enter func217,ntmps217
 go_wp2
 go_ret2
 exact⟨rfl,rfl⟩
def acX (s:OH)(i:Nat)(w:Ov)(h:i<s.size) :
  OE 217 #[OB s,Ol (i:Int)] w fun e w'=>e=OQ (ayJ (esc (bt s i)))/\w'=w:=by
 rw[ak2 s i h];obtain⟨b,D⟩:=xE (s[i]);have dq:=XM b 110;have b2:=XM b 39;have em:=XM b 92;rw[<-D]
 by_cases h1:b=110
 ·have e:esc b=some 10:=by simp[esc,h1]
  have c1:(((s[i].toNat:Nat):Int)==110)=true:=by rw[<-D,h1];rfl
  rw[e];clear dq b2 em D h1;go_enter func217,ntmps217
  go_wp2
  go_ret2
  exact⟨rfl,rfl⟩
 ·have c1:(((s[i].toNat:Nat):Int)==110)=false:=by rw[<-D];simpa[h1] using dq
  by_cases U:b=39
  ·have e:esc b=some 39:=by simp[esc,U]
   have c2:(((s[i].toNat:Nat):Int)==39)=true:=by rw[<-D,U];rfl
   have av:((s[i].toNat:Nat):Int)=39:=by rw[<-D,U];rfl
   exact aDX
  ·have c2:(((s[i].toNat:Nat):Int)==39)=false:=by rw[<-D];simpa[U] using b2
   by_cases aw:b=92
   ·have e:esc b=some 92:=by simp[esc,aw]
    have c3:(((s[i].toNat:Nat):Int)==92)=true:=by rw[<-D,aw];rfl
    have av:((s[i].toNat:Nat):Int)=92:=by rw[<-D,aw];rfl
    exact aDX
   ·have e:esc b=none:=by simp[esc,h1,U,aw]
    have c3:(((s[i].toNat:Nat):Int)==92)=false:=by rw[<-D];simpa[aw] using em
    rw[e];clear dq b2 em D h1 U;go_enter func217,ntmps217
    go_wp2
    go_ret2
    exact⟨rfl,rfl⟩
def cellsOf (l:List UInt8):List OG:=l.map (fun b=>Value.int .u8 (b.toNat:Int))
def am4 {w:Ov}{base:Nat}{v:OG}{n:Nat}{xs:List OG}(h:w.ownsRow base 5 1 v n xs):∃ a cap,v=.slice a n cap:=by
 obtain⟨_,⟨rfl,rfl⟩|⟨g,cap,cj,rfl,_⟩⟩:=h
 all_goals
  exact⟨_,_,rfl⟩
def aqK {w:Ov}{base:Nat}{v:OG}(l:List UInt8)(h:w.ownsRow base 5 1 v l.length (cellsOf l)):(convert 42 9 v).run prog w=.ok (OB (ofBytes l)) w:=by
 obtain⟨hl,⟨rfl,h0⟩|⟨g,cap,cj,rfl,D,hh,az,aS,ac,bc⟩⟩:=h
 ·have:l=[]:=List.length_eq_zero_iff.1 h0;subst this;exact run_convert_bytes_nil w 42 5 underlying42 underlying5 0 0 9 underlying9
 ·refine run_convert_bytes_back w 42 9 5 (Ot g 0) cap l underlying42 underlying5 underlying9 ?_;intro j aN;have h1:(cellsOf l)[j]? = some (.int .u8 (l[j].toNat:Int)):=by unfold cellsOf;rw[List.getElem?_map,List.getElem?_eq_getElem aN];rfl
  rw[<-bc,List.getElem?_take_of_lt Ou] at h1;have U:cj[j]? = some (.int .u8 (l[j].toNat:Int)):=by simpa using h1
  have e:(Addr.add (Ot g 0) j)=(Ot g j):=by simp[Addr.add];intro h;exact h.symm
  rw[e];simp only[World.cell?,hh];simpa using U
def info5:(prog.info? 5).map (fun i=>(i.zero,i.size,i.bytes))=some (some (.int .u8 0),1,1):=by kernel_rfl
def ajX (l:List UInt8)(b:UInt8):cellsOf (l++[b])=cellsOf l++[.int .u8 (b.toNat:Int)]:=by simp[cellsOf]
def ak1 {w wr w1:Ov}{v v':OG}{said:List UInt8}{b:UInt8}(o:Obj)(a8:Below (w.heap.size+1) (w.alloc O35) wr)(dd:w.heap.size+1<=wr.heap.size)
  (hown:wr.ownsRow (w.heap.size+1) 5 1 v said.length (cellsOf said))
  (hown':w1.ownsRow (w.heap.size+1) 5 1 v' (said.length+1) (cellsOf said++[.int .u8 (b.toNat:Int)])) (hg:(wr.alloc o).grownBy w1 v.ownBlock) :
  w1.ownsRow (w.heap.size+1) 5 1 v' (said++[b]).length (cellsOf (said++[b]))/\Below (w.heap.size+1) (w.alloc O35) w1/\w.heap.size+1<=w1.heap.size:=by
 have aF:Below (w.heap.size+1) (w.alloc O35) (wr.alloc o):=a8.alloc dd o;have kh:Below (w.heap.size+1) (w.alloc O35) w1:=aF.grown hg Rh (fun k E=>by
  obtain⟨_,⟨rfl,_⟩|⟨g,cap,cj,rfl,pL,_⟩⟩:=hown
  ·simp[Value.ownBlock] at E
  ·simp[Value.ownBlock] at E;omega)
 refine⟨by rw[ajX,List.length_append];exact hown',kh,?_⟩
 have:=kh.size;simp at this;omega
def aaV (s:OH)(k:Nat)(w:Ov)(ac:s.size<=3000)(E:k<s.size) :
  OE 144 #[OB s,Ol (k:Int)] w (Uy k (rdStr s k) w):=by
 obtain⟨i0,am,dA,b9,cn⟩:=info_parts info5;obtain⟨r,aa⟩:∃ r,U8 s (k+1) []=r:=⟨_,rfl⟩;have dj:=hide aa;obtain⟨q,ag⟩:∃ q,rdStr s k=q:=⟨_,rfl⟩;have bm:=hide ag;rw[ag];clear aa ag;go_enter func144,ntmps144
 go_wp2
 go_loopw [7,8,9,10,11] (fun v i _ _ _ wr=>∃ (j:Nat) (said:List UInt8),j<=s.size/\said.length<=j/\i=Ol j/\U8 s j said=r/\wr.ownsRow (w.heap.size+1) 5 1 v said.length (cellsOf said)/\Below (w.heap.size+1) (w.alloc O35) wr/\w.heap.size+1<=wr.heap.size) (fun _ i _ _ _ _=>s.size - (intOf i).toNat)
 case atStart=>exact⟨k+1,[],by omega,by simp,by go_num,dj.out,World.ownsRow_nil _ _ _ _,QX,by simp⟩
 case round=>
  obtain⟨j,said,aN,JG,rfl,aq,hown,a8,dd⟩:=hrel;have dH:=hide aq;have HOWN:=hown;clear aq
  by_cases aQ:j<s.size
  ·have e5:=ak2 s j aQ;obtain⟨a,cap,rfl⟩:=am4 hown;have dq:=XM s[j] 39;have b2:=XM s[j] 10;have em:=XM s[j] 92
   by_cases c1:s[j]=39
   ·
    have nu:(((s[j].toNat:Nat):Int)==39)=true:=by rw[c1];rfl
    have bI:r=.ok said (j+1):=by rw[<-dH.out,Vo s j said aQ (by rw[e5];exact c1)]
    clear dq b2 em c1 e5
    by_cases Dk:500<said.length
    ·have eU:q=.bad 4 k:=by rw[<-bm.out];unfold rdStr;rw[dj.out,bI];simp[Dk]
     clear bI;subst eU;exact apZ
    ·have eU:q=.tok 4 (ofBytes said) 0 (j+1):=by rw[<-bm.out];unfold rdStr;rw[dj.out,bI];simp[Dk]
     clear bI;subst eU;have ci:=aqK said HOWN;have vY:Below (w.alloc O35).heap.size (w.alloc O35) wr:=by simpa using a8
     obtain⟨aj,aH⟩:=ZV vY;have yO:=vY;go_wp2_with fail;exact afk (v:=.tuple #[.agg #[Ol 4,OB (ofBytes said),Ol 0,Ol (k:Int)],Ol ((j:Int)+1),Qp]) ⟨by simp,Yr yO _ _ _ _⟩
   ·have nu:(((s[j].toNat:Nat):Int)==39)=false:=by rw[show (39:Int)=(((39:UInt8).toNat:Nat):Int) from rfl,dq];simp[c1]
    by_cases c2:s[j]=10
    ·
     have t2:(((s[j].toNat:Nat):Int)==10)=true:=by rw[c2];rfl
     have bI:r=.bad j:=by rw[<-dH.out,abq s j said aQ (by rw[e5];exact c2)]
     have eU:q=.bad 3 j:=by rw[<-bm.out];unfold rdStr;rw[dj.out,bI]
     clear dq b2 em c1 c2 e5 bI;subst eU;exact apZ
    ·have t2:(((s[j].toNat:Nat):Int)==10)=false:=by rw[show (10:Int)=(((10:UInt8).toNat:Nat):Int) from rfl,b2];simp[c2]
     by_cases c3:s[j]=92
     ·
      have t3:(((s[j].toNat:Nat):Int)==92)=true:=by rw[c3];rfl
      by_cases hlt2:j+1<s.size
      ·
       cases aS:esc (bt s (j+1)) with
       | none=>
        have bI:r=.bad (j+1):=by rw[<-dH.out,Ud s j said aQ (by rw[e5];exact c3) (fun _=>aS)]
        have eU:q=.bad 3 (j+1):=by rw[<-bm.out];unfold rdStr;rw[dj.out,bI]
        have hW:=hide aS;clear dq b2 em c1 c2 c3 e5 bI aS;subst eU;go_wp2_with fail;have sM:=acX s (j+1) wr hlt2;rw[hW.out] at sM;refine cm sM ?_;rintro ez ap ⟨rfl,rfl⟩;simp only[ayJ];exact apZ
       | some m=>
        have bI:U8 s (j+2) (said++[m])=r:=by rw[<-dH.out,Xr s j said m aQ (by rw[e5];exact c3) hlt2 aS]
        have hZ:=hide bI;have hW:=hide aS;clear dq b2 em c1 c2 c3 e5 bI aS;go_wp2_with fail;have sM:=acX s (j+1) wr hlt2;rw[hW.out] at sM;refine cm sM ?_;rintro ez ap ⟨rfl,rfl⟩;simp only[ayJ]
        go_wp2_with (at_builtin;refine wpList_append_own _ rfl _ _ 42 rfl (w.heap.size+1) 5 i0 (.int .u8 0) 1 1 underlying42 am dA b9 cn rfl Oz _ _ _ rfl (HOWN.alloc _) (Ot ap.heap.size 0) 1 1 [.int .u8 (m.toNat:Int)] rfl rfl ?c1 ?c2 ?c3 ?c4 ?c5 ?_)
        case c1=>
         intro j u aN
         match j,aN with
         | 0,aN=>simp at aN;subst aN;simp[Addr.add]
        case c2=>intro u aT;simp at aT;subst aT;rfl
        case c3=>unfold maxLen;omega
        case c4=>omega
        case c5=>simp;omega
        intro v' w1 hown' hgrow _;have R:=ak1 (b:=m) _ a8 dd HOWN hown' hgrow;have bW:=hide R;clear R
        go_wp2
        go_roundw
        case rel=>exact⟨j+2,said++[m],by omega,by simp;omega,by go_num,hZ.out,bW.out.1,bW.out.2.1,bW.out.2.2⟩
        case measure=>simp[intOf];omega
      ·have bI:r=.bad (j+1):=by rw[<-dH.out,Ud s j said aQ (by rw[e5];exact c3) (fun h=>absurd h hlt2)]
       have eU:q=.bad 3 (j+1):=by rw[<-bm.out];unfold rdStr;rw[dj.out,bI]
       clear dq b2 em c1 c2 c3 e5 bI;subst eU;go_wp2_with fail;have sM:=ahQ s (j+1) wr Ou;refine cm sM ?_;rintro ez ap ⟨rfl,rfl⟩;exact apZ
     ·
      have t3:(((s[j].toNat:Nat):Int)==92)=false:=by rw[show (92:Int)=(((92:UInt8).toNat:Nat):Int) from rfl,em];simp[c3]
      have bI:U8 s (j+1) (said++[s[j]])=r:=by rw[<-dH.out,Vp s j said aQ (by rw[e5];exact c1) (by rw[e5];exact c2) (by rw[e5];exact c3),e5]
      have hZ:=hide bI;clear dq b2 em c1 c2 c3 e5 bI
      go_wp2_with (at_builtin;refine wpList_append_own _ rfl _ _ 42 rfl (w.heap.size+1) 5 i0 (.int .u8 0) 1 1 underlying42 am dA b9 cn rfl Oz _ _ _ rfl (HOWN.alloc _) (Ot wr.heap.size 0) 1 1 [.int .u8 (s[j].toNat:Int)] rfl rfl ?c1 ?c2 ?c3 ?c4 ?c5 ?_)
      case c1=>
       intro j u aN
       match j,aN with
       | 0,aN=>simp at aN;subst aN;simp[Addr.add]
      case c2=>intro u aT;simp at aT;subst aT;rfl
      case c3=>unfold maxLen;omega
      case c4=>omega
      case c5=>simp;omega
      intro v' w1 hown' hgrow _;have R:=ak1 (b:=s[j]) _ a8 dd HOWN hown' hgrow;have bW:=hide R;clear R
      go_wp2
      go_roundw
      case rel=>exact⟨j+1,said++[s[j]],by omega,by simp;omega,by go_num,hZ.out,bW.out.1,bW.out.2.1,bW.out.2.2⟩
      case measure=>simp[intOf];omega
  ·have bI:r=.bad s.size:=by rw[<-dH.out,ZU s j said aQ]
   have eU:q=.bad 3 s.size:=by rw[<-bm.out];unfold rdStr;rw[dj.out,bI]
   clear bI;subst eU;exact apZ
