import Derived.Test.YticfnaiehdpbmaaGreatDoorSt2
import Derived.Laws.Rows
import Derived.ProofKit
import Derived.OpenShut
import Derived.Stop.Joined
import Derived.RegionTactic
import Derived.Deep.RegionHeld
import Derived.Laws.IdiomStrings
import Derived.Laws.BytesArg
import Derived.Laws.OwnMore
import Derived.Deep.AppendLies
import Derived.Shelf.Strings.Builder1
import Derived.Shelf.Strings.Builder2
import Derived.Shelf.Strings.OnBuilder
import Derived.Shelf.Small.Strs
import Derived.Shelf.Strconv.Itoa0
import Derived.Shelf.Strconv.Itoa1
import Derived.Shelf.LaysM
import Derived.Shelf.Strconv.Itoa2
import Derived.Shelf.Strconv.Itoa3
import Derived.Shelf.Strings.Search1
import Derived.Test.YticfnaiehdpbmaaGreatDoorProg
import Derived.LaidEql
import Derived.Stop.Asserts
import Derived.RowKitTokens
set_option maxRecDepth 100000
set_option maxHeartbeats 8000000
set_option linter.all false
namespace Go.Proofs.YticfnaiehdpbmaaGreatDoor
open Go.RowKit Go.Proofs.Tryz
def isIn (aY:List Ou)(s:Ou):Bool:=aY.any (fun x=>x.toList==s.toList)
section
variable (aY:List Ou) (s:Ou) (k:Nat) (h:k<aY.length)
include aY s k h
def acR (h0:isIn (aY.take k) s=false)(h1:(aY[k].toList==s.toList)=false):isIn (aY.take (k+1)) s=false:=by
 unfold isIn at *;rw[List.take_succ_eq_append_getElem h,List.any_append,h0];simpa using h1
def aq8 (h1:(aY[k].toList==s.toList)=true):isIn aY s=true:=by
 unfold isIn;exact List.any_eq_true.2 ⟨aY[k],List.getElem_mem h,h1⟩
end
def avb (cs:Array Ot)(k:Nat)(E:k<19)(x:Ou)(ac:cs[k]? = some (Oj x))(w:Og) :
  (Instr.index 272 (.agg cs) (NY (k:Int))).run prog w=.ok (Oj x) w:=by
 simp[Instr.index,run_underlying underlying272,asIntOf,go_sem,E,ac]
def acw (aY:List Ou)(s:Ou)(w:Og)(ax:aY.length=19)(t:TypeId)(fr:Nat × Nat)
  (hg:w.heap[6]? = some (.cells (aY.map Value.string).toArray t fr)) :
  Oq 214 #[Oj s] w fun e w'=>e=OA (Om (isIn aY s))/\w'=w:=by
 have⟨cs,sx⟩:=xH ((aY.map Value.string).toArray);rw[<-sx.out] at hg;have da:cs.size=19:=by rw[sx.out];simpa using ax
 have oS:∀ k:Nat,k<19->∀ W,(Instr.index 272 (.agg cs) (NY (k:Int))).run prog W=.ok (Oj (aY.getD k ByteArray.empty)) W:=fun k E W=>
  avb cs k E _ (by rw[sx.out];simp[ax,E]) W
 have sd:=hide oS;have sB:=hide da;have sA:=hide hg;clear oS da hg;go_enter func214,ntmps214
 go_wp2_with (refine wpList_load_row rfl 272 _ rfl 6 rfl t cs fr _ sA.out underlying272 rfl (by rw[sB.out];kernel_rfl) ?_)
 go_loop [4,6] (fun _ i=>∃ k:Nat,k<=19/\i=NY k/\isIn (aY.take k) s=false) (fun _ i=>19 - (intOf i).toNat)
 case atStart=>exact⟨0,Nat.zero_le _,rfl,rfl⟩
 case round=>
  obtain⟨k,E,rfl,ao⟩:=hrel;have dB:=hide ao;clear ao
  by_cases aM:k<19
  ·have eJ:=NZ sd k aM
   go_wp2
   ·go_ret;exact⟨Ua (aq8 aY s k Oe (by rw[BEq.comm];assumption)).symm,rfl⟩
   ·exact⟨⟨k+1,by omega,by go_num,acR aY s k Oe dB.out (by rw[BEq.comm];assumption)⟩,by simp[intOf];omega⟩
  ·go_wp2
   go_ret;exact⟨Ua (by have:=NZ dB;rw[List.take_of_length_le Oe] at this;exact this.symm),rfl⟩
section
open Go.ChangeShapes Go.WideShapes Go.ChangeAt Go.WideMaps Go.WideElems Go.RowKit
def ofBytes (l:List UInt8):Ou:=⟨l.toArray⟩
def apW:List (List UInt8):=[[118,97,114],[108,101,116],[99,111,110,115,116],[102,117,110,99,116,105,111,110],[105,102],[101,108,115,101],[119,104,105,108,101],[119,105,116,104],[114,101,116,117,114,110],[116,104,114,111,119],[116,114,121],[99,97,116,99,104],[102,105,110,97,108,108,121],[116,121,112,101,111,102],[100,101,108,101,116,101],[116,114,117,101],[102,97,108,115,101],[110,117,108,108],[117,110,100,101,102,105,110,101,100]]
def O4:List Ou:=apW.map ofBytes
def apX:List (List UInt8):=[[61,61,61],[38,38],[124,124],[40],[41],[123],[125],[91],[93],[59],[58],[44],[46],[61],[43],[45],[42],[60],[33]]
def O0:List Ou:=apX.map ofBytes
def ajr:O4.length=19:=rfl
def ajs:O0.length=19:=rfl
def aci {s:Ou}{l:List UInt8}(h:s.data.toList=l):s=ofBytes l:=bytes_inj (by rw[h];rfl)
def at_eq (s:Ou)(i:Nat)(h:i<s.size):s.data.toList.getD i 0=s[i]:=by
 have av:i<s.data.toList.length:=by (have aN:s.data.toList.length=s.size:=by simp);omega
 rw[List.getD_eq_getElem?_getD,List.getElem?_eq_getElem av];rfl
end
section
variable {P:Program} {b0:Region.Mode} {bf:Array Oper} {Q:Exit->Act->Og->Prop} {S:Og->Prop} {fuel:Nat} {listed:Array Bool} {a:Act} {w:Og}
def wt {dH:Oper}(i:Nat)(v:Ot)
    (h:wpAny P b0 bf Q fuel (listed.setIfInBounds i true) (a.put dH.dst v) w) (az:bf[i]? = some dH:=by rfl)
    (ab:Region.noSelect bf=true:=by kernel_rfl) (aF:Region.free b0 bf listed i=true:=by kernel_rfl) (aa:(Region.ready b0 bf listed).contains i=true:=by kernel_rfl)
    (hG:∀ c a w,Q (.panic c) (a.put dH.dst v) w->Q (.panic c) a w:=by exact fun _ _ _ h=>h) (hy:Yields P bf dH v a:=by exact Or.inl ⟨by kernel_rfl,fun w=>by go_simp⟩):wpAny P b0 bf Q (fuel+1) listed a w:=
  wpAny_take az ab aF aa hG hy h
def wg {dH:Oper}(i:Nat)(v:Ot)(az:bf[i]? = some dH)(hy:YieldsIf P bf S dH v a)(g5:S w)
    (h:wpAnyH P b0 bf Q S fuel (listed.setIfInBounds i true) (a.put dH.dst v) w)
    (ab:Region.noSelect bf=true:=by kernel_rfl) (aF:Region.free b0 bf listed i=true:=by kernel_rfl) (aa:(Region.ready b0 bf listed).contains i=true:=by kernel_rfl)
    (hG:∀ c a w,Q (.panic c) (a.put dH.dst v) w->Q (.panic c) a w:=by exact fun _ _ _ h=>h):wpAnyH P b0 bf Q S (fuel+1) listed a w:=
  wpAnyH_take az ab aF aa hG hy g5 h
def wh {dH:Oper}(i:Nat)(v:Ot)(g5:S w)
    (h:wpAnyH P b0 bf Q S fuel (listed.setIfInBounds i true) (a.put dH.dst v) w) (az:bf[i]? = some dH:=by rfl)
    (ab:Region.noSelect bf=true:=by kernel_rfl) (aF:Region.free b0 bf listed i=true:=by kernel_rfl) (aa:(Region.ready b0 bf listed).contains i=true:=by kernel_rfl)
    (hG:∀ c a w,Q (.panic c) (a.put dH.dst v) w->Q (.panic c) a w:=by exact fun _ _ _ h=>h) (hy:YieldsIf P bf S dH v a:=by exact Or.inl ⟨by kernel_rfl,fun _ _=>by go_simp⟩):wpAnyH P b0 bf Q S (fuel+1) listed a w:=
  wpAnyH_take az ab aF aa hG hy g5 h
def QF {o:Oper}(i:Nat)
    (h:∀ hB:Act->Og->Prop,(∀ a w,wpAny P b0 bf Q fuel (listed.setIfInBounds i true) a w->hB a w)->if Region.wanted o (yielded bf a.tmps)=true then Oper.wp P o a w hB Q else hB (a.put o.dst undef) w)
    (aO:bf[i]? = some o:=by rfl) (aa:Region.ready b0 bf listed=[i]:=by kernel_rfl):wpAny P b0 bf Q (fuel+1) listed a w:=
  wpAny_ready aa OW (AllReady.cons aO h AllReady.nil)
def wr2 {o gT:Oper}(i j:Nat)
    (h:∀ hB:Act->Og->Prop,(∀ a w,wpAny P b0 bf Q fuel (listed.setIfInBounds i true) a w->hB a w)->if Region.wanted o (yielded bf a.tmps)=true then Oper.wp P o a w hB Q else hB (a.put o.dst undef) w)
    (fb:∀ hB:Act->Og->Prop,(∀ a w,wpAny P b0 bf Q fuel (listed.setIfInBounds j true) a w->hB a w)->if Region.wanted gT (yielded bf a.tmps)=true then Oper.wp P gT a w hB Q else hB (a.put gT.dst undef) w)
    (aO:bf[i]? = some o:=by rfl) (AU:bf[j]? = some gT:=by rfl) (aa:Region.ready b0 bf listed=[i,j]:=by kernel_rfl):wpAny P b0 bf Q (fuel+1) listed a w:=
  wpAny_ready aa OW (AllReady.cons aO h (AllReady.cons AU fb AllReady.nil))
def XL {o:Oper}(i:Nat)
    (h:∀ hB:Act->Og->Prop,Shut (∀ a w,S w->(S w->wpAnyH P b0 bf Q S fuel (listed.setIfInBounds i true) a w)->hB a w)->if Region.wanted o (yielded bf a.tmps)=true then Oper.wp P o a w hB Q else hB (a.put o.dst undef) w)
    (aO:bf[i]? = some o:=by rfl) (aa:Region.ready b0 bf listed=[i]:=by kernel_rfl):wpAnyH P b0 bf Q S (fuel+1) listed a w:=
  wpAnyH_ready aa OW (AllReadyH.cons aO h AllReadyH.nil)
def ace {H G:Og->Nat->Prop}{goal:Prop}(h1:(∀ aD cw,H aD cw->G aD cw)->goal)(U:∀ aD cw,H aD cw->G aD cw):goal:=h1 U
def Uu {listed':Array Bool}{jc:Act}(h1:listed=listed')(U:a=jc)(h:wpAny P b0 bf Q fuel listed' jc w):wpAny P b0 bf Q fuel listed a w:=by
  subst h1 U;exact h
def tf (n m:Nat):Array Bool:=Array.replicate n true++Array.replicate m false
def wz {jc:Act}(n m:Nat)(h:wpAny P b0 bf Q fuel (tf n m) jc w)(h1:listed=tf n m:=by kernel_rfl)(U:a=jc:=by kernel_rfl):wpAny P b0 bf Q fuel listed a w:=Uu h1 U h
def cm {f:FuncId}{args:Array Ot}{R CR:Ending->Og->Prop}(h:Calls P f args w R)(aa:∀ e w',R e w'->CR e w'):Calls P f args w CR:=h.mono aa
def ZK {W w1:Og}(A:Oo W w1):(∀ b o,b<W.heap.size->w1.cell? (N9 b o)=W.cell? (N9 b o))/\(∀ b o,b<W.heap.size->w1.frozen? (N9 b o)=W.frozen? (N9 b o)):=
 ⟨fun b o h=>A.cell (p:=(N9 b o)) h,fun b o h=>A.frozen (p:=(N9 b o)) h⟩
inductive Rd where
 | tok (kd:Int) (tx:Ou) (n:Int) (e:Nat)
 | bad (er:Int) (p:Nat)
abbrev YP:Ot:=.agg #[NY 0,Pm,NY 0,NY 0]
def Uf (k:Nat)(r:Rd)(w:Og)(e:Ending)(w':Og):Prop:=
 match r with
 | .tok kd tx n ht=>e=OA (.tuple #[.agg #[NY kd,Oj tx,NY n,NY (k:Int)],NY (ht:Int),.nilIface])/\Oo w w'
 | .bad er p=>∃ b,e=OA (.tuple #[YP,NY 0,.iface 150 (Oy b 0)])/\w'.heap[b]? = some (OM #[NY er,NY (p:Int)] 152)/\w.heap.size<=b/\Oo w w'
def abd {w w1:Og}{b:Nat}{o X:Obj}(hbel:Below (w.alloc o).heap.size (w.alloc o) w1)(jw:(w.alloc o).heap.size<=b)(A:w1.heap[b]? = some X)(v0 v1 v2 v3:Ot) :
  ((((w1.setCell (N9 w.heap.size 0) v0).setCell (N9 w.heap.size 1) v1).setCell (N9 w.heap.size 2) v2).setCell (N9 w.heap.size 3) v3).heap[b]? = some X/\w.heap.size<=b /\
   Oo w ((((w1.setCell (N9 w.heap.size 0) v0).setCell (N9 w.heap.size 1) v1).setCell (N9 w.heap.size 2) v2).setCell (N9 w.heap.size 3) v3):=by
 have aH:(w.alloc o).heap.size=w.heap.size+1:=by simp
 have cC:b≠w.heap.size:=Oe;have tV:Oo w (w.alloc o):=PE;have dn:Oo w w1:=tV.trans (hbel.mono Oe);refine⟨?_,by omega,(((dn.setCell Pg _).setCell Pg _).setCell Pg _).setCell Pg _⟩;rw[Below.heap_setCell _ _ _ _ cC,Below.heap_setCell _ _ _ _ cC,Below.heap_setCell _ _ _ _ cC,Below.heap_setCell _ _ _ _ cC];exact A
def acu (er p:Int)(w:Og):Oq 215 #[NY er,NY p] w fun e w'=>
  ∃ b,e=OA (.tuple #[YP,NY 0,.iface 150 (Oy b 0)])/\w'.heap[b]? = some (OM #[NY er,NY p] 152)/\w.heap.size<=b/\Oo w w':=by
 go_enter func215,ntmps215
 go_wp2
 refine UC (v:=.tuple #[YP,NY 0,.iface 150 (Oy (w.heap.size+1) 0)]) ⟨_,rfl,?_,by omega,PE.alloc OW _⟩;simpa using heap_alloc_new (w.alloc (.cells #[NY 0,Pm,NY 0,NY 0] 144)) (.cells #[NY er,NY p] 152)
def Yz (x p:Ou):Bool:=decide (p.size<=x.size)&&((x.extract 0 p.size).toList==p.toList)
def adf (x p:Ou)(w:Og)(_hx:x.size<=maxLen)(Ha:p.size<=maxLen) :
  Oq 218 #[Oj x,Oj p] w fun e w'=>e=OA (Om (Yz x p))/\w'=w:=by
 unfold maxLen at _hx Ha
 by_cases h:p.size<=x.size
 all_goals
  go_enter func218,ntmps218
  go_wp2
  go_ret;exact⟨Ua (by simp[Yz,h]),rfl⟩
def TL (gs:List Ou)(s:Ou)(k:Nat):Rd:=
 match gs.find? (fun g=>Yz (s.extract k s.size) g) with
 | some g=>.tok 5 g 0 (k+g.size)
 | none=>.bad 3 k
section
variable {gs:List Ou} {f:Ou->Bool}
include gs f
def aqI {i:Nat}(az:i<gs.length)(h0:∀ j,(aS:j<i)->f (gs[j]'Oe)=false)(h:f gs[i]=true):gs.find? f=some gs[i]:=by
 rw[List.find?_eq_some_iff_getElem];exact⟨h,i,az,rfl,fun j aS=>by rw[h0 j aS];rfl⟩
def aah (h0:∀ j,(aS:j<gs.length)->f gs[j]=false):gs.find? f=none:=by
 rw[List.find?_eq_none];intro x ac;obtain⟨j,aS,rfl⟩:=List.getElem_of_mem ac;rw[h0 j aS];simp
end
def extract_size (s:Ou)(a b:Nat)(h1:a<=b)(U:b<=s.size):(s.extract a b).size=b - a:=by
 simp;omega
def afi (gs:List Ou)(s:Ou)(k:Nat)(w:Og)(ab:s.size<=3000)(E:k<s.size)(ax:gs.length=19)(da:∀ i,i<19->(gs.getD i ByteArray.empty).size<=3)(t:TypeId)(fr:Nat × Nat)
  (hg:w.heap[2]? = some (.cells (gs.map Value.string).toArray t fr)) :
  Oq 145 #[Oj s,NY (k:Int)] w (Uf k (TL gs s k) w):=by
 have⟨cs,sx⟩:=xH ((gs.map Value.string).toArray);rw[<-sx.out] at hg;have hsz1:cs.size=19:=by rw[sx.out];simpa using ax
 have oS:∀ k:Nat,k<19->∀ W,(Instr.index 272 (.agg cs) (NY (k:Int))).run prog W=.ok (Oj (gs.getD k ByteArray.empty)) W:=fun k E W=>
  avb cs k E _ (by rw[sx.out];simp[ax,E]) W
 have sd:=hide oS;have sB:=hide da;have G':=hide hsz1;have vE:=hide ax;have sA:Hid ((w.alloc (.cells #[NY 0,Pm,NY 0,NY 0] 144)).heap[2]? = some (.cells cs t fr)):=by
  have aM:2<w.heap.size:=(Array.getElem?_eq_some_iff.1 hg).1
  show _=_
  rw[Below.heap_alloc w _ 2 aM];exact hg
 clear oS da hg ax hsz1;go_enter func145,ntmps145
 go_wp2_with (refine wpList_load_row rfl 272 _ rfl 2 rfl t cs fr _ sA.out underlying272 rfl (by rw[G'.out];kernel_rfl) ?_)
 go_loopw [8,10] (fun _ i wr=>∃ j:Nat,j<=19/\i=NY j/\(∀ q,q<j->Yz (s.extract k s.size) (gs.getD q ByteArray.empty)=false)/\wr=w.alloc (.cells #[NY 0,Pm,NY 0,NY 0] 144)) (fun _ i _=>19 - (intOf i).toNat)
 case atStart=>exact⟨0,Nat.zero_le _,rfl,fun q ag=>absurd ag (Nat.not_lt_zero _),rfl⟩
 case round=>
  obtain⟨j,aS,rfl,ao,rfl⟩:=hrel;have dB:=hide ao;clear ao
  by_cases aM:j<19
  ·have eJ:=NZ sd j aM;have rr:=NZ sB j aM;have⟨g,hg⟩:=xE (gs.getD j ByteArray.empty);rw[<-hg] at eJ rr;have ve:=hide hg;clear hg
   cases al:Yz (s.extract k s.size) g
   ·have z:=N8 (∀{G}(h:G:=by
    go_roundw
    case rel=>exact⟨j+1,by omega,by go_num,fun q ag=>by (by_cases A5:q=j);(rw[A5,<-ve.out];exact HP.out);exact NZ dB q Oe,by trivial⟩
    case measure=>simp[intOf];omega),G);exact aEP
   ·have z:=N8 (∀{G}(h:G:=by
    have aa:TL gs s k=.tok 5 g 0 (k+g.size):=by
     unfold TL;have D1:g=gs[j]'(by rw[vE.out];exact aM):=by rw[ve.out,List.getD_eq_getElem?_getD,List.getElem?_eq_getElem (by rw[vE.out];exact aM)];rfl
     rw[aqI (i:=j) (by rw[vE.out];exact aM) (fun q ag=>by
      have:=NZ dB q ag;rw[List.getD_eq_getElem?_getD,List.getElem?_eq_getElem (by rw[vE.out];omega)] at this
      exact this) (by rw[<-D1];exact HP.out),<-D1]
    rw[aa];exact UC (v:=.tuple #[.agg #[NY 5,Oj g,NY 0,NY (k:Int)],NY ((k:Int)+(g.size:Int)),Qd]) ⟨by simp,PE⟩),G);exact aEP
  ·go_wp2_with fail;refine(acu _ _ _).mono ?_;rintro e w1 ⟨b,rfl,A,jw,hbel⟩;have⟨ai,aF⟩:=ZK hbel;have bO:=hide A;clear A;go_wp2_with fail;have aa:TL gs s k=.bad 3 k:=by
    unfold TL;rw[aah (fun q ag=>by
     have:=NZ dB q (by rw[vE.out] at ag;omega)
     rw[List.getD_eq_getElem?_getD,List.getElem?_eq_getElem ag] at this;exact this)]
   rw[aa];exact afb (v:=.tuple #[YP,NY 0,.iface 150 (Oy b 0)]) ⟨b,rfl,abd hbel jw bO.out _ _ _ _⟩
end
def TU (p:Int->Bool)(s:Ou)(k:Nat):k<=OC p s k:=by unfold OC;omega
def Yj {w w1:Og}{o:Obj}(hbel:Below (w.alloc o).heap.size (w.alloc o) w1)(v0 v1 v2 v3:Ot) :
   Oo w ((((w1.setCell (N9 w.heap.size 0) v0).setCell (N9 w.heap.size 1) v1).setCell (N9 w.heap.size 2) v2).setCell (N9 w.heap.size 3) v3):=by
 have aH:(w.alloc o).heap.size=w.heap.size+1:=by simp
 have tV:Oo w (w.alloc o):=PE;have dn:Oo w w1:=tV.trans (hbel.mono Oe);exact(((dn.setCell Pg _).setCell Pg _).setCell Pg _).setCell Pg _
def SG (aY:List Ou)(s:Ou)(k:Nat):Rd:=
 if isIn aY (s.extract k (OC Vt s k))=true then .tok 2 (s.extract k (OC Vt s k)) 0 (OC Vt s k)
 else if 20<OC Vt s k - k then .bad 4 k
 else .tok 1 (s.extract k (OC Vt s k)) 0 (OC Vt s k)
abbrev O35:Obj:=.cells #[NY 0,Pm,NY 0,NY 0] 144
section
variable (aY:List Ou) (s:Ou) (k e:Nat) (w:Og) (ab:s.size<=3000) (E:k<s.size) (ao:OC Vt s k=e) (kX:k<=e) (gJ:e<=s.size)
include aY s k e w ab E ao kX gJ
def adk (hw:isIn aY (s.extract k e)=true)(ax:aY.length=19)(t:TypeId)(fr:Nat × Nat)(hg:w.heap[6]? = some (.cells (aY.map Value.string).toArray t fr)) :
  Oq 141 #[Oj s,NY (k:Int)] w (Uf k (.tok 2 (s.extract k e) 0 e) w):=by
 have z:=N8 (∀{G}(h:G:=by
 exact afb (v:=.tuple #[.agg #[NY 2,Oj (s.extract k e),NY 0,NY (k:Int)],NY (e:Int),Qd]) ⟨rfl,Yj hbel _ _ _ _⟩),G);exact aEo
def adl (hw:isIn aY (s.extract k e)=false)(rj:¬ 20<e - k)(ax:aY.length=19)(t:TypeId)(fr:Nat × Nat)(hg:w.heap[6]? = some (.cells (aY.map Value.string).toArray t fr)) :
  Oq 141 #[Oj s,NY (k:Int)] w (Uf k (.tok 1 (s.extract k e) 0 e) w):=by
 have z:=N8 (∀{G}(h:G:=by
 exact afb (v:=.tuple #[.agg #[NY 1,Oj (s.extract k e),NY 0,NY (k:Int)],NY (e:Int),Qd]) ⟨rfl,Yj hbel _ _ _ _⟩),G);exact aEo
def adn (hw:isIn aY (s.extract k e)=false)(rj:20<e - k)(ax:aY.length=19)(t:TypeId)(fr:Nat × Nat)(hg:w.heap[6]? = some (.cells (aY.map Value.string).toArray t fr)) :
  Oq 141 #[Oj s,NY (k:Int)] w (Uf k (.bad 4 k) w):=by
 have bL:=N8 (∀{G}(h:G:=by
 have mc:=hbel;go_wp2_with fail;have hpast:=Yi s k x Vt w1 (by unfold maxLen;omega) Oe ac
 rw[dB.out] at hpast;refine hpast.mono ?_;rintro bi w2 ⟨rfl,rfl⟩;have ph:Hid (w2.heap[6]? = some (.cells (aY.map Value.string).toArray t fr)):=by
  show _=_
  rw[mc.block 6 QY,Below.heap_alloc w _ 6 aM];exact NZ gZ
 go_wp2_with fail;refine(acw aY (s.extract k e) w2 dP.out t fr ph.out).mono ?_;rw[ft.out];rintro d4 aq ⟨rfl,rfl⟩;exact axR),G);exact ztp
end
def afh (aY:List Ou)(s:Ou)(k:Nat)(w:Og)(ab:s.size<=3000)(E:k<s.size)(ax:aY.length=19)(t:TypeId)(fr:Nat × Nat)
  (hg:w.heap[6]? = some (.cells (aY.map Value.string).toArray t fr)) :
  Oq 141 #[Oj s,NY (k:Int)] w (Uf k (SG aY s k) w):=by
 have kX:=TU Vt s k;have gJ:=QU Vt s k Oe
 cases hw:isIn aY (s.extract k (OC Vt s k))
 ·by_cases rj:20<OC Vt s k - k
  ·have aa:SG aY s k=.bad 4 k:=by unfold SG;rw[hw];simp[rj]
   rw[aa];exact adn aY s k _ w ab E rfl kX gJ hw rj ax t fr hg
  ·have aa:SG aY s k=.tok 1 (s.extract k (OC Vt s k)) 0 (OC Vt s k):=by unfold SG;rw[hw];simp[rj]
   rw[aa];exact adl aY s k _ w ab E rfl kX gJ hw rj ax t fr hg
 ·have aa:SG aY s k=.tok 2 (s.extract k (OC Vt s k)) 0 (OC Vt s k):=by unfold SG;rw[hw];simp
  rw[aa];exact adk aY s k _ w ab E rfl kX gJ hw ax t fr hg
def Xe (l:List UInt8):Int:=l.foldl (fun n b=>n * 10+((b.toNat:Int) - 48)) 0
section
variable (l:List UInt8)
include l
def alv (b:UInt8):Xe (l++[b])=Xe l * 10+((b.toNat:Int) - 48):=by simp[Xe,List.foldl_append]
def anC:∀ (n:Int),0<=n->(∀ b ∈ l,Qe (b.toNat:Int)=true) ->
  0<=l.foldl (fun n b=>n * 10+((b.toNat:Int) - 48)) n/\l.foldl (fun n b=>n * 10+((b.toNat:Int) - 48)) n<(n+1) * 10 ^ l.length:=by
 induction l with
 | nil=>intro n h0 _;simp;omega
 | cons b l bv=>
  intro n h0 h;have A:=h b OW;simp[Qe,afZ] at A;have h1:=bv (n * 10+((b.toNat:Int) - 48)) Oe (fun c ai=>h c (by simp[ai]));refine⟨h1.1,Int.lt_of_lt_of_le h1.2 ?_⟩;rw[List.length_cons,Int.pow_succ,Int.mul_comm ((10:Int) ^ l.length) 10,<-Int.mul_assoc];exact Int.mul_le_mul_of_nonneg_right Oe (Int.pow_nonneg Oe)
def YU (h:∀ b ∈ l,Qe (b.toNat:Int)=true):0<=Xe l/\Xe l<10 ^ l.length:=by
 have h1:=anC l 0 (Int.le_refl _) h;refine⟨h1.1,?_⟩;have U:=h1.2;rw[Int.zero_add,Int.one_mul] at U;exact U
end
def abj (x:Ou)(hd:∀ i,(az:i<x.size)->Qe (x[i].toNat:Int)=true)(k:Nat):∀ b ∈ x.data.toList.take k,Qe (b.toNat:Int)=true:=by
 intro b A;obtain⟨i,az,rfl⟩:=List.getElem_of_mem A;have oQ:i<x.data.toList.length:=by simp at az;simp;omega
 have ab:i<x.size:=by
  have aN:x.data.toList.length=x.size:=by simp
  omega
 rw[List.getElem_take];exact hd i ab
def take_snoc (s:Ou)(k:Nat)(h:k<s.size):s.data.toList.take (k+1)=s.data.toList.take k++[s[k]]:=by
 rw[List.take_succ_eq_append_getElem (by simpa using h)];rfl
def ah6 (x:Ou)(w:Og):∃ cap gF,(convert 9 42 (Oj x)).run prog w=.ok (.slice (some (N9 w.heap.size 0)) x.size cap) gF/\Oo w gF /\
  ∀ i,(az:i<x.size)->gF.cell? (N9 w.heap.size i)=some (.int .u8 (x[i].toNat:Int)):=by
 refine⟨_,_,run_bytes_of_string w 9 42 5 x underlying9 underlying42 underlying5,(QI.drew.alloc Pg _),?_⟩;intro i az;have hh:=heap_alloc_new w.drew (.cells (bytesRow x (grownCap w x.size 0 5)) 5 ((bytesRow x (grownCap w x.size 0 5)).size,(bytesRow x (grownCap w x.size 0 5)).size+1))
 have AD:(w.drew.alloc (.cells (bytesRow x (grownCap w x.size 0 5)) 5 ((bytesRow x (grownCap w x.size 0 5)).size,(bytesRow x (grownCap w x.size 0 5)).size+1))).heap[w.heap.size]? = some (.cells (bytesRow x (grownCap w x.size 0 5)) 5 ((bytesRow x (grownCap w x.size 0 5)).size,(bytesRow x (grownCap w x.size 0 5)).size+1)):=hh;have kt:i<x.data.size:=az;simp only[World.cell?,AD];have av:(bytesRow x (grownCap w x.size 0 5))[i]? = some (.int .u8 (x[i].toNat:Int)):=by
  unfold bytesRow;rw[Array.getElem?_append_left (by simpa using kt),Array.getElem?_map,Array.getElem?_eq_getElem kt];rfl
 simpa using av
def anD {n:Nat}(h:n<=10):(10:Int) ^ n<=10000000000:=by
 have:∀ m:Fin 11,(10:Int) ^ m.val<=10000000000:=by decide
 exact this ⟨n,by omega⟩
def alx (x:Ou)(w:Og)(h1:1<=x.size)(U:x.size<=10)(hd:∀ i,(az:i<x.size)->Qe (x[i].toNat:Int)=true) :
  Oq 275 #[Oj x] w fun e w'=>e=OA (.tuple #[NY (Xe x.data.toList),Qd])/\Oo w w':=by
 have⟨cap,gF,cj,hbel,hcell⟩:=ah6 x w;have h0:=hd 0 h1;simp[Qe,afZ] at h0;obtain⟨LI,Dd⟩:=h0;have Ln:(((x[0].toNat:Nat):Int)==45)=false:=beq_eq_false_iff_ne.2 Oe;have Ll:(((x[0].toNat:Nat):Int)==43)=false:=beq_eq_false_iff_ne.2 Oe;have uX:=hide hcell;have d7:=hide hd;clear hcell hd;go_enter func275,ntmps275
 go_wp2
 go_loop [6,8,49] (fun n _ i=>∃ k:Nat,k<=x.size/\i=NY k/\n=NY (Xe (x.data.toList.take k))) (fun _ _ i=>x.size - (intOf i).toNat)
 case atStart=>exact⟨0,Nat.zero_le _,rfl,rfl⟩
 case round=>
  obtain⟨k,E,rfl,rfl⟩:=hrel
  by_cases aM:k<x.size
  ·have eJ:=NZ uX k aM;have oP:=NZ d7 k aM;simp[Qe,afZ] at oP;obtain⟨ay,A⟩:=oP;have fd:=YU _ (abj x d7.out k);have hl:(x.data.toList.take k).length<=10:=by simp;omega
   have al:=anD hl;obtain⟨rC,f9⟩:=fd;have jQ:Xe (x.data.toList.take k)<10000000000:=Oe;have a':=hide (alv (x.data.toList.take k) x[k]);have eR:=hide (take_snoc x k aM);have⟨N,dP⟩:=xH (Xe (x.data.toList.take k));rw[<-dP.out] at rC jQ ⊢;clear f9 al hl
   go_wp2
   exact⟨⟨k+1,by omega,by go_num,by rw[eR.out,a'.out,<-dP.out]⟩,by simp[intOf];omega⟩
  ·have eR:Hid (x.data.toList.take k=x.data.toList):=List.take_of_length_le QY
   go_wp2
   go_ret2
   refine⟨?_,hbel⟩;rw[eR.out];rfl
def bt (s:Ou)(i:Nat):UInt8:=s.data.toList.getD i 0
def alg (s:Ou)(i:Nat)(h:i<s.size):bt s i=s[i]:=at_eq s i h
def esc (c:UInt8):Option UInt8:=if c=110 then some 10 else if c=39\/c=92 then some c else none
inductive SR where
 | ok (said:List UInt8) (e:Nat)
 | bad (p:Nat)
def UE (s:Ou)(i:Nat)(said:List UInt8):SR:=
 if i<s.size then
  if bt s i=39 then .ok said (i+1)
  else if bt s i=10 then .bad i
  else if bt s i=92 then
   if i+1<s.size then
    match esc (bt s (i+1)) with
    | some m=>UE s (i+2) (said++[m])
    | none=>.bad (i+1)
   else .bad (i+1)
  else UE s (i+1) (said++[bt s i])
 else .bad s.size
termination_by s.size - i
def rdStr (s:Ou)(k:Nat):Rd:=
 match UE s (k+1) [] with
 | .ok said e=>if 500<said.length then .bad 4 k else .tok 4 (ofBytes said) 0 e
 | .bad p=>.bad 3 p
section
variable (s:Ou) (i:Nat) (said:List UInt8)
include s i said
def acr (h:¬ i<s.size):UE s i said=.bad s.size:=by rw[UE,if_neg h]
def Xt (h:i<s.size)(ai:bt s i=39):UE s i said=.ok said (i+1):=by rw[UE,if_pos h,if_pos ai]
def aff (h:i<s.size)(ai:bt s i=10):UE s i said=.bad i:=by rw[UE,if_pos h,if_neg (by rw[ai];decide),if_pos ai]
def ZJ (m:UInt8)(h:i<s.size)(ai:bt s i=92)(h1:i+1<s.size)(aR:esc (bt s (i+1))=some m):UE s i said=UE s (i+2) (said++[m]):=by
 conv=>lhs;rw[UE]
 rw[if_pos h,if_neg (by rw[ai];decide),if_neg (by rw[ai];decide),if_pos ai,if_pos h1,aR]
def U9 (h:i<s.size)(ai:bt s i=92)(aR:i+1<s.size->esc (bt s (i+1))=none):UE s i said=.bad (i+1):=by
 rw[UE,if_pos h,if_neg (by rw[ai];decide),if_neg (by rw[ai];decide),if_pos ai]
 by_cases h1:i+1<s.size
 ·rw[if_pos h1,aR h1]
 ·rw[if_neg h1]
def Xu (h:i<s.size)(h1:bt s i≠39)(U:bt s i≠10)(av:bt s i≠92):UE s i said=UE s (i+1) (said++[bt s i]):=by
 conv=>lhs;rw[UE]
 rw[if_pos h,if_neg h1,if_neg U,if_neg av]
end
def Xz (b c:UInt8):(((b.toNat:Nat):Int)==((c.toNat:Nat):Int))=decide (b=c):=by
 by_cases h:b=c
 ·subst h;simp
 ·have:b.toNat≠c.toNat:=fun e=>h (UInt8.toNat_inj.1 e);simp[h];omega
def ayF (o:Option UInt8):Ot:=match o with|some m=>.tuple #[.int .u8 (m.toNat:Int),Om true] | none=>.tuple #[.int .u8 0,Om false]
def ahM (s:Ou)(i:Nat)(w:Og)(h:s.size<=i) :
  Oq 217 #[Oj s,NY (i:Int)] w fun e w'=>e=OA (.tuple #[.int .u8 0,Om false])/\w'=w:=by
 go_enter func217,ntmps217
 go_wp2
 go_ret2
 exact⟨rfl,rfl⟩
def acG (s:Ou)(i:Nat)(w:Og)(h:i<s.size) :
  Oq 217 #[Oj s,NY (i:Int)] w fun e w'=>e=OA (ayF (esc (bt s i)))/\w'=w:=by
 rw[alg s i h];have⟨b,A⟩:=xE (s[i]);have dn:=Xz b 110;have b2:=Xz b 39;have em:=Xz b 92;rw[<-A]
 by_cases h1:b=110
 ·have e:esc b=some 10:=by simp[esc,h1]
  have c1:(((s[i].toNat:Nat):Int)==110)=true:=by rw[<-A,h1];rfl
  rw[e];clear dn b2 em A h1;go_enter func217,ntmps217
  go_wp2
  go_ret2
  exact⟨rfl,rfl⟩
 ·have c1:(((s[i].toNat:Nat):Int)==110)=false:=by rw[<-A];simpa[h1] using dn
  by_cases U:b=39
  ·have e:esc b=some 39:=by simp[esc,U]
   have c2:(((s[i].toNat:Nat):Int)==39)=true:=by rw[<-A,U];rfl
   have am:((s[i].toNat:Nat):Int)=39:=by rw[<-A,U];rfl
   exact aDU
  ·have c2:(((s[i].toNat:Nat):Int)==39)=false:=by rw[<-A];simpa[U] using b2
   by_cases av:b=92
   ·have e:esc b=some 92:=by simp[esc,av]
    have c3:(((s[i].toNat:Nat):Int)==92)=true:=by rw[<-A,av];rfl
    have am:((s[i].toNat:Nat):Int)=92:=by rw[<-A,av];rfl
    exact aDU
   ·have e:esc b=none:=by simp[esc,h1,U,av]
    have c3:(((s[i].toNat:Nat):Int)==92)=false:=by rw[<-A];simpa[av] using em
    rw[e];clear dn b2 em A h1 U;go_enter func217,ntmps217
    go_wp2
    go_ret2
    exact⟨rfl,rfl⟩
def cellsOf (l:List UInt8):List Ot:=l.map (fun b=>Value.int .u8 (b.toNat:Int))
def am4 {w:Og}{base:Nat}{v:Ot}{n:Nat}{xs:List Ot}(h:w.ownsRow base 5 1 v n xs):∃ a cap,v=.slice a n cap:=by
 obtain⟨_,⟨rfl,rfl⟩|⟨g,cap,ck,rfl,_⟩⟩:=h
 all_goals
  exact⟨_,_,rfl⟩
def aqJ {w:Og}{base:Nat}{v:Ot}(l:List UInt8)(h:w.ownsRow base 5 1 v l.length (cellsOf l)):(convert 42 9 v).run prog w=.ok (Oj (ofBytes l)) w:=by
 obtain⟨hl,⟨rfl,h0⟩|⟨g,cap,ck,rfl,A,hh,ax,aR,ab,aZ⟩⟩:=h
 ·have:l=[]:=List.length_eq_zero_iff.1 h0;subst this;exact run_convert_bytes_nil w 42 5 underlying42 underlying5 0 0 9 underlying9
 ·refine run_convert_bytes_back w 42 9 5 (N9 g 0) cap l underlying42 underlying5 underlying9 ?_;intro j aS;have h1:(cellsOf l)[j]? = some (.int .u8 (l[j].toNat:Int)):=by unfold cellsOf;rw[List.getElem?_map,List.getElem?_eq_getElem aS];rfl
  rw[<-aZ,List.getElem?_take_of_lt Oe] at h1;have U:ck[j]? = some (.int .u8 (l[j].toNat:Int)):=by simpa using h1
  have e:(Addr.add (N9 g 0) j)=(N9 g j):=by simp[Addr.add];intro h;exact h.symm
  rw[e];simp only[World.cell?,hh];simpa using U
def info5:(prog.info? 5).map (fun i=>(i.zero,i.size,i.bytes))=some (some (.int .u8 0),1,1):=by kernel_rfl
def ajP (l:List UInt8)(b:UInt8):cellsOf (l++[b])=cellsOf l++[.int .u8 (b.toNat:Int)]:=by simp[cellsOf]
def alf {w wr w1:Og}{v v':Ot}{said:List UInt8}{b:UInt8}(o:Obj)(a1:Below (w.heap.size+1) (w.alloc O35) wr)(da:w.heap.size+1<=wr.heap.size)
  (hown:wr.ownsRow (w.heap.size+1) 5 1 v said.length (cellsOf said))
  (hown':w1.ownsRow (w.heap.size+1) 5 1 v' (said.length+1) (cellsOf said++[.int .u8 (b.toNat:Int)])) (hg:(wr.alloc o).grownBy w1 v.ownBlock) :
  w1.ownsRow (w.heap.size+1) 5 1 v' (said++[b]).length (cellsOf (said++[b]))/\Below (w.heap.size+1) (w.alloc O35) w1/\w.heap.size+1<=w1.heap.size:=by
 have aE:Below (w.heap.size+1) (w.alloc O35) (wr.alloc o):=a1.alloc da o;have kk:Below (w.heap.size+1) (w.alloc O35) w1:=aE.grown hg QY (fun k E=>by
  obtain⟨_,⟨rfl,_⟩|⟨g,cap,ck,rfl,pM,_⟩⟩:=hown
  ·simp[Value.ownBlock] at E
  ·simp[Value.ownBlock] at E;omega)
 refine⟨by rw[ajP,List.length_append];exact hown',kk,?_⟩
 have:=kk.size;simp at this;omega
def aaI (s:Ou)(k:Nat)(w:Og)(ab:s.size<=3000)(E:k<s.size) :
  Oq 144 #[Oj s,NY (k:Int)] w (Uf k (rdStr s k) w):=by
 have⟨i0,az,dw,b8,cn⟩:=info_parts info5;obtain⟨r,aa⟩:∃ r,UE s (k+1) []=r:=⟨_,rfl⟩;have dy:=hide aa;obtain⟨q,ag⟩:∃ q,rdStr s k=q:=⟨_,rfl⟩;have bj:=hide ag;rw[ag];clear aa ag;go_enter func144,ntmps144
 go_wp2
 go_loopw [7,8,9,10,11] (fun v i _ _ _ wr=>∃ (j:Nat) (said:List UInt8),j<=s.size/\said.length<=j/\i=NY j/\UE s j said=r/\wr.ownsRow (w.heap.size+1) 5 1 v said.length (cellsOf said)/\Below (w.heap.size+1) (w.alloc O35) wr/\w.heap.size+1<=wr.heap.size) (fun _ i _ _ _ _=>s.size - (intOf i).toNat)
 case atStart=>exact⟨k+1,[],by omega,by simp,by go_num,dy.out,World.ownsRow_nil _ _ _ _,QI,by simp⟩
 case round=>
  obtain⟨j,said,aS,Bc,rfl,ao,hown,a1,da⟩:=hrel;have dB:=hide ao;have HOWN:=hown;clear ao
  by_cases aM:j<s.size
  ·have e1:=alg s j aM;obtain⟨a,cap,rfl⟩:=am4 hown;have dn:=Xz s[j] 39;have b2:=Xz s[j] 10;have em:=Xz s[j] 92
   by_cases c1:s[j]=39
   ·
    have kG:(((s[j].toNat:Nat):Int)==39)=true:=by rw[c1];rfl
    have bC:r=.ok said (j+1):=by rw[<-dB.out,Xt s j said aM (by rw[e1];exact c1)]
    clear dn b2 em c1 e1
    by_cases Df:500<said.length
    ·have eX:q=.bad 4 k:=by rw[<-bj.out];unfold rdStr;rw[dy.out,bC];simp[Df]
     clear bC;subst eX;exact ap2
    ·have eX:q=.tok 4 (ofBytes said) 0 (j+1):=by rw[<-bj.out];unfold rdStr;rw[dy.out,bC];simp[Df]
     clear bC;subst eX;have cj:=aqJ said HOWN;have wc:Below (w.alloc O35).heap.size (w.alloc O35) wr:=by simpa using a1
     have⟨ai,aF⟩:=ZK wc;have yL:=wc;go_wp2_with fail;exact afb (v:=.tuple #[.agg #[NY 4,Oj (ofBytes said),NY 0,NY (k:Int)],NY ((j:Int)+1),Qd]) ⟨by simp,Yj yL _ _ _ _⟩
   ·have kG:(((s[j].toNat:Nat):Int)==39)=false:=by rw[show (39:Int)=(((39:UInt8).toNat:Nat):Int) from rfl,dn];simp[c1]
    by_cases c2:s[j]=10
    ·
     have t2:(((s[j].toNat:Nat):Int)==10)=true:=by rw[c2];rfl
     have bC:r=.bad j:=by rw[<-dB.out,aff s j said aM (by rw[e1];exact c2)]
     have eX:q=.bad 3 j:=by rw[<-bj.out];unfold rdStr;rw[dy.out,bC]
     clear dn b2 em c1 c2 e1 bC;subst eX;exact ap2
    ·have t2:(((s[j].toNat:Nat):Int)==10)=false:=by rw[show (10:Int)=(((10:UInt8).toNat:Nat):Int) from rfl,b2];simp[c2]
     by_cases c3:s[j]=92
     ·
      have t3:(((s[j].toNat:Nat):Int)==92)=true:=by rw[c3];rfl
      by_cases hlt2:j+1<s.size
      ·
       cases aR:esc (bt s (j+1)) with
       | none=>
        have bC:r=.bad (j+1):=by rw[<-dB.out,U9 s j said aM (by rw[e1];exact c3) (fun _=>aR)]
        have eX:q=.bad 3 (j+1):=by rw[<-bj.out];unfold rdStr;rw[dy.out,bC]
        have hT:=hide aR;clear dn b2 em c1 c2 c3 e1 bC aR;subst eX;go_wp2_with fail;have sW:=acG s (j+1) wr hlt2;rw[hT.out] at sW;refine cm sW ?_;rintro d4 aq ⟨rfl,rfl⟩;simp only[ayF];exact ap2
       | some m=>
        have bC:UE s (j+2) (said++[m])=r:=by rw[<-dB.out,ZJ s j said m aM (by rw[e1];exact c3) hlt2 aR]
        have ha:=hide bC;have hT:=hide aR;clear dn b2 em c1 c2 c3 e1 bC aR;go_wp2_with fail;have sW:=acG s (j+1) wr hlt2;rw[hT.out] at sW;refine cm sW ?_;rintro d4 aq ⟨rfl,rfl⟩;simp only[ayF]
        go_wp2_with (at_builtin;refine wpList_append_own _ rfl _ _ 42 rfl (w.heap.size+1) 5 i0 (.int .u8 0) 1 1 underlying42 az dw b8 cn rfl Ol _ _ _ rfl (HOWN.alloc _) (N9 aq.heap.size 0) 1 1 [.int .u8 (m.toNat:Int)] rfl rfl ?c1 ?c2 ?c3 ?c4 ?c5 ?_)
        case c1=>
         intro j u aS
         match j,aS with
         | 0,aS=>simp at aS;subst aS;simp[Addr.add]
        case c2=>intro u aQ;simp at aQ;subst aQ;rfl
        case c3=>unfold maxLen;omega
        case c4=>omega
        case c5=>simp;omega
        intro v' w1 hown' hgrow _;have R:=alf (b:=m) _ a1 da HOWN hown' hgrow;have bV:=hide R;clear R
        go_wp2
        go_roundw
        case rel=>exact⟨j+2,said++[m],by omega,by simp;omega,by go_num,ha.out,bV.out.1,bV.out.2.1,bV.out.2.2⟩
        case measure=>simp[intOf];omega
      ·have bC:r=.bad (j+1):=by rw[<-dB.out,U9 s j said aM (by rw[e1];exact c3) (fun h=>absurd h hlt2)]
       have eX:q=.bad 3 (j+1):=by rw[<-bj.out];unfold rdStr;rw[dy.out,bC]
       clear dn b2 em c1 c2 c3 e1 bC;subst eX;go_wp2_with fail;have sW:=ahM s (j+1) wr Oe;refine cm sW ?_;rintro d4 aq ⟨rfl,rfl⟩;exact ap2
     ·
      have t3:(((s[j].toNat:Nat):Int)==92)=false:=by rw[show (92:Int)=(((92:UInt8).toNat:Nat):Int) from rfl,em];simp[c3]
      have bC:UE s (j+1) (said++[s[j]])=r:=by rw[<-dB.out,Xu s j said aM (by rw[e1];exact c1) (by rw[e1];exact c2) (by rw[e1];exact c3),e1]
      have ha:=hide bC;clear dn b2 em c1 c2 c3 e1 bC
      go_wp2_with (at_builtin;refine wpList_append_own _ rfl _ _ 42 rfl (w.heap.size+1) 5 i0 (.int .u8 0) 1 1 underlying42 az dw b8 cn rfl Ol _ _ _ rfl (HOWN.alloc _) (N9 wr.heap.size 0) 1 1 [.int .u8 (s[j].toNat:Int)] rfl rfl ?c1 ?c2 ?c3 ?c4 ?c5 ?_)
      case c1=>
       intro j u aS
       match j,aS with
       | 0,aS=>simp at aS;subst aS;simp[Addr.add]
      case c2=>intro u aQ;simp at aQ;subst aQ;rfl
      case c3=>unfold maxLen;omega
      case c4=>omega
      case c5=>simp;omega
      intro v' w1 hown' hgrow _;have R:=alf (b:=s[j]) _ a1 da HOWN hown' hgrow;have bV:=hide R;clear R
      go_wp2
      go_roundw
      case rel=>exact⟨j+1,said++[s[j]],by omega,by simp;omega,by go_num,ha.out,bV.out.1,bV.out.2.1,bV.out.2.2⟩
      case measure=>simp[intOf];omega
  ·have bC:r=.bad s.size:=by rw[<-dB.out,acr s j said aM]
   have eX:q=.bad 3 s.size:=by rw[<-bj.out];unfold rdStr;rw[dy.out,bC]
   clear bC;subst eX;exact ap2
namespace Hp
def Qj {w:Og}{base:Nat}{e:TypeId}{size:Nat}{v:Ot}{n:Nat}{xs:List Ot}(h:w.ownsRow base e size v n xs):v=Qv/\n=0\/∃ g cap,v=.slice (some (N9 g 0)) n cap:=by
 rcases h.2 with h|⟨g,cap,_,h,_⟩
 ·exact .inl h
 ·exact .inr ⟨g,cap,h⟩
def cell_below {w wr:Og}{B:Nat}(h:Below B w wr){a:Addr}(A:a.block<B):wr.cell? a=w.cell? a:=World.cell?_of_block (h.block a.block A)
def grown_of {w w':Og}(A:Oo w w'):w.grownBy w' none:=⟨A.os,A.tape,A.output,A.size,fun k E _=>A.block k E⟩
def OI {w w':Og}{base:Nat}{e:TypeId}{size:Nat}{v:Ot}{n:Nat}{xs:List Ot}(h:w.ownsRow base e size v n xs)(A:Oo w w'):w'.ownsRow base e size v n xs:=
 h.kept (grown_of A) (by cases v.ownBlock <;> simp)
def PW {w:Og}{base:Nat}{e:TypeId}{size:Nat}{v:Ot}{n:Nat}{xs:List Ot}(h:w.ownsRow base e size v n xs){k:Nat}(E:v.ownBlock=some k):∃ ck,w.heap[k]? = some (OM ck e):=by
 rcases h.2 with ⟨rfl,_⟩|⟨g,cap,ck,rfl,_,hg,_⟩
 ·simp[Value.ownBlock] at E
 ·simp[Value.ownBlock] at E;subst E;exact⟨ck,hg⟩
def QA {w:Og}{j k:Nat}{c eT:Array Ot}{e ht:TypeId}{bB jm:Nat × Nat}(h:w.heap[j]? = some (.cells c e bB))(fb:w.heap[k]? = some (.cells eT ht jm))(cC:e≠ht):j≠k:=by
 rintro rfl;rw[h] at fb;simp at fb;exact cC fb.2.1
structure O8 (T:List TypeId)(B:Nat)(w w':Og):Prop where
 below:Below B w w'
 rest:∀ (b:Nat) c (e:TypeId),w.heap[b]? = some (OM c e)->e ∉ T->w'.heap[b]? = some (OM c e)
def O8.of {T:List TypeId}{B:Nat}{w w':Og}(A:Oo w w')(a1:B<=w.heap.size):O8 T B w w':=
 ⟨A.mono a1,fun b _ _ h _=>(A.block b (lt_of_block h)).trans h⟩
def O8.trans {T:List TypeId}{B:Nat}{a b c:Og}(h:O8 T B a b)(k:O8 T B b c):O8 T B a c:=⟨h.below.trans k.below,fun x y e bB q=>k.rest x y e (h.rest x y e bB q) q⟩
def O8.mono {T CS:List TypeId}{B B':Nat}{w w':Og}(h:O8 T B w w')(dZ:∀ e ∈ T,e ∈ CS)(a1:B'<=B):O8 CS B' w w':=⟨h.below.mono a1,fun b c e A ao=>h.rest b c e A fun q=>ao (dZ e q)⟩
section
variable {T:List TypeId}
include T
def O8.grown {B:Nat}{w w':Og}{row:Option Nat}(hg:w.grownBy w' row)(a1:B<=w.heap.size)(h:∀ k,row=some k->B<=k/\∃ c e,w.heap[k]? = some (OM c e)/\e ∈ T):O8 T B w w':=by
 refine⟨⟨hg.os,hg.tape,hg.output,hg.size,fun k E=>?_⟩,fun b _ ht A ao=>?_⟩
 ·exact hg.block k (Nat.lt_of_lt_of_le E a1) (fun e=>by have:=(h k e.symm).1;omega)
 ·refine(hg.block b (lt_of_block A) (fun e=>?_)).trans A;have⟨_,eT,Lk,h1,U⟩:=h b e.symm;exact QA h1 A (by rintro rfl;exact ao U) rfl
def O8.setCell {B:Nat}{w w':Og}(h:O8 T B w w'){g j:Nat}{c:Array Ot}{e:TypeId}(hg:w'.heap[g]? = some (OM c e))(ao:e ∈ T)(a1:B<=g)(u:Ot):O8 T B w (w'.setCell (N9 g j) u):=by
 refine⟨h.below.setCell (p:=(N9 g j)) a1 _,fun b d ht A un=>?_⟩;have h1:=h.rest b d ht A un;rw[heap_setCell_other _ _ _ _ (by exact(QA hg h1 (by rintro rfl;exact un ao)).symm)]
 exact h1
def OH {B B':Nat}{w w':Og}{e:TypeId}{size:Nat}{v:Ot}{n:Nat}{xs:List Ot}(h:w.ownsRow B e size v n xs)(f:O8 T B' w w')(ao:e ∉ T):w'.ownsRow B e size v n xs:=by
 refine⟨h.1,?_⟩
 rcases h.2 with ax|⟨g,cap,ck,am,A,hg,rest⟩
 ·exact Or.inl ax
 ·exact Or.inr ⟨g,cap,ck,am,A,f.rest g ck e hg ao,rest⟩
end
structure El where
 hd:List Ot
 n:Nat
 xs:List Ot
def flat:List El->List Ot->List Ot
 | e::es,v::vs=>e.hd++v::flat es vs
 | _,_=>[]
def flat_get {so:Nat}:∀ (es:List El) (vs:List Ot) (i j:Nat) (e:El) (v:Ot),(∀ e ∈ es,e.hd.length+1=so)->es[i]? = some e->vs[i]? = some v->j<so->(flat es vs)[i * so+j]? =(e.hd++[v])[j]?
 | [],_,i,j,e,v,_,h,_,_=>by simp at h
 | _::_,[],i,j,e,v,_,_,h,_=>by simp at h
 | a::es,b::vs,0,j,e,v,hl,h,fb,aS=>by
  simp at h fb;subst h fb;have:=hl a OW
  show (a.hd++b::flat es vs)[0 * so+j]? = _
  rw[Nat.zero_mul,Nat.zero_add,show a.hd++b::flat es vs=(a.hd++[b])++flat es vs by simp,List.getElem?_append_left QY]
 | a::es,b::vs,i+1,j,e,v,hl,h,fb,aS=>by
  have aa:=flat_get es vs i j e v (fun x ac=>hl x (by simp[ac])) (by simpa using h) (by simpa using fb) aS;have:=hl a OW
  show (a.hd++b::flat es vs)[(i+1) * so+j]? = _
  rw[show a.hd++b::flat es vs=(a.hd++[b])++flat es vs by simp,show (i+1) * so+j=(a.hd++[b]).length+(i * so+j) by simp[Nat.add_mul];omega,List.getElem?_append_right Oe,Nat.add_sub_cancel_left]
  exact aa
def agr:∀ (es vP:List El) (vs xg:List Ot),vs.length=es.length->flat (es++vP) (vs++xg)=flat es vs++flat vP xg
 | [],vP,[],xg,_=>by simp[flat]
 | [],_,_::_,_,h=>by simp at h
 | _::_,_,[],_,h=>by simp at h
 | a::es,vP,b::vs,xg,h=>by
  have:=agr es vP vs xg (by simpa using h);simp[flat,this]
def abD {so:Nat}:∀ (es:List El) (vs:List Ot) (i:Nat) (e ht:El) (v:Ot),(∀ e ∈ es,e.hd.length+1=so)->vs.length=es.length->es[i]? = some e->ht.hd=e.hd->flat (es.set i ht) (vs.set i v)=(flat es vs).set (i * so+(so - 1)) v
 | [],_,i,e,ht,v,_,_,h,_=>by simp at h
 | _::_,[],i,e,ht,v,_,h,_,_=>by simp at h
 | a::es,b::vs,0,e,ht,v,hl,_,h,aO=>by
  simp at h;subst h;have:=hl a OW
  show ht.hd++v::flat es vs=(a.hd++b::flat es vs).set (0 * so+(so - 1)) v
  rw[aO,Nat.zero_mul,Nat.zero_add,List.set_append_right _ _ Oe,show so - 1 - a.hd.length=0 by omega];rfl
 | a::es,b::vs,i+1,e,ht,v,hl,hlen,h,aO=>by
  have aa:=abD es vs i e ht v (fun x ac=>hl x (by simp[ac])) (by simpa using hlen) (by simpa using h) aO;have:=hl a OW
  show a.hd++b::flat (es.set i ht) (vs.set i v)=(a.hd++b::flat es vs).set ((i+1) * so+(so - 1)) v
  rw[aa,show (i+1) * so+(so - 1)=a.hd.length+((i * so+(so - 1))+1) by simp[Nat.add_mul];omega,List.set_append_right _ _ Oe,Nat.add_sub_cancel_left]
  rfl
structure Tb (B:Nat)(jt:TypeId)(so:Nat)(hW:TypeId)(kE:Nat)(w:Og)(tv:Ot)(es:List El)(vs:List Ot):Prop where
 row:w.ownsRow B jt so tv es.length (flat es vs)
 len:vs.length=es.length
 hl:∀ e ∈ es,e.hd.length+1=so
 own:∀ (i:Nat) e v,es[i]? = some e->vs[i]? = some v->w.ownsRow B hW kE v e.n e.xs
 apart:∀ (i j:Nat) a b g,vs[i]? = some a->vs[j]? = some b->a.ownBlock=some g->b.ownBlock=some g->i=j
 ne:jt≠hW
section
variable {B:Nat} {jt:TypeId} {so:Nat} {hW:TypeId} {kE:Nat} {w w':Og} {tv:Ot} {es:List El} {vs:List Ot}
def Tb.nil (cC:jt≠hW):Tb B jt so hW kE w Qv [] []:=
 ⟨World.ownsRow_nil _ _ _ _,rfl,fun e h=>by simp at h,fun i s v h=>by simp at h,fun i j a b g h=>by simp at h,cC⟩
def Tb.later (h:Tb B jt so hW kE w tv es vs)(A:Oo w w'):Tb B jt so hW kE w' tv es vs:=
 ⟨OI h.row A,h.len,h.hl,fun i s v a b=>OI (h.own i s v a b) A,h.apart,h.ne⟩
def Tb.keep {T:List TypeId}{B':Nat}(h:Tb B jt so hW kE w tv es vs)(f:O8 T B' w w')(h1:jt ∉ T)(U:hW ∉ T):Tb B jt so hW kE w' tv es vs:=
 ⟨OH h.row f h1,h.len,h.hl,fun i s v a b=>OH (h.own i s v a b) f U,h.apart,h.ne⟩
section
variable (h:Tb B jt so hW kE w tv es vs) {i:Nat}
include h i
def Tb.at_ {e:El}(az:es[i]? = some e) :
  ∃ g cap v,tv=.slice (some (N9 g 0)) es.length cap/\i<es.length/\vs[i]? = some v/\(∀ j u,(e.hd++[v])[j]? = some u->w.cell? (N9 g (i * so+j))=some u)/\w.ownsRow B hW kE v e.n e.xs/\g<w.heap.size/\B<=g/\(∀ j,w.frozen? (N9 g j)=false)/\e.hd.length+1=so:=by
 have aM:i<es.length:=(List.getElem?_eq_some_iff.1 az).1;obtain⟨v,am⟩:∃ v,vs[i]? = some v:=⟨_,List.getElem?_eq_getElem (by rw[h.len];exact aM)⟩
 have wj:=h.hl e (List.mem_of_getElem? az)
 rcases Qj h.row with ⟨_,ax⟩|⟨g,cap,rfl⟩
 ·omega
 ·refine⟨g,cap,v,rfl,aM,am,fun j u aS=>?_,h.own i e v az am,(h.row.lt g rfl).2,(h.row.lt g rfl).1,h.row.frozenAt,wj⟩;have IF:j<so:=by
   have:=(List.getElem?_eq_some_iff.1 aS).1;simp at this;omega
  have aR:i * so+j<es.length * so:=by
   have h1:(i+1) * so<=es.length * so:=Nat.mul_le_mul_right _ aM;rw[Nat.add_mul] at h1;omega
  rw[h.row.cellAt _ aR,flat_get es vs i j e v h.hl az am IF];exact aS
def Tb.nes {v:Ot}(am:vs[i]? = some v):∃ s,es[i]? = some s/\(∀ k,v.ownBlock=some k->B<=k/\k<w.heap.size/\tv.ownBlock≠some k/\∃ c,w.heap[k]? = some (OM c hW)):=by
 have hl:i<es.length:=by
  have:=(List.getElem?_eq_some_iff.1 am).1;rw[h.len] at this;exact this
 refine⟨es[i],List.getElem?_eq_getElem hl,fun k E=>?_⟩;have aa:=h.own i es[i] v (List.getElem?_eq_getElem hl) am;have⟨c,ai⟩:=PW aa E;have h1:=(aa.lt k E);refine⟨h1.1,h1.2,fun e=>?_,c,ai⟩;have⟨eT,sS⟩:=PW h.row e;exact QA ai sS (fun q=>h.ne q.symm) rfl
end
def mem_set {es:List El}{i:Nat}{ht x:El}(h:x ∈ es.set i ht):x=ht\/x ∈ es:=(List.mem_or_eq_of_mem_set h).symm
def Tb.bump {w1:Og}(h:Tb B jt so hW kE w tv es vs)(a1:B<=w.heap.size){i:Nat}{e:El}{v:Ot}(az:es[i]? = some e)(am:vs[i]? = some v)
  (dd:w.grownBy w1 v.ownBlock) {n9:Nat} {tl:List Ot} (hown:w1.ownsRow B hW kE v n9 tl):Tb B jt so hW kE w1 tv (es.set i ⟨e.hd,n9,tl⟩) vs/\O8 [hW] B w w1:=by
 have⟨jA,_,cC⟩:=h.nes am;have Jx:vs.set i v=vs:=by
  obtain⟨ac,rfl⟩:=List.getElem?_eq_some_iff.1 am;exact List.set_getElem_self ac
 have wj:=h.hl e (List.mem_of_getElem? az);refine⟨⟨?_,by simpa using h.len,?_,?_,h.apart,h.ne⟩,O8.grown dd a1 fun k E=>⟨(cC k E).1,(cC k E).2.2.2.choose,hW,(cC k E).2.2.2.choose_spec,by simp⟩⟩
 ·have E:=h.row.kept dd (by
   cases ab:tv.ownBlock with
   | none=>exact .inl rfl
   | some q=>exact .inr fun e=>(cC q e.symm).2.2.1 ab)
  have aw:=abD es vs i e ⟨e.hd,n9,tl⟩ v h.hl h.len az rfl;rw[Jx] at aw;have bi:=flat_get es vs i (so - 1) e v h.hl az am Oe;rw[List.getElem?_append_right Oe,show so - 1 - e.hd.length=0 by omega] at bi;rw[List.length_set,aw];rw[show (flat es vs).set (i * so+(so - 1)) v=flat es vs by
   obtain⟨ac,hy⟩:=List.getElem?_eq_some_iff.1 (bi.trans rfl);rw[<-hy];exact List.set_getElem_self ac]
  exact E
 ·intro x ac
  rcases mem_set ac with rfl|ac
  ·exact wj
  ·exact h.hl x ac
 ·intro j eh v' aS hL
  by_cases iE:i=j
  ·subst iE;rw[am] at hL
   cases hL
   have:i<es.length:=(List.getElem?_eq_some_iff.1 az).1;simp[List.getElem?_set_self this] at aS;subst aS;exact hown
  ·rw[List.getElem?_set_ne iE] at aS;refine(h.own j eh v' aS hL).kept dd ?_
   cases ag:v'.ownBlock with
   | none=>exact .inl rfl
   | some q=>exact .inr fun e=>iE (h.apart i j v v' q am hL e.symm ag)
def Tb.put {w1:Og}{g cap:Nat}(h:Tb B jt so hW kE w (.slice (some (N9 g 0)) es.length cap) es vs)(a1:B<=w.heap.size){i:Nat}{e:El}{v:Ot}(az:es[i]? = some e)(am:vs[i]? = some v)
  (dd:w.grownBy w1 v.ownBlock) {v':Ot} {n9:Nat} {tl:List Ot} (hown:w1.ownsRow B hW kE v' n9 tl) (iD:∀ q,v'.ownBlock=some q->v.ownBlock=some q\/w.heap.size<=q) :
  Tb B jt so hW kE (w1.setCell (N9 g (i * so+(so - 1))) v') (.slice (some (N9 g 0)) es.length cap) (es.set i ⟨e.hd,n9,tl⟩) (vs.set i v')/\O8 [jt,hW] B w (w1.setCell (N9 g (i * so+(so - 1))) v'):=by
 have⟨jA,_,cC⟩:=h.nes am;have dC:=h.row.lt g rfl;have⟨m6,ju⟩:=PW h.row (k:=g) rfl;have AC:v.ownBlock≠some g:=fun e=>(cC g e).2.2.1 rfl;have Ix:v'.ownBlock≠some g:=fun e=>by
  rcases iD g e with h1|h1
  ·exact AC h1
  ·omega
 have E:=h.row.kept dd (.inr (fun e=>AC e.symm));have⟨bC,j6⟩:=E.stored (i * so+(so - 1)) v';have⟨c1,fN⟩:=PW E (k:=g) rfl;have aw:=abD es vs i e ⟨e.hd,n9,tl⟩ v' h.hl h.len az rfl;have aM:i<es.length:=(List.getElem?_eq_some_iff.1 az).1;have wj:=h.hl e (List.mem_of_getElem? az);refine⟨⟨?_,by simpa using h.len,?_,?_,?_,h.ne⟩,?_⟩
 ·rw[List.length_set,aw];exact bC
 ·intro x ac
  rcases mem_set ac with rfl|ac
  ·exact wj
  ·exact h.hl x ac
 ·intro j eh u aS aQ
  by_cases iE:i=j
  ·subst iE;rw[List.getElem?_set_self (by rw[h.len];exact aM)] at aQ
   cases aQ;simp[List.getElem?_set_self aM] at aS;subst aS;exact ownsRow_setCell_other hown Ix _
  ·rw[List.getElem?_set_ne iE] at aS aQ;have II:w1.ownsRow B hW kE u eh.n eh.xs:=by
    refine(h.own j eh u aS aQ).kept dd ?_
    cases ag:u.ownBlock with
    | none=>exact .inl rfl
    | some q=>exact .inr fun e=>iE (h.apart i j v u q am aQ e.symm ag)
   have⟨_,_,wp⟩:=h.nes aQ;exact ownsRow_setCell_other II (fun e=>(wp g e).2.2.1 rfl) _
 ·have key:∀ (j:Nat) b q,j≠i->vs[j]? = some b->v'.ownBlock=some q->b.ownBlock=some q->False:=by
   intro j b q aS A h1 U
   rcases iD q h1 with av|aN
   ·exact aS (h.apart j i b v q A am U av)
   ·have⟨_,_,wp⟩:=h.nes A;have:=(wp q U).2.1;omega
  intro a b x y q ay A ac hy
  by_cases Aj:i=a
  ·subst Aj
   by_cases oO:i=b
   ·exact oO
   ·rw[List.getElem?_set_self (by rw[h.len];exact aM)] at ay
    cases ay;rw[List.getElem?_set_ne oO] at A;exact(key b y q (fun e=>oO e.symm) A ac hy).elim
  ·rw[List.getElem?_set_ne Aj] at ay
   by_cases oO:i=b
   ·subst oO;rw[List.getElem?_set_self (by rw[h.len];exact aM)] at A
    cases A;exact(key a x q (fun e=>Aj e.symm) ay hy ac).elim
   ·rw[List.getElem?_set_ne oO] at A;exact h.apart a b x y q ay A ac hy
 ·exact O8.setCell (O8.grown dd a1 fun k E=>⟨(cC k E).1,(cC k E).2.2.2.choose,hW,(cC k E).2.2.2.choose_spec,by simp⟩) fN OW dC.1 _
def Tb.push {w1:Og}{tv':Ot}(h:Tb B jt so hW kE w tv es vs)(a1:B<=w.heap.size)(hd:List Ot)(hh:hd.length+1=so)(dd:w.grownBy w1 tv.ownBlock)
  (hown:w1.ownsRow B jt so tv' (es.length+1) (flat es vs++(hd++[Qv]))) :
  Tb B jt so hW kE w1 tv' (es++[⟨hd,0,[]⟩]) (vs++[Qv])/\O8 [jt] B w w1:=by
 refine⟨⟨?_,by simp[h.len],?_,?_,?_,h.ne⟩,O8.grown dd a1 fun k E=>?_⟩
 ·rw[agr _ _ _ _ h.len,List.length_append];exact hown
 ·intro x ac
  rcases List.mem_append.1 ac with ac|ac
  ·exact h.hl x ac
  ·simp at ac;subst ac;exact hh
 ·intro j eh u aS aQ
  by_cases ni:j<es.length
  ·rw[List.getElem?_append_left ni] at aS;rw[List.getElem?_append_left (by rw[h.len];exact ni)] at aQ
   have⟨_,_,wp⟩:=h.nes aQ;refine(h.own j eh u aS aQ).kept dd ?_
   cases ag:u.ownBlock with
   | none=>exact .inl rfl
   | some q=>exact .inr fun e=>(wp q ag).2.2.1 e.symm
  ·have wl:=(List.getElem?_eq_some_iff.1 aS).1;simp at wl;have:j=es.length:=Oe;subst this;rw[List.getElem?_append_right Oe] at aS;rw[List.getElem?_append_right (by rw[h.len];omega)] at aQ
   simp[h.len] at aS aQ;subst aS aQ;exact World.ownsRow_nil _ _ _ _
 ·intro i j a b q ay A s3 nq;have key:∀ (i:Nat) (a:Ot),(vs++[Qv])[i]? = some a->a.ownBlock=some q->vs[i]? = some a:=by
   intro i a ay ag
   by_cases rt:i<vs.length
   ·rw[List.getElem?_append_left rt] at ay;exact ay
   ·rw[List.getElem?_append_right Oe] at ay;have kt:i - vs.length=0:=by
     have:=(List.getElem?_eq_some_iff.1 ay).1;simp at this;omega
    rw[kt] at ay;simp at ay;subst ay;simp[Value.ownBlock] at ag
  exact h.apart i j a b q (key i a ay s3) (key j b A nq) s3 nq
 ·have⟨c,ai⟩:=PW h.row E;exact⟨(h.row.lt k E).1,c,jt,ai,by simp⟩
structure Va where
 k:Int
 n:Int
 s:Ou
structure Pr where
 name:Ou
 v:Va
 fixed:Bool
structure Ce where
 name:Ou
 v:Va
 kind:Int
 ready:Bool
structure Ob where
 code:Int
 ps:List Pr
structure Ro where
 outer:Int
 object:Int
 cs:List Ce
structure Mo where
 objs:List Ob
 Ov:List Ro
def Pr.h (p:Pr):List Ot:=[Oj p.name,NY p.v.k,NY p.v.n,Oj p.v.s,Om p.fixed]
def Ce.h (c:Ce):List Ot:=[Oj c.name,NY c.v.k,NY c.v.n,Oj c.v.s,NY c.kind,Om c.ready]
def Ob.h (o:Ob):El:=⟨[NY o.code],o.ps.length,o.ps.flatMap Pr.h⟩
def Ro.h (r:Ro):El:=⟨[NY r.outer,NY r.object],r.cs.length,r.cs.flatMap Ce.h⟩
def YW (nm:Ou)(x:Ou):Bool:=x.toList==nm.toList
def fP (nm:Ou)(ps:List Pr):Option Nat:=ps.findIdx? fun p=>YW nm p.name
def fC (nm:Ou)(cs:List Ce):Option Nat:=cs.findIdx? fun c=>YW nm c.name
def Xk {α:Type}{f:α->List Ot}{s:Nat}(aF:∀ a,(f a).length=s):∀ (l:List α) (k j:Nat),j<s->(l.flatMap f)[k * s+j]? =(l[k]?).bind fun a=>(f a)[j]?
 | [],k,j,_=>by simp
 | a::l,0,j,aS=>by
  rw[List.flatMap_cons,Nat.zero_mul,Nat.zero_add,List.getElem?_append_left (by rw[aF];exact aS)]
  rfl
 | a::l,k+1,j,aS=>by
  have h:=Xk aF l k j aS;rw[List.flatMap_cons,show (k+1) * s+j=(f a).length+(k * s+j) by rw[aF,Nat.add_mul];omega,List.getElem?_append_right Oe,Nat.add_sub_cancel_left,h]
  rfl
def aog {α:Type}{f:α->List Ot}{s:Nat}(aF:∀ a,(f a).length=s)(l:List α):(l.flatMap f).length=l.length * s:=by
 induction l with
 | nil=>simp
 | cons a l bv=>rw[List.flatMap_cons,List.length_append,bv,aF,List.length_cons,Nat.add_mul];omega
structure HP (H:Nat)(R:List Ot)(w:Og)(M:Mo)(aA aB:Ot)(os b':List Ot):Prop where
 blk:w.heap[H]? = some (.cells (aA::aB::R).toArray 84 (0,0))
 ob:Tb H 185 2 207 5 w aA (M.objs.map Ob.h) os
 ro:Tb H 198 3 262 6 w aB (M.Ov.map Ro.h) b'
def Pz (H:Nat)(R:List Ot)(w:Og)(M:Mo):Prop:=∃ aA aB os b',HP H R w M aA aB os b'
def HP.later {H:Nat}{R:List Ot}{w w':Og}{M:Mo}{aA aB:Ot}{os b':List Ot}(h:HP H R w M aA aB os b')(A:Oo w w'):HP H R w' M aA aB os b':=
 ⟨(A.block H (lt_of_block h.blk)).trans h.blk,h.ob.later A,h.ro.later A⟩
def HP.c {H:Nat}{R:List Ot}{w:Og}{M:Mo}{aA aB:Ot}{os b':List Ot}(h:HP H R w M aA aB os b'):w.cell? (N9 H 0)=some aA/\w.cell? (N9 H 1)=some aB/\w.frozen? (N9 H 0)=false/\w.frozen? (N9 H 1)=false/\H<w.heap.size:=by
 refine⟨?_,?_,?_,?_,lt_of_block h.blk⟩
 ·simp[World.cell?,h.blk]
 ·simp[World.cell?,h.blk]
 all_goals
  simp[World.frozen?,h.blk]
def aaQ (s:Nat):Ot->Option Nat->Option Addr
 | .slice (some a) _ _,some k=>some (N9 a.block (k * s))
 | _,_=>none
def Yp (s:Nat)(v:Ot):aaQ s v none=none:=by cases v <;> simp[aaQ]
def Yo (v:Ot)(n:Nat)(am:v=Qv/\n=0\/∃ g cap,v=.slice (some (N9 g 0)) n cap)(i:Int)(az:i<0\/(n:Int)<=i)(w:Og) :
  Oq 126 #[v,NY i] w fun e w'=>e=OA QS/\w'=w:=by
 rcases am with ⟨rfl,rfl⟩|⟨g,cap,rfl⟩
 ·go_enter func126,ntmps126
  go_wp2
  all_goals go_ret
  all_goals exact⟨rfl,rfl⟩
 ·go_enter func126,ntmps126;exact asc
def abH (g cap n:Nat)(i:Nat)(az:i<n)(w:Og) :
  Oq 126 #[.slice (some (N9 g 0)) n cap,NY (i:Int)] w fun e w'=>e=OA (Oy g (i * 2))/\w'=w:=by
 go_enter func126,ntmps126;exact asc
def ase (b:Nat)(k:Nat)(s x:Ou)(bB:Nat)(w:Og)(h:w.cell? (N9 b k)=some (Oj x))(aH:w.cell? (N9 bB 0)=some (Oj s)) :
  Oq 206 #[Oy b k,Oy bB 0] w fun e w'=>e=OA (Om (x.toList==s.toList))/\w'=w.drew:=by
 go_enter func206,ntmps206
 go_wp2
 go_region_with fail
 all_goals go_wp2
 all_goals go_ret
 all_goals exact⟨rfl,rfl⟩
def aiB (v:Ot)(bs:List Pr)(base:Nat)(s:Ou)(bB:Nat)(w:Og)(hrow:w.ownsRow base 207 5 v bs.length (bs.flatMap Pr.h))(aR:bs.length<=1000000000)(aH:w.cell? (N9 bB 0)=some (Oj s)) :
  Oq 205 #[v,.func (.func 206) #[] #[Oy bB 0]] w fun e w'=>e=OA (.pointer (aaQ 5 v (fP s bs)))/\Oo w w':=by
 rcases Qj hrow with ⟨rfl,ax⟩|⟨g,cap,rfl⟩
 ·have:bs=[]:=List.length_eq_zero_iff.1 ax;subst this;clear ax aR;go_enter func205,ntmps205;exact aAz
 ·have aM:=(hrow.lt g rfl).2;have tS:=hide (World.block_lt_of_cell? w _ aH);have uX:Hid (∀ k b,bs[k]? = some b->w.cell? (N9 g (k * 5))=some (Oj b.name)):=fun k b A=>by
   have E:k<bs.length:=(List.getElem?_eq_some_iff.1 A).1;have h:=hrow.cellAt (k * 5+0) Oe;rw[Xk (s:=5) (fun _=>rfl) bs k 0 Ol,A] at h;simpa[Pr.h] using h
  have dY:=hide aH;have bW:=hide aM;clear aH aM;go_enter func205,ntmps205;go_wp2_with fail
  go_loopw [8] (fun i wr=>∃ k:Nat,k<=bs.length/\i=NY k/\(∀ j b,j<k->bs[j]? = some b->YW s b.name=false)/\Oo w wr) (fun i _=>bs.length - (intOf i).toNat)
  case atStart=>exact⟨0,Nat.zero_le _,rfl,fun j b aS=>absurd aS (Nat.not_lt_zero _),QI⟩
  case round=>
   obtain⟨k,E,rfl,gL,A⟩:=hrel;have m1:=hide gL;have bO:=A;clear gL A
   by_cases aM:k<bs.length
   ·obtain⟨b,hbk⟩:∃ b,bs[k]? = some b:=⟨_,List.getElem?_eq_getElem aM⟩;have h1:wr.cell? (N9 g (k * 5))=some (Oj b.name):=(cell_below bO (a:=(N9 g (k * 5))) bW.out).trans (uX.out k b hbk);have U:wr.cell? (N9 bB 0)=some (Oj s):=(cell_below bO (a:=(N9 bB 0)) tS.out).trans dY.out;have aj:=(ase g (k * 5) s b.name bB wr h1 U);have lI:=hide hbk;clear h1 U hbk
    cases ac:(b.name.toList==s.toList)
    ·exact aAA
    ·rw[ac] at aj;have dT:=hide ac;clear ac;have z:=N8 (∀{G}(h:G:=by
     go_ret;have aF:fP s bs=some k:=by
      rw[fP,List.findIdx?_eq_some_iff_getElem];exact aAB
     rw[aF];exact⟨rfl,bO.drew⟩),G);exact aer
   ·have kX:k=bs.length:=Oe;subst kX;go_wp2;go_ret;have aF:fP s bs=none:=by
     rw[fP,List.findIdx?_eq_none_iff];intro b A;obtain⟨j,aS,rfl⟩:=List.mem_iff_getElem.1 A;exact m1.out j _ aS (List.getElem?_eq_getElem aS)
    rw[aF];exact⟨rfl,bO⟩
def aop (s:Ou)(w:Og) :
  Oq 127 #[QS,Oj s] w fun e w'=>e=OA QS/\Oo w w':=by
 go_enter func127,ntmps127;go_wp2;go_ret;exact⟨rfl,PE⟩
def aev (g k:Nat)(v:Ot)(bs:List Pr)(base:Nat)(s:Ou)(w:Og)(h:w.cell? (N9 g (k+1))=some v)(hrow:w.ownsRow base 207 5 v bs.length (bs.flatMap Pr.h))(aR:bs.length<=1000000000) :
  Oq 127 #[Oy g k,Oj s] w fun e w'=>e=OA (.pointer (aaQ 5 v (fP s bs)))/\Oo w w':=by
 have hg:=World.block_lt_of_cell? w _ h;have iD:g<w.heap.size:=hg;have aj:=(aiB v bs base s w.heap.size (w.alloc (.cells #[Oj s] 9)) (hrow.alloc _) aR OW);have am:=Qj hrow;clear hg;go_enter func127,ntmps127;exact aAC
def Xm (v:Ot)(n:Nat)(am:v=Qv/\n=0\/∃ g cap,v=.slice (some (N9 g 0)) n cap)(i:Int)(az:i<0\/(n:Int)<=i)(w:Og) :
  Oq 122 #[v,NY i] w fun e w'=>e=OA QS/\w'=w:=by
 rcases am with ⟨rfl,rfl⟩|⟨g,cap,rfl⟩
 ·go_enter func122,ntmps122
  go_wp2
  all_goals go_ret
  all_goals exact⟨rfl,rfl⟩
 ·go_enter func122,ntmps122;exact asc
def Z9 (g cap n:Nat)(i:Nat)(az:i<n)(w:Og) :
  Oq 122 #[.slice (some (N9 g 0)) n cap,NY (i:Int)] w fun e w'=>e=OA (Oy g (i * 3))/\w'=w:=by
 go_enter func122,ntmps122;exact asc
def asf (b:Nat)(k:Nat)(s x:Ou)(bB:Nat)(w:Og)(h:w.cell? (N9 b k)=some (Oj x))(aH:w.cell? (N9 bB 0)=some (Oj s)) :
  Oq 204 #[Oy b k,Oy bB 0] w fun e w'=>e=OA (Om (x.toList==s.toList))/\w'=w.drew:=by
 go_enter func204,ntmps204
 go_wp2
 go_region_with fail
 all_goals go_wp2
 all_goals go_ret
 all_goals exact⟨rfl,rfl⟩
def aiC (v:Ot)(bs:List Ce)(base:Nat)(s:Ou)(bB:Nat)(w:Og)(hrow:w.ownsRow base 262 6 v bs.length (bs.flatMap Ce.h))(aR:bs.length<=1000000000)(aH:w.cell? (N9 bB 0)=some (Oj s)) :
  Oq 203 #[v,.func (.func 204) #[] #[Oy bB 0]] w fun e w'=>e=OA (.pointer (aaQ 6 v (fC s bs)))/\Oo w w':=by
 rcases Qj hrow with ⟨rfl,ax⟩|⟨g,cap,rfl⟩
 ·have:bs=[]:=List.length_eq_zero_iff.1 ax;subst this;clear ax aR;go_enter func203,ntmps203;exact aAz
 ·have aM:=(hrow.lt g rfl).2;have tS:=hide (World.block_lt_of_cell? w _ aH);have uX:Hid (∀ k b,bs[k]? = some b->w.cell? (N9 g (k * 6))=some (Oj b.name)):=fun k b A=>by
   have E:k<bs.length:=(List.getElem?_eq_some_iff.1 A).1;have h:=hrow.cellAt (k * 6+0) Oe;rw[Xk (s:=6) (fun _=>rfl) bs k 0 Ol,A] at h;simpa[Ce.h] using h
  have dY:=hide aH;have bW:=hide aM;clear aH aM;go_enter func203,ntmps203;go_wp2_with fail
  go_loopw [8] (fun i wr=>∃ k:Nat,k<=bs.length/\i=NY k/\(∀ j b,j<k->bs[j]? = some b->YW s b.name=false)/\Oo w wr) (fun i _=>bs.length - (intOf i).toNat)
  case atStart=>exact⟨0,Nat.zero_le _,rfl,fun j b aS=>absurd aS (Nat.not_lt_zero _),QI⟩
  case round=>
   obtain⟨k,E,rfl,gL,A⟩:=hrel;have m1:=hide gL;have bO:=A;clear gL A
   by_cases aM:k<bs.length
   ·obtain⟨b,hbk⟩:∃ b,bs[k]? = some b:=⟨_,List.getElem?_eq_getElem aM⟩;have h1:wr.cell? (N9 g (k * 6))=some (Oj b.name):=(cell_below bO (a:=(N9 g (k * 6))) bW.out).trans (uX.out k b hbk);have U:wr.cell? (N9 bB 0)=some (Oj s):=(cell_below bO (a:=(N9 bB 0)) tS.out).trans dY.out;have aj:=(asf g (k * 6) s b.name bB wr h1 U);have lI:=hide hbk;clear h1 U hbk
    cases ac:(b.name.toList==s.toList)
    ·exact aAA
    ·rw[ac] at aj;have dT:=hide ac;clear ac;have z:=N8 (∀{G}(h:G:=by
     go_ret;have aF:fC s bs=some k:=by
      rw[fC,List.findIdx?_eq_some_iff_getElem];exact aAB
     rw[aF];exact⟨rfl,bO.drew⟩),G);exact aer
   ·have kX:k=bs.length:=Oe;subst kX;go_wp2;go_ret;have aF:fC s bs=none:=by
     rw[fC,List.findIdx?_eq_none_iff];intro b A;obtain⟨j,aS,rfl⟩:=List.mem_iff_getElem.1 A;exact m1.out j _ aS (List.getElem?_eq_getElem aS)
    rw[aF];exact⟨rfl,bO⟩
def aoq (s:Ou)(w:Og) :
  Oq 123 #[QS,Oj s] w fun e w'=>e=OA QS/\Oo w w':=by
 go_enter func123,ntmps123;go_wp2;go_ret;exact⟨rfl,PE⟩
def aew (g k:Nat)(v:Ot)(bs:List Ce)(base:Nat)(s:Ou)(w:Og)(h:w.cell? (N9 g (k+2))=some v)(hrow:w.ownsRow base 262 6 v bs.length (bs.flatMap Ce.h))(aR:bs.length<=1000000000) :
  Oq 123 #[Oy g k,Oj s] w fun e w'=>e=OA (.pointer (aaQ 6 v (fC s bs)))/\Oo w w':=by
 have hg:=World.block_lt_of_cell? w _ h;have iD:g<w.heap.size:=hg;have aj:=(aiC v bs base s w.heap.size (w.alloc (.cells #[Oj s] 9)) (hrow.alloc _) aR OW);have am:=Qj hrow;clear hg;go_enter func123,ntmps123;exact aAC
def Mo.ob (M:Mo)(o:Int):Option Ob:=if o<0 then none else M.objs[o.toNat]?
def Mo.ro (M:Mo)(s:Int):Option Ro:=if s<0 then none else M.Ov[s.toNat]?
def Mo.prop (M:Mo)(o:Int)(nm:Ou):Option Pr:=(M.ob o).bind fun x=>x.ps.find? fun p=>YW nm p.name
def Mo.YI (M:Mo)(s:Int)(nm:Ou):Option Ce:=(M.ro s).bind fun x=>x.cs.find? fun c=>YW nm c.name
def Mo.QX (M:Mo)(s:Int):Int:=((M.ro s).map (·.object)).getD (-1)
def Mo.outOf (M:Mo)(s:Int):Int:=((M.ro s).map (·.outer)).getD (-1)
def Mo.codeOf (M:Mo)(s:Int):Int:=((M.ob s).map (·.code)).getD 0
def Mo.has (M:Mo)(s:Int)(nm:Ou):Bool:=(M.YI s nm).isSome||(M.prop (M.QX s) nm).isSome
def Mo.kindOf (M:Mo)(s:Int)(nm:Ou):Int:=((M.YI s nm).map (·.kind)).getD (-1)
structure Mo.Small (M:Mo)(k:Nat):Prop where
 o:M.objs.length<=k
 r:M.Ov.length<=k
 ps:∀ x ∈ M.objs,x.ps.length<=k
 cs:∀ x ∈ M.Ov,x.cs.length<=k
def vZ:Obj:=.cells #[NY 0,NY 0,Pm] 65
def aor:Ot:=.agg #[NY 0,NY 0,Pm]
def aos:Option Pr->Ot
 | none=>aor
 | some p=>.agg #[NY p.v.k,NY p.v.n,Oj p.v.s]
def hP (H:Nat):Ot:=Oy H 0
def YA {w w1:Og}{a b c:Ot}{t:TypeId}(A:Below (w.heap.size+1) (w.alloc (.cells #[a,b,c] t)) w1) :
  w1.cell? (N9 w.heap.size 0)=some a/\w1.cell? (N9 w.heap.size 1)=some b/\w1.cell? (N9 w.heap.size 2)=some c/\(∀ j,w1.frozen? (N9 w.heap.size j)=false)/\w.heap.size<w1.heap.size:=by
 have h:w1.heap[w.heap.size]? = some (OM #[a,b,c] t):=(A.block _ (Nat.lt_succ_self _)).trans (heap_alloc_new w _);refine⟨by simp[World.cell?,h],by simp[World.cell?,h],by simp[World.cell?,h],fun j=>by simp[World.frozen?,h],lt_of_block h⟩
def below3 {w gG:Og}{B b:Nat}(A:Below B w gG)(h:B<=b)(v0 v1 v2:Ot):Below B w (((gG.setCell (N9 b 0) v0).setCell (N9 b 1) v1).setCell (N9 b 2) v2):=
 ((A.setCell (p:=(N9 b 0)) h v0).setCell (p:=(N9 b 1)) h v1).setCell (p:=(N9 b 2)) h v2
def VN {α:Type}(p:α->Bool)(l:List α):(l.findIdx? p=none/\l.find? p=none)\/∃ k c,l.findIdx? p=some k/\l[k]? = some c/\l.find? p=some c/\p c=true:=by
 cases h:l.findIdx? p with
 | none=>
  left;refine⟨rfl,?_⟩;rw[List.findIdx?_eq_none_iff] at h;rw[List.find?_eq_none];intro x ac;simp[h x ac]
 | some k=>
  right;obtain⟨E,h1,U⟩:=List.findIdx?_eq_some_iff_getElem.1 h;refine⟨k,l[k],rfl,List.getElem?_eq_getElem E,?_,h1⟩;rw[List.find?_eq_some_iff_getElem];exact⟨h1,k,E,rfl,fun j aS=>by have:=U j aS;simpa using this⟩
def QG (M:Mo)(o:Int):(M.ob o=none/\(o<0\/(M.objs.length:Int)<=o))\/∃ (i:Nat) (x:Ob),o=i/\M.objs[i]? = some x/\M.ob o=some x:=by
 unfold Mo.ob
 by_cases h:o<0
 ·rw[if_pos h];exact .inl ⟨rfl,.inl h⟩
 ·rw[if_neg h]
  cases ac:M.objs[o.toNat]? with
  | none=>
   left;refine⟨rfl,.inr ?_⟩;have:=List.getElem?_eq_none_iff.1 ac;omega
  | some x=>exact .inr ⟨o.toNat,x,by omega,ac,rfl⟩
def aot (W:Og)(iA k:Nat)(c:Pr):Prop:=(∀ j u,c.h[j]? = some u->W.cell? (N9 iA (k * 5+j))=some u)/\iA<W.heap.size/\∀ j,W.frozen? (N9 iA j)=false
def atP {B:Nat}{w:Og}{v:Ot}{bs:List Pr}(hrow:w.ownsRow B 207 5 v bs.length (bs.flatMap Pr.h)){k:Nat}{b:Pr}(A:bs[k]? = some b) :
  ∃ g cap,v=.slice (some (N9 g 0)) bs.length cap/\k<bs.length/\aot w g k b/\B<=g:=by
 have E:k<bs.length:=(List.getElem?_eq_some_iff.1 A).1
 rcases Qj hrow with ⟨_,ax⟩|⟨g,cap,rfl⟩
 ·omega
 ·refine⟨g,cap,rfl,E,⟨fun j u aS=>?_,(hrow.lt g rfl).2,hrow.frozenAt⟩,(hrow.lt g rfl).1⟩;have wl:j<5:=(List.getElem?_eq_some_iff.1 aS).1;rw[hrow.cellAt _ Oe,Xk (s:=5) (fun _=>rfl) bs k j wl,A];exact aS
def aoh {H:Nat}{R:List Ot}{w:Og}{M:Mo}{aA aB:Ot}{os b':List Ot}(h:HP H R w M aA aB os b'){K:Nat}(ab:M.Small K)(D:K<=1000000000)(o:Int)(nm:Ou) :
  ∃ q r,Oq 126 #[aA,NY o] w (fun e w'=>e=OA (.pointer q)/\w'=w)/\Oq 127 #[.pointer q,Oj nm] w (fun e w'=>e=OA (.pointer r)/\Oo w w') /\
   ((r=none/\M.prop o nm=none)\/∃ (i:Nat) (x:Ob) (k:Nat) (c:Pr) (g cap:Nat),o=i/\M.objs[i]? = some x/\fP nm x.ps=some k/\x.ps[k]? = some c/\M.prop o nm=some c/\r=some (N9 g (k * 5))/\os[i]? = some (.slice (some (N9 g 0)) x.ps.length cap)/\∀ W,Oo w W->aot W g k c):=by
 rcases QG M o with ⟨h0,hout⟩|⟨i,x,rfl,ac,h1⟩
 ·refine⟨none,none,Yo aA _ (Qj h.ob.row) o (by simpa using hout) w,aop nm w,.inl ⟨rfl,by simp[Mo.prop,h0]⟩⟩
 ·have⟨g,cap,v,aw,aM,am,ai,hrow,hg,a1,aF,_⟩:=h.ob.at_ (i:=i) (e:=x.h) (by simp[ac]);have mJ:=ab.ps x (List.mem_of_getElem? ac);have eI:w.cell? (N9 g (i * 2+1))=some v:=ai 1 v rfl;have hrow':w.ownsRow H 207 5 v x.ps.length (x.ps.flatMap Pr.h):=hrow;refine⟨some (N9 g (i * 2)),aaQ 5 v (fP nm x.ps),?_,aev g (i * 2) v x.ps H nm w eI hrow' Oe,?_⟩
  ·rw[aw];exact abH g cap _ i aM w
  ·rcases VN (fun c=>YW nm c.name) x.ps with ⟨dU,dQ⟩|⟨k,c,dU,dQ,fT,_⟩
   ·left;refine⟨?_,by simp[Mo.prop,h1,dQ]⟩;rw[show fP nm x.ps=none from dU];exact Yp _ _
   ·right;obtain⟨iA,m5,rfl,cI,ul,H3⟩:=atP hrow' dQ;refine⟨i,x,k,c,iA,m5,rfl,ac,dU,dQ,by simp[Mo.prop,h1,fT],?_,am,fun W a6=>?_⟩
    ·rw[show fP nm x.ps=some k from dU];rfl
    ·have⟨g1,cap',hL,_,bX,_⟩:=atP (OI hrow' a6) dQ;exact aAD
def PK (M:Mo)(o:Int):(M.ro o=none/\(o<0\/(M.Ov.length:Int)<=o))\/∃ (i:Nat) (x:Ro),o=i/\M.Ov[i]? = some x/\M.ro o=some x:=by
 unfold Mo.ro
 by_cases h:o<0
 ·rw[if_pos h];exact .inl ⟨rfl,.inl h⟩
 ·rw[if_neg h]
  cases ac:M.Ov[o.toNat]? with
  | none=>
   left;refine⟨rfl,.inr ?_⟩;have:=List.getElem?_eq_none_iff.1 ac;omega
  | some x=>exact .inr ⟨o.toNat,x,by omega,ac,rfl⟩
def aou (W:Og)(iA k:Nat)(c:Ce):Prop:=(∀ j u,c.h[j]? = some u->W.cell? (N9 iA (k * 6+j))=some u)/\iA<W.heap.size/\∀ j,W.frozen? (N9 iA j)=false
def atC {B:Nat}{w:Og}{v:Ot}{bs:List Ce}(hrow:w.ownsRow B 262 6 v bs.length (bs.flatMap Ce.h)){k:Nat}{b:Ce}(A:bs[k]? = some b) :
  ∃ g cap,v=.slice (some (N9 g 0)) bs.length cap/\k<bs.length/\aou w g k b/\B<=g:=by
 have E:k<bs.length:=(List.getElem?_eq_some_iff.1 A).1
 rcases Qj hrow with ⟨_,ax⟩|⟨g,cap,rfl⟩
 ·omega
 ·refine⟨g,cap,rfl,E,⟨fun j u aS=>?_,(hrow.lt g rfl).2,hrow.frozenAt⟩,(hrow.lt g rfl).1⟩;have wl:j<6:=(List.getElem?_eq_some_iff.1 aS).1;rw[hrow.cellAt _ Oe,Xk (s:=6) (fun _=>rfl) bs k j wl,A];exact aS
def YJ {H:Nat}{R:List Ot}{w:Og}{M:Mo}{aA aB:Ot}{os b':List Ot}(h:HP H R w M aA aB os b'){K:Nat}(ab:M.Small K)(D:K<=1000000000)(o:Int)(nm:Ou) :
  ∃ q r,Oq 122 #[aB,NY o] w (fun e w'=>e=OA (.pointer q)/\w'=w)/\Oq 123 #[.pointer q,Oj nm] w (fun e w'=>e=OA (.pointer r)/\Oo w w') /\
   ((r=none/\M.YI o nm=none)\/∃ (i:Nat) (x:Ro) (k:Nat) (c:Ce) (g cap:Nat),o=i/\M.Ov[i]? = some x/\fC nm x.cs=some k/\x.cs[k]? = some c/\M.YI o nm=some c/\r=some (N9 g (k * 6))/\b'[i]? = some (.slice (some (N9 g 0)) x.cs.length cap)/\∀ W,Oo w W->aou W g k c):=by
 rcases PK M o with ⟨h0,hout⟩|⟨i,x,rfl,ac,h1⟩
 ·refine⟨none,none,Xm aB _ (Qj h.ro.row) o (by simpa using hout) w,aoq nm w,.inl ⟨rfl,by simp[Mo.YI,h0]⟩⟩
 ·have⟨g,cap,v,aw,aM,am,ai,hrow,hg,a1,aF,_⟩:=h.ro.at_ (i:=i) (e:=x.h) (by simp[ac]);have mJ:=ab.cs x (List.mem_of_getElem? ac);have eI:w.cell? (N9 g (i * 3+2))=some v:=ai 2 v rfl;have hrow':w.ownsRow H 262 6 v x.cs.length (x.cs.flatMap Ce.h):=hrow;refine⟨some (N9 g (i * 3)),aaQ 6 v (fC nm x.cs),?_,aew g (i * 3) v x.cs H nm w eI hrow' Oe,?_⟩
  ·rw[aw];exact Z9 g cap _ i aM w
  ·rcases VN (fun c=>YW nm c.name) x.cs with ⟨dU,dQ⟩|⟨k,c,dU,dQ,fT,_⟩
   ·left;refine⟨?_,by simp[Mo.YI,h1,dQ]⟩;rw[show fC nm x.cs=none from dU];exact Yp _ _
   ·right;obtain⟨iA,m5,rfl,cI,ul,H3⟩:=atC hrow' dQ;refine⟨i,x,k,c,iA,m5,rfl,ac,dU,dQ,by simp[Mo.YI,h1,fT],?_,am,fun W a6=>?_⟩
    ·rw[show fC nm x.cs=some k from dU];rfl
    ·have⟨g1,cap',hL,_,bX,_⟩:=atC (OI hrow' a6) dQ;exact aAD
variable {H K:Nat}{R os b':List Ot}{M:Mo}{aA aB:Ot}
section
variable (h:HP H R w M aA aB os b') (s:Int)
include h s
def aac:Oq 125 #[hP H,NY s] w fun e w'=>e=OA (NY (M.QX s))/\w'=w:=by
 obtain⟨h0,h1,aF,hf,hl⟩:=h.c;unfold hP
 rcases PK M s with ⟨aI,hout⟩|⟨i,x,rfl,ac,aw⟩
 ·have aj:=(Xm aB _ (Qj h.ro.row) s (by simpa using hout) w);rw[show M.QX s = -1 by simp[Mo.QX,aI]];clear h;go_enter func125,ntmps125;exact al5
 ·have⟨g,cap,v,bi,aM,am,ai,hrow,hg,a1,aF,_⟩:=h.ro.at_ (i:=i) (e:=x.h) (by simp[ac]);have aj:=(Z9 g cap _ i aM w);rw[<-bi] at aj;have c1:w.cell? (N9 g (i * 3+1))=some (NY x.object):=ai 1 _ rfl;rw[show M.QX i=x.object by simp[Mo.QX,aw]];clear h ai bi;go_enter func125,ntmps125;exact al5
def adE:Oq 252 #[hP H,NY s] w fun e w'=>e=OA (NY (M.outOf s))/\w'=w:=by
 obtain⟨h0,h1,aF,hf,hl⟩:=h.c;unfold hP
 rcases PK M s with ⟨aI,hout⟩|⟨i,x,rfl,ac,aw⟩
 ·have aj:=(Xm aB _ (Qj h.ro.row) s (by simpa using hout) w);rw[show M.outOf s = -1 by simp[Mo.outOf,aI]];clear h;go_enter func252,ntmps252;exact al5
 ·have⟨g,cap,v,bi,aM,am,ai,hrow,hg,a1,aF,_⟩:=h.ro.at_ (i:=i) (e:=x.h) (by simp[ac]);have aj:=(Z9 g cap _ i aM w);rw[<-bi] at aj;have c1:w.cell? (N9 g (i * 3))=some (NY x.outer):=ai 0 _ rfl;rw[show M.outOf i=x.outer by simp[Mo.outOf,aw]];clear h ai bi;go_enter func252,ntmps252;exact al5
def X7:Oq 209 #[hP H,NY s] w fun e w'=>e=OA (NY (M.codeOf s))/\w'=w:=by
 obtain⟨h0,h1,aF,hf,hl⟩:=h.c;unfold hP
 rcases QG M s with ⟨aI,hout⟩|⟨i,x,rfl,ac,aw⟩
 ·have aj:=(Yo aA _ (Qj h.ob.row) s (by simpa using hout) w);rw[show M.codeOf s=0 by simp[Mo.codeOf,aI]];clear h;go_enter func209,ntmps209;exact al5
 ·have⟨g,cap,v,bi,aM,am,ai,hrow,hg,a1,aF,_⟩:=h.ob.at_ (i:=i) (e:=x.h) (by simp[ac]);have aj:=(abH g cap _ i aM w);rw[<-bi] at aj;have c1:w.cell? (N9 g (i * 2))=some (NY x.code):=ai 0 _ rfl;rw[show M.codeOf i=x.code by simp[Mo.codeOf,aw]];clear h ai bi;go_enter func209,ntmps209;exact al5
end
section
variable (h:HP H R w M aA aB os b') (ab:M.Small K) (D:K<=1000000000)
include h ab D
def get_any (o:Int)(nm:Ou) :
  Oq 124 #[hP H,NY o,Oj nm] w fun e w'=>e=OA (.tuple #[aos (M.prop o nm),Om (M.prop o nm).isSome])/\Oo w w':=by
 obtain⟨h0,h1,aF,hf,hl⟩:=h.c;have e0:Oo w (w.alloc vZ):=PE;have⟨q,r,be,ew,aa⟩:=aoh (h.later e0) ab D o nm;unfold vZ at be ew;unfold hP;clear h
 rcases aa with ⟨rfl,al⟩|⟨i,x,k,c,g,cap,rfl,_,_,_,al,rfl,_,a6⟩
 ·rw[al];clear al;go_enter func124,ntmps124;have z:=N8 (∀{G}(h:G:=by
  have z:=N8 (∀{G}(h:G:=by
  go_wp2_with fail;refine bodyPost_ret (v:=.tuple #[aor,Om false]) (by simp[results,results124,go_sem,aor,dl,bT,cY]) rfl ⟨rfl,?_⟩;exact below3 bO Pg _ _ _),G);exact aov),G);exact aiz
 ·rw[al];clear al;have ft:=hide a6;clear a6;go_enter func124,ntmps124;have z:=N8 (∀{G}(h:G:=by
  have⟨bX,dC,_⟩:=ft.out w1 A;have d8:=bX 1 _ rfl;have gt:=bX 2 _ rfl;have jM:=bX 3 _ rfl;have z:=N8 (∀{G}(h:G:=by
  clear bX;go_wp2_with fail;refine bodyPost_ret (v:=.tuple #[aos (some c),Om true]) (by simp[results,results124,go_sem,aos,dl,bT,cY]) rfl ⟨rfl,?_⟩;exact below3 bO Pg _ _ _),G);exact aov),G);exact aiz
def Zr (s:Int)(nm:Ou) :
  Oq 353 #[hP H,NY s,Oj nm] w fun e w'=>e=OA (NY (M.kindOf s nm))/\Oo w w':=by
 obtain⟨h0,h1,aF,hf,hl⟩:=h.c;have⟨q,r,be,ew,aa⟩:=YJ h ab D s nm;unfold hP Mo.kindOf;clear h
 rcases aa with ⟨rfl,al⟩|⟨i,x,k,c,g,cap,rfl,_,_,_,al,rfl,_,a6⟩
 ·rw[al];clear al;go_enter func353,ntmps353;exact aAE
 ·rw[al];clear al;have ft:=hide a6;clear a6;go_enter func353,ntmps353;have z:=N8 (∀{G}(h:G:=by
  have⟨bX,dC,_⟩:=ft.out w1 A;have lj:=bX 4 _ rfl;have bO:=A;clear bX;go_wp2;go_ret;exact⟨rfl,bO⟩),G);exact aiz
def aow (o:Int)(nm:Ou)(al:M.prop o nm=none) :
  Oq 124 #[Oy H 0,NY o,Oj nm] w fun e w'=>e=OA (.tuple #[.agg #[NY 0,NY 0,Pm],Om false])/\Oo w w':=by
 have:=get_any h ab D o nm;rw[al] at this;exact this
def akk (o:Int)(nm:Ou){p:Pr}(al:M.prop o nm=some p) :
  Oq 124 #[Oy H 0,NY o,Oj nm] w fun e w'=>e=OA (.tuple #[.agg #[NY p.v.k,NY p.v.n,Oj p.v.s],Om true])/\Oo w w':=by
 have:=get_any h ab D o nm;rw[al] at this;exact this
def Yq (s:Int)(nm:Ou) :
  Oq 55 #[Oy H 0,NY s,Oj nm] w fun e w'=>e=OA (Om (M.has s nm))/\Oo w w':=by
 obtain⟨h0,h1,aF,hf,hl⟩:=h.c;have⟨q,r,be,ew,aa⟩:=YJ h ab D s nm;unfold Mo.has
 rcases aa with ⟨rfl,al⟩|⟨i,x,k,c,g,cap,rfl,_,_,_,al,rfl,_,a6⟩
 ·rw[al];clear al;have z:=N8 (∀{G}(h:G:=by
  rw[<-oW];clear oW
  cases ag:M.prop oo nm with
  | none=>
   have gZ:Hid (∀ w1,Oo w w1->_):=fun w1 A=>aow (h.later A) ab D oo nm ag;exact aAF
  | some p=>
   have gZ:Hid (∀ w1,Oo w w1->_):=fun w1 A=>akk (h.later A) ab D oo nm ag;exact aAF),G);exact avU
 ·rw[al];clear al a6;go_enter func55,ntmps55;exact aAE
end
inductive Mo.Finds (M:Mo) (nm:Ou):Int->Int->Prop where
 | out (i:Int) (h:M.ro i=none):Mo.Finds M nm i (-1)
 | here (i:Nat) (x:Ro) (h:M.Ov[i]? = some x) (hh:M.has i nm=true):Mo.Finds M nm i i
 | on (i:Nat) (x:Ro) (r:Int) (h:M.Ov[i]? = some x) (hh:M.has i nm=false) (aO:x.outer<i) (aa:Mo.Finds M nm x.outer r):Mo.Finds M nm i r
def aox {M:Mo}{i:Nat}{x:Ro}(h:M.Ov[i]? = some x):M.ro i=some x:=by simp[Mo.ro,h]
def avV {M:Mo}{i:Nat}{x:Ob}(h:M.objs[i]? = some x):M.ob i=some x:=by simp[Mo.ob,h]
def aom (h:HP H R w M aA aB os b')(i:Nat)(x:Ro)(az:M.Ov[i]? = some x):∃ a:Addr,Oq 122 #[aB,NY (i:Int)] w fun e w'=>e=OA (.pointer (some a))/\w'=w:=by
 have⟨g,cap,v,bi,aM,am,ai,hrow,hg,a1,aF,_⟩:=h.ro.at_ (i:=i) (e:=x.h) (by simp[az]);have aj:=Z9 g cap _ i aM w;rw[<-bi] at aj;exact⟨_,aj⟩
def aoy (h:HP H R w M aA aB os b')(ab:M.Small K)(D:K<=1000000000)(i r:Int)(nm:Ou)(aF:M.Finds nm i r) :
  Oq 195 #[Oy H 0,NY i,Oj nm] w fun e w'=>e=OA (NY r)/\Oo w w':=by
 have ic:=h;clear h;go_enter func195,ntmps195;go_wp2_with fail
 go_loopw [1] (fun hm wr=>∃ j:Int,hm=NY j/\M.Finds nm j r/\Oo w wr) (fun hm _=>(intOf hm+1).toNat)
 case atStart=>exact⟨i,rfl,aF,QI⟩
 case round=>
  obtain⟨j,rfl,In,A⟩:=hrel;have sc:=(ic.later A);obtain⟨h0,h1,_,_,hl⟩:=sc.c
  cases In with
  | out _ aO=>
   have hout:j<0\/(M.Ov.length:Int)<=j:=by
    rcases PK M j with ⟨_,h⟩|⟨i,x,rfl,_,h⟩
    ·exact h
    ·rw[aO] at h;cases h
   have aj:=(Xm aB _ (Qj sc.ro.row) j (by simpa using hout) wr);clear hout aO;have z:=N8 (∀{G}(h:G:=by
   go_ret;exact⟨rfl,A⟩),G);exact aer
  | here k x E hh=>
   have⟨a,ai⟩:=aom sc k x E;have aj:=ai;have a':=(Yq sc ab D k nm);rw[hh] at a';clear hh E;have z:=N8 (∀{G}(h:G:=by
   refine cm a' ?_;rintro e w2 ⟨rfl,aE⟩;have cq:=(A.trans (aE.mono A.size));go_wp2;go_ret;exact⟨rfl,cq⟩),G);exact aer
  | on k x _ E hh aO aa=>
   have⟨a,ai⟩:=aom sc k x E;have aj:=ai;have a':=(Yq sc ab D k nm);rw[hh] at a';have dp:=hide (fun W a6=>adE (sc.later (w':=W) a6) k);rw[show M.outOf k=x.outer by simp[Mo.outOf,aox E]] at dp;unfold hP at dp;have Gg:=hide aO;clear hh E aO;have z:=N8 (∀{G}(h:G:=by
   refine cm a' ?_;rintro e w2 ⟨rfl,aE⟩;have pq:=(dp.out w2 aE);have cq:=(A.trans (aE.mono A.size));go_wp2_with fail;refine cm pq ?_;rintro e aq ⟨rfl,rfl⟩;go_wp2
   go_roundw
   case rel=>exact⟨x.outer,rfl,aa,cq⟩
   case measure=>
    have:=Gg.out;simp[intOf];omega),G);exact aer
def TT (e:Int):Ot:=if e=0 then .nilIface else .iface 34 (NY e)
def aAG {w1:Og}{b:Nat}{fB cy dO a c d:Ot}(o:Obj)(dl:w1.cell? (N9 b 0)=some fB)(bT:w1.cell? (N9 b 1)=some cy)(cY:w1.cell? (N9 b 2)=some dO)(nl:b<w1.heap.size) :
  ((((w1.setCell (N9 b 0) a).setCell (N9 b 1) c).setCell (N9 b 2) d).alloc o).cell? (N9 b 0)=some a/\((((w1.setCell (N9 b 0) a).setCell (N9 b 1) c).setCell (N9 b 2) d).alloc o).cell? (N9 b 1)=some c/\((((w1.setCell (N9 b 0) a).setCell (N9 b 1) c).setCell (N9 b 2) d).alloc o).cell? (N9 b 2)=some d:=by
 have aH:b<(((w1.setCell (N9 b 0) a).setCell (N9 b 1) c).setCell (N9 b 2) d).heap.size:=by simpa using nl
 refine⟨?_,?_,?_⟩
 all_goals
  rw[World.cell?_alloc_past _ _ _ (by exact aH)];go_simp
section
variable (h:HP H R w M aA aB os b') (ab:M.Small K) (D:K<=1000000000)
include h ab D
def aoz (o:Int)(nm:Ou)(al:M.prop o nm=none) :
  Oq 313 #[Oy H 0,NY o,Oj nm] w fun e w'=>e=OA (.tuple #[.agg #[NY 0,NY 0,Pm],.iface 34 (NY 7)])/\Oo w w':=by
 have e0:Oo w (w.alloc vZ):=PE;have gZ:=(aow (h.later e0) ab D o nm al);unfold vZ at gZ;clear h al;go_enter func313,ntmps313;go_wp2_with fail;refine cm gZ ?_;rintro e w1 ⟨rfl,A⟩;have z:=N8 (∀{G}(h:G:=by
 go_wp2_with fail;have⟨cS,bY,cg⟩:=aAG (a:=NY 0) (c:=NY 0) (d:=Pm) (.cells #[NY 0,NY 0,Pm] 65) dl bT cY nl;refine bodyPost_ret (v:=.tuple #[.agg #[NY 0,NY 0,Pm],.iface 34 (NY 7)]) (by simp[results,results313,go_sem,cS,bY,cg]) rfl ⟨rfl,?_⟩;exact(below3 bO Pg _ _ _).alloc (by simpa using OO nl) _),G);exact aov
def al6 (o:Int)(nm:Ou){p:Pr}(al:M.prop o nm=some p) :
  Oq 313 #[Oy H 0,NY o,Oj nm] w fun e w'=>e=OA (.tuple #[.agg #[NY p.v.k,NY p.v.n,Oj p.v.s],Qd])/\Oo w w':=by
 have e0:Oo w (w.alloc vZ):=PE;have gZ:=(akk (h.later e0) ab D o nm al);unfold vZ at gZ;clear h al;go_enter func313,ntmps313;go_wp2_with fail;refine cm gZ ?_;rintro e w1 ⟨rfl,A⟩;have z:=N8 (∀{G}(h:G:=by
 go_wp2_with fail;have⟨cS,bY,cg⟩:=aAG (a:=NY p.v.k) (c:=NY p.v.n) (d:=Oj p.v.s) (.cells #[NY p.v.k,NY p.v.n,Oj p.v.s] 65) dl bT cY nl;refine bodyPost_ret (v:=.tuple #[.agg #[NY p.v.k,NY p.v.n,Oj p.v.s],Qd]) (by simp[results,results313,go_sem,cS,bY,cg]) rfl ⟨rfl,?_⟩;exact(below3 bO Pg _ _ _).alloc (by simpa using OO nl) _),G);exact aov
def adF (s:Int)(nm:Ou)(ai:M.YI s nm=none)(V:Ot)(n m:Int)(bB:Ou)(fF:V=.agg #[NY n,NY m,Oj bB])(X:Ot)(dj:∀ W,Oo w W->Oq 313 #[Oy H 0,NY (M.QX s),Oj nm] W fun e w'=>e=OA (.tuple #[V,X])/\Oo W w') :
  Oq 290 #[Oy H 0,NY s,Oj nm] w fun e w'=>e=OA (.tuple #[V,X])/\Oo w w':=by
 obtain⟨h0,h1,aF,hf,hl⟩:=h.c;have e0:Oo w (w.alloc vZ):=PE;have⟨q,r,be,ew,aa⟩:=YJ (h.later e0) ab D s nm;have z:=N8 (∀{G}(h:G:=by
 rw[<-oW] at dj;have dy:=hide dj;unfold vZ at be ew;clear h dj oW
 rcases aa with ⟨rfl,al⟩|⟨i,x,k,c,g,cap,rfl,_,_,_,al,rfl,_,a6⟩
 ·clear al ai;subst fF;go_enter func290,ntmps290;have z:=N8 (∀{G}(h:G:=by
  have bO:=(((Below.refl _ w).alloc Pg _).trans (A.mono OW));have⟨dl,bT,cY,fp,nl⟩:=YA (A.mono OW);have ec:Hid (∀ w2,Oo w1 w2->Below (w.heap.size+1) (w.alloc (.cells #[NY 0,NY 0,Pm] 65)) w2):=fun w2 aE=>(A.mono OW).trans (aE.mono Oe);clear dl bT cY fp;go_wp2_with fail;refine cm (dp.out w1 bO) ?_;rintro e w2 ⟨rfl,rfl⟩;go_wp2_with fail;refine cm (dy.out _ bO) ?_;rintro e aq ⟨rfl,bn⟩;have⟨dl,bT,cY,fp,Nw⟩:=YA (ec.out aq bn);have dG:=(bO.trans (bn.mono bO.size));go_wp2_with fail
  refine bodyPost_ret (v:=.tuple #[.agg #[NY n,NY m,Oj bB],X]) (by simp[results,results290,go_sem,dl,bT,cY]) rfl ⟨rfl,?_⟩;exact below3 dG Pg _ _ _),G);exact aiz
 ·rw[ai] at al;cases al),G);exact avU
def aoA (s:Int)(nm:Ou){c:Ce}(ai:M.YI s nm=some c) :
  Oq 290 #[Oy H 0,NY s,Oj nm] w fun e w'=>e=OA (if c.ready then .tuple #[.agg #[NY c.v.k,NY c.v.n,Oj c.v.s],Qd] else .tuple #[.agg #[NY 0,NY 0,Pm],.iface 34 (NY 6)])/\Oo w w':=by
 obtain⟨h0,h1,aF,hf,hl⟩:=h.c;have e0:Oo w (w.alloc vZ):=PE;have⟨q,r,be,ew,aa⟩:=YJ (h.later e0) ab D s nm;unfold vZ at be ew;clear h
 rcases aa with ⟨rfl,al⟩|⟨i,x,k,eT,g,cap,rfl,_,_,_,al,rfl,_,a6⟩
 ·rw[ai] at al;cases al
 ·rw[ai] at al;cases al;clear ai;have ft:=hide a6;clear a6
  cases ba:c.ready
  all_goals
   go_enter func290,ntmps290;go_wp2_with fail;refine cm be ?_;rintro e w' ⟨rfl,rfl⟩;go_wp2_with fail;refine cm ew ?_;rintro e w1 ⟨rfl,A⟩;have⟨bX,dC,_⟩:=ft.out w1 A;have d8:=bX 1 _ rfl;have gt:=bX 2 _ rfl;have jM:=bX 3 _ rfl;have nQ:=bX 5 _ rfl;rw[ba] at nQ;have⟨dl,bT,cY,fp,nl⟩:=YA (A.mono OW);have bO:=(((Below.refl _ w).alloc Pg _).trans (A.mono OW));clear bX;go_wp2_with fail
  ·refine bodyPost_ret (v:=.tuple #[.agg #[NY 0,NY 0,Pm],.iface 34 (NY 6)]) (by simp[results,results290,go_sem,dl,bT,cY]) rfl ⟨rfl,?_⟩;exact below3 bO Pg _ _ _
  ·refine bodyPost_ret (v:=.tuple #[.agg #[NY c.v.k,NY c.v.n,Oj c.v.s],Qd]) (by simp[results,results290,go_sem,dl,bT,cY]) rfl ⟨rfl,?_⟩;exact below3 bO Pg _ _ _
end
end
def Th:List TypeId:=[84,185,207,198,262]
def Mo.SI (M:Mo)(i:Nat)(x:Ob):Mo:=⟨M.objs.set i x,M.Ov⟩
def Mo.RD (M:Mo)(i:Nat)(x:Ro):Mo:=⟨M.objs,M.Ov.set i x⟩
def Ox {a b c:Og}{r:Option Nat}(h:a.grownBy b r)(k:b.grownBy c r):a.grownBy c r:=
 ⟨k.os.trans h.os,k.tape.trans h.tape,k.output.trans h.output,Nat.le_trans h.size k.size,fun j aS aa=>(k.block j (Nat.lt_of_lt_of_le aS h.size) aa).trans (h.block j aS aa)⟩
section
variable {H:Nat} {R:List Ot} {w w1:Og} {M:Mo} {aA aB:Ot} {os b':List Ot}
def HP.ob1 (h:HP H R w M aA aB os b'){objs:List Ob}{p3:List Ot}(aZ:Tb H 185 2 207 5 w1 aA (objs.map Ob.h) p3)(f:O8 [185,207] H w w1):HP H R w1 ⟨objs,M.Ov⟩ aA aB p3 b'/\O8 Th H w w1:=
 ⟨⟨f.rest H _ 84 h.blk Ol,aZ,h.ro.keep f Ol Ol⟩,f.mono Ol Pg⟩
def HP.ro1 (h:HP H R w M aA aB os b'){Ov:List Ro}{mO:List Ot}(aZ:Tb H 198 3 262 6 w1 aB (Ov.map Ro.h) mO)(f:O8 [198,262] H w w1):HP H R w1 ⟨M.objs,Ov⟩ aA aB os mO/\O8 Th H w w1:=
 ⟨⟨f.rest H _ 84 h.blk Ol,h.ob.keep f Ol Ol,aZ⟩,f.mono Ol Pg⟩
def auM:∀ (bs:List Pr) (k:Nat) (b:Pr) (n:Va),bs[k]? = some b ->
  (((bs.flatMap Pr.h).set (k * 5+1) (NY n.k)).set (k * 5+2) (NY n.n)).set (k * 5+3) (Oj n.s)=(bs.set k ⟨b.name,n,b.fixed⟩).flatMap Pr.h
 | [],k,b,n,h=>by simp at h
 | c::bs,0,b,n,h=>by
  simp at h;subst h;simp[Pr.h]
 | c::bs,k+1,b,n,h=>by
  have:=auM bs k b n (by simpa using h);have e:∀ j,(k+1) * 5+j=k * 5+j+1+1+1+1+1:=fun j=>by omega
  simp only[e,List.set_cons_succ,List.flatMap_cons,Pr.h,List.cons_append,List.nil_append] at this ⊢;rw[this]
def auN:∀ (bs:List Ce) (k:Nat) (b:Ce) (n:Va),bs[k]? = some b ->
  (((bs.flatMap Ce.h).set (k * 6+1) (NY n.k)).set (k * 6+2) (NY n.n)).set (k * 6+3) (Oj n.s)=(bs.set k ⟨b.name,n,b.kind,b.ready⟩).flatMap Ce.h
 | [],k,b,n,h=>by simp at h
 | c::bs,0,b,n,h=>by
  simp at h;subst h;simp[Ce.h]
 | c::bs,k+1,b,n,h=>by
  have:=auN bs k b n (by simpa using h);have e:∀ j,(k+1) * 6+j=k * 6+j+1+1+1+1+1+1:=fun j=>by omega
  simp only[e,List.set_cons_succ,List.flatMap_cons,Ce.h,List.cons_append,List.nil_append] at this ⊢;rw[this]
def aoB:∀ (bs:List Ce) (k:Nat) (b:Ce) (n:Va) (r:Bool),bs[k]? = some b ->
  ((((bs.flatMap Ce.h).set (k * 6+1) (NY n.k)).set (k * 6+2) (NY n.n)).set (k * 6+3) (Oj n.s)).set (k * 6+5) (Om r)=(bs.set k ⟨b.name,n,b.kind,r⟩).flatMap Ce.h
 | [],k,b,n,r,h=>by simp at h
 | c::bs,0,b,n,r,h=>by
  simp at h;subst h;simp[Ce.h]
 | c::bs,k+1,b,n,r,h=>by
  have:=aoB bs k b n r (by simpa using h);have e:∀ j,(k+1) * 6+j=k * 6+j+1+1+1+1+1+1:=fun j=>by omega
  simp only[e,List.set_cons_succ,List.flatMap_cons,Ce.h,List.cons_append,List.nil_append] at this ⊢;rw[this]
def HP.aGt (h:HP H R w M aA aB os b'){i:Nat}{x:Ob}(az:M.objs[i]? = some x){g cap m:Nat}(am:os[i]? = some (.slice (some (N9 g 0)) m cap)){k:Nat}{b:Pr}(A:x.ps[k]? = some b)(n:Va) :
  HP H R (((w.setCell (N9 g (k * 5+1)) (NY n.k)).setCell (N9 g (k * 5+2)) (NY n.n)).setCell (N9 g (k * 5+3)) (Oj n.s)) (M.SI i ⟨x.code,x.ps.set k ⟨b.name,n,b.fixed⟩⟩) aA aB os b' /\
  O8 Th H w (((w.setCell (N9 g (k * 5+1)) (NY n.k)).setCell (N9 g (k * 5+2)) (NY n.n)).setCell (N9 g (k * 5+3)) (Oj n.s)):=by
 have oQ:(M.objs.map Ob.h)[i]? = some x.h:=by simp[az]
 have hrow:w.ownsRow H 207 5 _ x.ps.length (x.ps.flatMap Pr.h):=h.ob.own i x.h _ oQ am;have⟨g1,cap',hL,_⟩:=atP hrow A;simp only[Value.slice.injEq,Option.some.injEq,Addr.mk.injEq,and_true] at hL;obtain⟨rfl,rfl,rfl⟩:=hL;have⟨bY,b1⟩:=hrow.stored (k * 5+1) (NY n.k);have⟨cg,bU⟩:=bY.stored (k * 5+2) (NY n.n);have⟨eo,ej⟩:=cg.stored (k * 5+3) (Oj n.s);rw[auM x.ps k b n A] at eo;have aH:=h.ob.bump (OO (lt_of_block h.blk)) oQ am (Ox (Ox b1 bU) ej) eo
 refine h.ob1 (objs:=M.objs.set i ⟨x.code,x.ps.set k ⟨b.name,n,b.fixed⟩⟩) ?_ (aH.2.mono Ol Pg);rw[List.map_set];have:=aH.1;simpa[Ob.h] using this
section
variable (h:HP H R w M aA aB os b') {i:Nat} {x:Ro} (az:M.Ov[i]? = some x) {g cap m:Nat} (am:b'[i]? = some (.slice (some (N9 g 0)) m cap)) {k:Nat} {b:Ce} (A:x.cs[k]? = some b) (n:Va)
include h i x az g cap m am k b A n
def HP.aGu :
  HP H R (((w.setCell (N9 g (k * 6+1)) (NY n.k)).setCell (N9 g (k * 6+2)) (NY n.n)).setCell (N9 g (k * 6+3)) (Oj n.s)) (M.RD i ⟨x.outer,x.object,x.cs.set k ⟨b.name,n,b.kind,b.ready⟩⟩) aA aB os b' /\
  O8 Th H w (((w.setCell (N9 g (k * 6+1)) (NY n.k)).setCell (N9 g (k * 6+2)) (NY n.n)).setCell (N9 g (k * 6+3)) (Oj n.s)):=by
 have z:=N8 (∀{G}(h:G:=by
 rw[auN x.cs k b n A] at eo;have aH:=h.ro.bump (OO (lt_of_block h.blk)) oQ am (Ox (Ox b1 bU) ej) eo;refine h.ro1 (Ov:=M.Ov.set i ⟨x.outer,x.object,x.cs.set k ⟨b.name,n,b.kind,b.ready⟩⟩) ?_ (aH.2.mono Ol Pg);rw[List.map_set];have:=aH.1;simpa[Ro.h] using this),G);exact aAH
def HP.aAI (r:Bool) :
  HP H R ((((w.setCell (N9 g (k * 6+1)) (NY n.k)).setCell (N9 g (k * 6+2)) (NY n.n)).setCell (N9 g (k * 6+3)) (Oj n.s)).setCell (N9 g (k * 6+5)) (Om r)) (M.RD i ⟨x.outer,x.object,x.cs.set k ⟨b.name,n,b.kind,r⟩⟩) aA aB os b' /\
  O8 Th H w ((((w.setCell (N9 g (k * 6+1)) (NY n.k)).setCell (N9 g (k * 6+2)) (NY n.n)).setCell (N9 g (k * 6+3)) (Oj n.s)).setCell (N9 g (k * 6+5)) (Om r)):=by
 have z:=N8 (∀{G}(h:G:=by
 have⟨jz,ma⟩:=eo.stored (k * 6+5) (Om r);rw[aoB x.cs k b n r A] at jz;have aH:=h.ro.bump (OO (lt_of_block h.blk)) oQ am (Ox (Ox (Ox b1 bU) ej) ma) jz;refine h.ro1 (Ov:=M.Ov.set i ⟨x.outer,x.object,x.cs.set k ⟨b.name,n,b.kind,r⟩⟩) ?_ (aH.2.mono Ol Pg);rw[List.map_set];have:=aH.1;simpa[Ro.h] using this),G);exact aAH
end
variable {K:Nat}
abbrev vA (n:Va):Ot:=.agg #[NY n.k,NY n.n,Oj n.s]
abbrev vO (n:Va):Obj:=.cells #[NY n.k,NY n.n,Oj n.s] 65
def aiD (h:HP H R w M aA aB os b')(ab:M.Small K)(D:K<=1000000000)(s:Int)(nm:Ou)(n:Va)(ai:M.YI s nm=none) :
  Oq 198 #[Oy H 0,NY s,Oj nm,.agg #[NY n.k,NY n.n,Oj n.s]] w fun e w'=>e=OA (.iface 34 (NY 7))/\Oo w w':=by
 have z:=N8 (∀{G}(h:G:=by
 have⟨q,r,be,ew,aa⟩:=YJ (h.later e0) ab D s nm;unfold vO at be ew;clear h
 rcases aa with ⟨rfl,al⟩|⟨i,x,k,eT,g,cap,rfl,_,_,_,al,rfl,_,a6⟩
 ·clear al ai;go_enter func198,ntmps198;exact aAt
 ·rw[ai] at al;cases al),G);exact al7
def agz {g i cap:Nat}{x:Ro}(h:HP H R w M aA aB os b')(az:M.Ov[i]? = some x)(am:b'[i]? = some (.slice (some (N9 g 0)) x.cs.length cap)):∃ c,w.heap[g]? = some (OM c 262):=
 PW (h.ro.own i x.h _ (by simp[az]) am) rfl
def aiE (h:HP H R w M aA aB os b')(ab:M.Small K)(D:K<=1000000000)(i:Nat)(x:Ro)(az:M.Ov[i]? = some x)(nm:Ou)(n:Va)(k:Nat)(c:Ce)(E:fC nm x.cs=some k)(ai:x.cs[k]? = some c) :
  Oq 198 #[Oy H 0,NY (i:Int),Oj nm,.agg #[NY n.k,NY n.n,Oj n.s]] w fun e w'=>e=OA Qd/\HP H R w' (M.RD i ⟨x.outer,x.object,x.cs.set k ⟨c.name,n,c.kind,true⟩⟩) aA aB os b'/\O8 Th H w w':=by
 have z:=N8 (∀{G}(h:G:=by
 have⟨q,r,be,ew,aa⟩:=YJ (h.later e0) ab D i nm;unfold vO at be ew;have lV:M.YI i nm=some c:=aAJ
 rcases aa with ⟨rfl,al⟩|⟨hm,x',lB,eT,g,cap,aw,bi,d4,hC,al,rfl,am,a6⟩
 ·rw[lV] at al;cases al
 ·obtain rfl:i=hm:=Oe;rw[az] at bi;cases bi;rw[E] at d4;cases d4;rw[ai] at hC;cases hC;have⟨m6,ju⟩:=agz (h.later e0) az am;have rr:g≠w.heap.size:=QA ju (heap_alloc_new w _) Ol;have ft:=hide a6;have bF:=hide am;have gC:=hide az;have gc:=hide ai;clear a6 am al lV aw E az ai ju;go_enter func198,ntmps198;go_wp2_with fail;refine cm be ?_;rintro e w' ⟨rfl,rfl⟩;go_wp2_with fail;refine cm ew ?_;rintro e w1 ⟨rfl,A⟩;have⟨bX,dC,kq⟩:=ft.out w1 A;have d8:=bX 1 _ rfl;have gt:=bX 2 _ rfl;have jM:=bX 3 _ rfl
  have nQ:=bX 5 _ rfl;have⟨dl,bT,cY,fp,nl⟩:=YA (A.mono OW);have dY:=hide (((h.later e0).later A).aAI gC.out bF.out gc.out n true);have bO:=(((Below.refl _ w).alloc Pg _).trans (A.mono OW));clear bX;go_wp2;go_ret;exact⟨rfl,dY.out.1,(O8.of bO (OO hl)).trans dY.out.2⟩),G);exact al7
def akg:(prog.info? 207).map (fun i=>(i.zero,i.size,i.bytes))=some (some (.agg #[Pm,NY 0,NY 0,Pm,Om false]),5,56):=by kernel_rfl
def aiF (w:Og)(H:Nat)(fl:w.heap.size=H)(x:Ou)(b:Va)(r:Bool)(j:Nat)(u:Ot)(h:([Oj x,NY b.k,NY b.n,Oj b.s,Om r]:List Ot)[j]? = some u) :
  (w.alloc (.cells #[Oj x,NY b.k,NY b.n,Oj b.s,Om r] 207)).cell? (Addr.add (N9 H 0) j)=some u:=by
 subst fl
 match j,h with
 | 0,h=>simp at h;subst h;simp[Addr.add]
 | 1,h=>simp at h;subst h;simp[Addr.add]
 | 2,h=>simp at h;subst h;simp[Addr.add]
 | 3,h=>simp at h;subst h;simp[Addr.add]
 | 4,h=>simp at h;subst h;simp[Addr.add]
 | k+5,h=>simp at h
def aoC (x:Ou)(b:Va)(r:Bool):∀ u ∈ ([Oj x,NY b.k,NY b.n,Oj b.s,Om r]:List Ot),u.oneCell'=true:=by
 intro u aQ;simp at aQ
 rcases aQ with rfl|rfl|rfl|rfl|rfl <;> rfl
def HP.auL (h:HP H R w M aA aB os b'){i:Nat}{x x':Ob}(az:M.objs[i]? = some x){v v':Ot}(am:os[i]? = some v){g cap:Nat}(ao:aA=.slice (some (N9 g 0)) (M.objs.map Ob.h).length cap)
  (dd:w.grownBy w1 v.ownBlock) (hown:w1.ownsRow H 207 5 v' x'.ps.length (x'.ps.flatMap Pr.h)) (iD:∀ q,v'.ownBlock=some q->v.ownBlock=some q\/w.heap.size<=q) (ac:x'.code=x.code) :
  HP H R (w1.setCell (N9 g (i * 2+1)) v') (M.SI i x') aA aB (os.set i v') b'/\O8 Th H w (w1.setCell (N9 g (i * 2+1)) v'):=by
 have oQ:(M.objs.map Ob.h)[i]? = some x.h:=by simp[az]
 have f':=h.ob;rw[ao] at f';have aH:=f'.put (OO (lt_of_block h.blk)) oQ am dd hown iD;rw[<-ao] at aH;refine h.ob1 (objs:=M.objs.set i x') ?_ aH.2;rw[List.map_set];have:=aH.1;rw[show x'.h=⟨x.h.hd,x'.ps.length,x'.ps.flatMap Pr.h⟩ by simp[Ob.h,ac]];exact this
def ash (h:HP H R w M aA aB os b')(o:Int)(nm:Ou)(n:Va)(fx:Bool)(aO:M.ob o=none) :
  Oq 56 #[Oy H 0,NY o,Oj nm,.agg #[NY n.k,NY n.n,Oj n.s],Om fx] w fun e w'=>e=OA (.iface 34 (NY 7))/\Oo w w':=by
 obtain⟨h0,h1,aF,hf,hl⟩:=h.c;have hout:o<0\/(M.objs.length:Int)<=o:=by
  rcases QG M o with ⟨_,h⟩|⟨i,x,rfl,_,h⟩
  ·exact h
  ·rw[aO] at h;cases h
 have aj:=(Yo aA _ (Qj h.ob.row) o (by simpa using hout) (w.alloc (.cells #[NY n.k,NY n.n,Oj n.s] 65)));clear h hout aO;go_enter func56,ntmps56;have z:=N8 (∀{G}(h:G:=by
 go_ret;exact⟨rfl,PE⟩),G);exact aoD
section
variable (h:HP H R w M aA aB os b') (ab:M.Small K) (D:K<=1000000000) (i:Nat) (x:Ob) (az:M.objs[i]? = some x) (nm:Ou) (n:Va) (fx:Bool)
include h ab D i x az nm n fx
def akl (k:Nat)(c:Pr)(E:fP nm x.ps=some k)(ai:x.ps[k]? = some c) :
  Oq 56 #[Oy H 0,NY (i:Int),Oj nm,.agg #[NY n.k,NY n.n,Oj n.s],Om fx] w fun e w'=>e=OA Qd/\HP H R w' (M.SI i ⟨x.code,x.ps.set k ⟨c.name,n,c.fixed⟩⟩) aA aB os b'/\O8 Th H w w':=by
 have z:=N8 (∀{G}(h:G:=by
 have z:=N8 (∀{G}(h:G:=by
 obtain⟨iA,m5,rfl,cI,_,_⟩:=atP hrow' ai;rw[E] at d7;simp only[aaQ] at d7;unfold vO at aj d7;have⟨m6,ju⟩:=PW hrow' rfl;have rr:iA≠w.heap.size:=QA ju (heap_alloc_new w _) Ol;have bF:=hide am;have gC:=hide az;have gc:=hide ai;clear dE E az ai h ju am bi;go_enter func56,ntmps56;have z:=N8 (∀{G}(h:G:=by
 refine cm d7 ?_;rintro e w1 ⟨rfl,A⟩;obtain⟨g1,cap',hL,_,⟨bX,dC,kq⟩,_⟩:=atP (OI hrow' A) gc.out;have z:=N8 (∀{G}(h:G:=by
 have d8:=bX 1 _ rfl;have gt:=bX 2 _ rfl;have jM:=bX 3 _ rfl;have⟨dl,bT,cY,fp,nl⟩:=YA (A.mono OW);have dY:=hide ((fl.later A).aGt gC.out bF.out gc.out n);have bO:=(((Below.refl _ w).alloc Pg _).trans (A.mono OW));clear bX;go_wp2;go_ret;exact⟨rfl,dY.out.1,(O8.of bO (OO hl)).trans dY.out.2⟩),G);exact agu),G);exact aoD),G);exact aAK),G);exact al7
def asi (E:fP nm x.ps=none) :
  Oq 56 #[Oy H 0,NY (i:Int),Oj nm,.agg #[NY n.k,NY n.n,Oj n.s],Om fx] w fun e w'=>e=OA Qd/\(∃ p3,HP H R w' (M.SI i ⟨x.code,x.ps++[⟨nm,n,fx⟩]⟩) aA aB p3 b')/\O8 Th H w w':=by
 have z:=N8 (∀{G}(h:G:=by
 have z:=N8 (∀{G}(h:G:=by
 rw[E,Yp] at d7;have mJ:=ab.ps x (List.mem_of_getElem? az);unfold vO at aj d7;have bF:=hide am;have gC:=hide az;have jY:=hide bi;have kh:=hide (dE 1 v rfl);have HLEN:=hide mJ;have⟨lA,dW,dw,b8,cn⟩:=info_parts akg;clear dE E az h am bi mJ;go_enter func56,ntmps56;have z:=N8 (∀{G}(h:G:=by
 refine cm d7 ?_;rintro e w1 ⟨rfl,A⟩;have z:=N8 (∀{G}(h:G:=by
 have gq:=(fl.later A);have q8:=(OI hrow' A);have dC:g<w1.heap.size:=Nat.lt_of_lt_of_le hg A.size;have fN:w1.cell? (N9 g (i * 2+1))=some v:=(cell_below A (a:=(N9 g (i * 2+1))) hg).trans kh.out;have hfz1:w1.frozen? (N9 g (i * 2+1))=false:=(World.frozen?_of_block (w:=w.alloc (vO n)) (a:=(N9 g (i * 2+1))) (A.block g hg)).trans (lq _);go_wp2_with fail;refine wp_region_any Pe ?_;change wpAny _ _ _ _ _ _ _ (World.drew _);refine wt 0 (Oy g (i * 2)) ?_;refine wt 1 (Oy g (i * 2)) ?_;refine wt 2 (Oy g (i * 2)) ?_
 refine wt 3 (Oy g (i * 2+1)) ?_;refine wt 5 (Oj nm) ?_;refine wt 7 (Om fx) ?_;refine wr2 4 6 (fun K D=>?ca) fun K D=>?cb
 case' ca=>
  go_simp;refine D _ _ ?_;clear D K;refine QF 6 fun K D=>?_;go_simp;refine D _ _ ?_;clear D K;refine wt 8 (.agg #[Oj nm,NY n.k,NY n.n,Oj n.s,Om fx]) ?_;refine QF 9 fun K D=>?_;go_simp;refine D _ _ ?_;clear D K
 case' cb=>
  go_simp;refine D _ _ ?_;clear D K;refine wt 8 (.agg #[Oj nm,NY n.k,NY n.n,Oj n.s,Om fx]) ?_;refine wr2 4 9 (fun K D=>?cc) fun K D=>?cd
 case' cc=>
  go_simp;refine D _ _ ?_;clear D K;refine QF 9 fun K D=>?_;go_simp;refine D _ _ ?_;clear D K
 case' cd=>
  go_simp;refine D _ _ ?_;clear D K;refine QF 4 fun K D=>?_;go_simp;refine D _ _ ?_;clear D K
 all_goals
  refine QF 10 fun K D=>?_;refine step_append_lies _ rfl _ _ 183 rfl H 207 lA _ 5 56 underlying183 dW dw b8 cn rfl Ol _ _ _ rfl (q8.drew.alloc _) (N9 w1.heap.size 0) 1 1 [Oj nm,NY n.k,NY n.n,Oj n.s,Om fx] rfl rfl (aiF _ _ rfl _ _ _) (aoC _ _ _) Ol (by have:=HLEN.out;unfold maxLen;omega) (by have:=HLEN.out;omega) QY (w1.heap.size+1) OW ?_
  intro hE iz aq hown3 eU c9 _;refine D _ _ ?_;clear D K;have dd:w1.grownBy aq v.ownBlock:=Ox (Ox (b:=w1.drew) ⟨rfl,rfl,rfl,Pg,fun _ _ _=>rfl⟩ (World.grownBy_alloc _ _ _)) eU;have aH:=gq.auL (x':=⟨x.code,x.ps++[⟨nm,n,fx⟩]⟩) gC.out bF.out jY.out dd (v':=.slice (some (N9 hE 0)) (x.ps.length+1) iz) (by rw[List.flatMap_append];simpa[Pr.h] using hown3) (fun q ag=>by cases ag;exact c9.imp (fun e=>e) (fun e=>by rw[e];exact Nat.le_succ _)) rfl
  have dY:=hide aH;have kB:aq.cell? (N9 g (i * 2+1))=some v/\aq.frozen? (N9 g (i * 2+1))=false:=by
   have cC:some g≠v.ownBlock:=fun e=>by
    have⟨_,_,gK⟩:=gq.ob.nes bF.out;exact(gK g e.symm).2.2.1 (by rw[jY.out];rfl)
   have hbk:=dd.block g dC cC;exact⟨(World.cell?_of_block (w:=w1) (a:=(N9 g (i * 2+1))) hbk).trans fN,(World.frozen?_of_block (w:=w1) (a:=(N9 g (i * 2+1))) hbk).trans hfz1⟩
  obtain⟨rN,rO⟩:=kB;clear aH c9 fN hfz1 dl bT cY fp;refine wt 11 (Oy g (i * 2)) ?_;refine wt 12 (Oy g (i * 2+1)) ?_;refine QF 13 fun K D=>?_;go_simp;refine D _ _ ?_;clear D K;refine wpAny_done Pe ?_ _;go_simp;go_wp2;go_ret;exact⟨rfl,⟨_,dY.out.1⟩,(O8.of bO (OO hl)).trans dY.out.2⟩),G);exact aov),G);exact aoD),G);exact aAK),G);exact al7
end
def avW {i:Nat}{x:Ro}(az:M.Ov[i]? = some x){nm:Ou}{k:Nat}{c:Ce}(E:fC nm x.cs=some k)(ai:x.cs[k]? = some c):M.YI i nm=some c:=aAJ
def asj {i:Nat}{x:Ob}(az:M.objs[i]? = some x){nm:Ou}{k:Nat}{c:Pr}(E:fP nm x.ps=some k)(ai:x.ps[k]? = some c):M.prop i nm=some c:=by
 rcases VN (fun c=>YW nm c.name) x.ps with ⟨dU,dQ⟩|⟨lB,eT,dU,dQ,fT,_⟩
 ·rw[show fP nm x.ps=none from dU] at E;cases E
 ·rw[show fP nm x.ps=some lB from dU] at E;cases E;rw[ai] at dQ;cases dQ;simp[Mo.prop,avV az,fT]
section
variable (h:HP H R w M aA aB os b') (ab:M.Small K) (D:K<=1000000000) (s:Int) (nm:Ou) (n:Va)
include h ab D s nm n
def aoE (hh:M.has s nm=false) :
  Oq 267 #[Oy H 0,NY s,Oj nm,.agg #[NY n.k,NY n.n,Oj n.s]] w fun e w'=>e=OA (.iface 34 (NY 7))/\Oo w w':=by
 have e0:Oo w (w.alloc (vO n)):=PE;have a':=(Yq (h.later e0) ab D s nm);rw[hh] at a';unfold vO at a';clear hh;go_enter func267,ntmps267;go_wp2_with fail;refine cm a' ?_;exact aAL
def aiG (ai:M.YI s nm=none)(j:Nat)(x:Ob)(aS:M.QX s=j)(ac:M.objs[j]? = some x)(k:Nat)(p:Pr)(E:fP nm x.ps=some k)(al:x.ps[k]? = some p) :
  Oq 267 #[Oy H 0,NY s,Oj nm,.agg #[NY n.k,NY n.n,Oj n.s]] w fun e w'=>e=OA Qd/\HP H R w' (M.SI j ⟨x.code,x.ps.set k ⟨p.name,n,p.fixed⟩⟩) aA aB os b'/\O8 Th H w w':=by
 have z:=N8 (∀{G}(h:G:=by
 have a':=(Yq (h.later e0) ab D s nm);rw[show M.has s nm=true by simp[Mo.has,aS,asj ac E al]] at a';have dp:Hid (∀ w1,Oo w w1->Oq 125 #[Oy H 0,NY s] w1 fun e w'=>e=OA (NY j)/\w'=w1):=fun w1 A=>by rw[<-aS];exact aac (h.later A) s
 have Gw:Hid (∀ w1,Oo w w1->_):=fun w1 A=>akl (h.later A) ab D j x ac nm n false k p E al;have dX:Hid (∀ w1,Oo w w1->_):=fun w1 A=>YJ (h.later A) ab D s nm;have q5:=hide hl;have kh:=hide ai;have ic:=h;unfold vO at a';clear h ai aS ac E al aF hf;have z:=N8 (∀{G}(h:G:=by
 obtain⟨b9,bP,_,_,_⟩:=(ic.later cA).c;have d':r=none:=by
  rcases aa with ⟨h,_⟩|⟨_,_,_,_,_,_,_,_,_,_,al,_⟩
  ·exact h
  ·rw[kh.out] at al;cases al
 subst d';have⟨dl,bT,cY,fp,nl⟩:=YA (A.mono OW);have ec:Hid (∀ w2,Oo w1 w2->Below (w.heap.size+1) (w.alloc (.cells #[NY n.k,NY n.n,Oj n.s] 65)) w2):=fun w2 aE=>(A.mono OW).trans (aE.mono Oe);have yP:Hid (∀ w2,Oo w1 w2->w2.heap[w.heap.size]? = some (OM #[NY n.k,NY n.n,Oj n.s] 65)):=fun w2 aE=>((A.mono OW).trans (aE.mono (Nat.succ_le_of_lt nl)) |>.block _ (Nat.lt_succ_self _)).trans (heap_alloc_new w _);have eV:=Nat.lt_of_lt_of_le hl cA.size;clear aa dl bT cY fp;go_wp2_with fail;refine cm be ?_;rintro e w' ⟨rfl,rfl⟩
 go_wp2_with fail;refine cm ew ?_;rintro e w2 ⟨rfl,aE⟩;have cq:=(cA.trans (aE.mono cA.size));have⟨dl,bT,cY,fp,yz⟩:=YA (ec.out w2 aE);have cn:w2.heap[w.heap.size]? = some (OM #[NY n.k,NY n.n,Oj n.s] 65):=yP.out w2 aE;have sw:=hide cn;clear b9 bP cn;go_wp2_with fail;refine wp_region_held (S:=fun W=>W.cell? (N9 w.heap.size 0)=some (NY n.k)/\W.cell? (N9 w.heap.size 1)=some (NY n.n)/\W.cell? (N9 w.heap.size 2)=some (Oj n.s)) Pe ?_;change wpAnyH _ _ _ _ _ _ _ _ (World.drew _)
 have e4:Hid (w2.drew.cell? (N9 w.heap.size 0)=some (NY n.k)/\w2.drew.cell? (N9 w.heap.size 1)=some (NY n.n)/\w2.drew.cell? (N9 w.heap.size 2)=some (Oj n.s)):=⟨dl,bT,cY⟩;refine wh 0 (Oy H 0) e4.out ?_;refine wh 1 (Oy H 0) e4.out ?_;refine wh 2 (NY s) e4.out ?_;refine wh 4 (Oj nm) e4.out ?_;refine wg 5 (.agg #[NY n.k,NY n.n,Oj n.s]) rfl (Or.inl ⟨by kernel_rfl,fun W a6=>by obtain⟨cK,b1,bU⟩:=a6;go_simp⟩) e4.out ?_
 refine XL 3 fun K D=>?_;go_simp;refine cm (dp.out _ cq.drew) ?_;rintro e aq ⟨rfl,rfl⟩;refine D.out _ _ e4.out (fun _=>?_);clear D K;refine XL 6 fun K D=>?_;go_simp;refine cm (Gw.out _ cq.drew) ?_;rintro e bD ⟨rfl,lY,hY⟩;have hR:=((O8.of cq.drew (OO q5.out)).trans hY);have lf:Hid (bD.cell? (N9 w.heap.size 0)=some (NY n.k)/\bD.cell? (N9 w.heap.size 1)=some (NY n.n)/\bD.cell? (N9 w.heap.size 2)=some (Oj n.s)):=by
  have aN:=hY.rest _ _ 65 sw.out Ol;refine⟨?_,?_,?_⟩ <;> simp[World.cell?,aN]
 refine D.out _ _ lf.out (fun _=>?_);clear D K hY;refine wh 7 Qd lf.out ?_;refine wpAnyH_done Pe ?_ _;go_simp;go_wp2;go_ret;exact⟨rfl,lY,hR⟩),G);exact aAM),G);exact al7
end
section
variable (h:HP H R w M aA aB os b') (ab:M.Small K) (D:K<=1000000000) (i:Nat) (x:Ro) (az:M.Ov[i]? = some x) (nm:Ou) (n:Va) (k:Nat) (c:Ce) (E:fC nm x.cs=some k) (ai:x.cs[k]? = some c)
include h ab D i x az nm n k c E ai
def agA (aa:c.ready=false) :
  Oq 267 #[Oy H 0,NY (i:Int),Oj nm,.agg #[NY n.k,NY n.n,Oj n.s]] w fun e w'=>e=OA (.iface 34 (NY 6))/\Oo w w':=by
 have z:=N8 (∀{G}(h:G:=by
 rcases aa with ⟨_,al⟩|⟨hm,x',lB,eT,g,cap,aw,bi,d4,hC,al,rfl,am,a6⟩
 ·rw[kh.out] at al;cases al
 obtain rfl:i=hm:=Oe;rw[gC.out] at bi;cases bi;rw[f1.out] at d4;cases d4;rw[gc.out] at hC;cases hC;have ft:=hide a6;have l3:w1.heap[w.heap.size]? = some (OM #[NY n.k,NY n.n,Oj n.s] 65):=(A.block _ OW).trans (heap_alloc_new w _);have⟨m6,ju⟩:=agz (h.later cA) gC.out am;have rr:g≠w.heap.size:=QA ju l3 Ol;have ec:Hid (∀ w2,Oo w1 w2->Below (w.heap.size+1) (w.alloc (.cells #[NY n.k,NY n.n,Oj n.s] 65)) w2):=fun w2 aE=>(A.mono OW).trans (aE.mono (by have:=lt_of_block l3;omega))
 have eV:=Nat.lt_of_lt_of_le hl cA.size;clear al a6 am l3 ju aw;go_wp2_with fail;refine cm be ?_;rintro e w' ⟨rfl,rfl⟩;go_wp2_with fail;refine cm ew ?_;rintro e w2 ⟨rfl,aE⟩;have⟨bX,dC,kq⟩:=ft.out w2 aE;have d8:=bX 1 _ rfl;have gt:=bX 2 _ rfl;have jM:=bX 3 _ rfl;have lj:=bX 4 _ rfl;have nQ:=bX 5 _ rfl;have cq:=(cA.trans (aE.mono cA.size));have⟨dl,bT,cY,fp,yz⟩:=YA (ec.out w2 aE);clear b9 bP bX;rw[aa] at nQ;go_wp2;go_ret;exact⟨rfl,cq⟩),G);exact avX
def agB (aa:c.ready=true)(U:c.kind=2) :
  Oq 267 #[Oy H 0,NY (i:Int),Oj nm,.agg #[NY n.k,NY n.n,Oj n.s]] w fun e w'=>e=OA (.iface 34 (NY 1))/\Oo w w':=by
 have z:=N8 (∀{G}(h:G:=by
 rcases aa with ⟨_,al⟩|⟨hm,x',lB,eT,g,cap,aw,bi,d4,hC,al,rfl,am,a6⟩
 ·rw[kh.out] at al;cases al
 obtain rfl:i=hm:=Oe;rw[gC.out] at bi;cases bi;rw[f1.out] at d4;cases d4;rw[gc.out] at hC;cases hC;have ft:=hide a6;have l3:w1.heap[w.heap.size]? = some (OM #[NY n.k,NY n.n,Oj n.s] 65):=(A.block _ OW).trans (heap_alloc_new w _);have⟨m6,ju⟩:=agz (h.later cA) gC.out am;have rr:g≠w.heap.size:=QA ju l3 Ol;have ec:Hid (∀ w2,Oo w1 w2->Below (w.heap.size+1) (w.alloc (.cells #[NY n.k,NY n.n,Oj n.s] 65)) w2):=fun w2 aE=>(A.mono OW).trans (aE.mono (by have:=lt_of_block l3;omega))
 have eV:=Nat.lt_of_lt_of_le hl cA.size;clear al a6 am l3 ju aw;go_wp2_with fail;refine cm be ?_;rintro e w' ⟨rfl,rfl⟩;go_wp2_with fail;refine cm ew ?_;rintro e w2 ⟨rfl,aE⟩;have⟨bX,dC,kq⟩:=ft.out w2 aE;have d8:=bX 1 _ rfl;have gt:=bX 2 _ rfl;have jM:=bX 3 _ rfl;have lj:=bX 4 _ rfl;have nQ:=bX 5 _ rfl;have cq:=(cA.trans (aE.mono cA.size));have⟨dl,bT,cY,fp,yz⟩:=YA (ec.out w2 aE);clear b9 bP bX;rw[aa] at nQ;rw[U] at lj;go_wp2;go_ret;exact⟨rfl,cq⟩),G);exact avX
def al8 (aa:c.ready=true)(av:c.kind=3) :
  Oq 267 #[Oy H 0,NY (i:Int),Oj nm,.agg #[NY n.k,NY n.n,Oj n.s]] w fun e w'=>e=OA (.iface 34 (NY 5))/\Oo w w':=by
 have z:=N8 (∀{G}(h:G:=by
 rcases aa with ⟨_,al⟩|⟨hm,x',lB,eT,g,cap,aw,bi,d4,hC,al,rfl,am,a6⟩
 ·rw[kh.out] at al;cases al
 obtain rfl:i=hm:=Oe;rw[gC.out] at bi;cases bi;rw[f1.out] at d4;cases d4;rw[gc.out] at hC;cases hC;have ft:=hide a6;have l3:w1.heap[w.heap.size]? = some (OM #[NY n.k,NY n.n,Oj n.s] 65):=(A.block _ OW).trans (heap_alloc_new w _);have⟨m6,ju⟩:=agz (h.later cA) gC.out am;have rr:g≠w.heap.size:=QA ju l3 Ol;have ec:Hid (∀ w2,Oo w1 w2->Below (w.heap.size+1) (w.alloc (.cells #[NY n.k,NY n.n,Oj n.s] 65)) w2):=fun w2 aE=>(A.mono OW).trans (aE.mono (by have:=lt_of_block l3;omega))
 have eV:=Nat.lt_of_lt_of_le hl cA.size;clear al a6 am l3 ju aw;go_wp2_with fail;refine cm be ?_;rintro e w' ⟨rfl,rfl⟩;go_wp2_with fail;refine cm ew ?_;rintro e w2 ⟨rfl,aE⟩;have⟨bX,dC,kq⟩:=ft.out w2 aE;have d8:=bX 1 _ rfl;have gt:=bX 2 _ rfl;have jM:=bX 3 _ rfl;have lj:=bX 4 _ rfl;have nQ:=bX 5 _ rfl;have cq:=(cA.trans (aE.mono cA.size));have⟨dl,bT,cY,fp,yz⟩:=YA (ec.out w2 aE);clear b9 bP bX;rw[aa] at nQ;rw[av] at lj;go_wp2;go_ret;exact⟨rfl,cq⟩),G);exact avX
def aoF (aa:c.ready=true)(U:c.kind≠2)(av:c.kind≠3) :
  Oq 267 #[Oy H 0,NY (i:Int),Oj nm,.agg #[NY n.k,NY n.n,Oj n.s]] w fun e w'=>e=OA Qd/\HP H R w' (M.RD i ⟨x.outer,x.object,x.cs.set k ⟨c.name,n,c.kind,c.ready⟩⟩) aA aB os b'/\O8 Th H w w':=by
 have z:=N8 (∀{G}(h:G:=by
 have bL:=N8 (∀{G}(h:G:=by
 have q5:=hide hl;unfold vO at a';clear ai az E lV aF hf;have z:=N8 (∀{G}(h:G:=by
 obtain⟨b9,bP,_,_,_⟩:=(h.later cA).c
 rcases aa with ⟨_,al⟩|⟨hm,x',lB,eT,g,cap,aw,bi,d4,hC,al,rfl,am,a6⟩
 ·rw[kh.out] at al;cases al
 obtain rfl:i=hm:=Oe;rw[gC.out] at bi;cases bi;rw[f1.out] at d4;cases d4;rw[gc.out] at hC;cases hC;have ft:=hide a6;have bF:=hide am;have l3:w1.heap[w.heap.size]? = some (OM #[NY n.k,NY n.n,Oj n.s] 65):=(A.block _ OW).trans (heap_alloc_new w _);have⟨m6,ju⟩:=agz (h.later cA) gC.out am;have rr:g≠w.heap.size:=QA ju l3 Ol;have ec:Hid (∀ w2,Oo w1 w2->Below (w.heap.size+1) (w.alloc (.cells #[NY n.k,NY n.n,Oj n.s] 65)) w2):=fun w2 aE=>(A.mono OW).trans (aE.mono (by have:=lt_of_block l3;omega))
 have eV:=Nat.lt_of_lt_of_le hl cA.size;clear al a6 am l3 ju aw;go_wp2_with fail;refine cm be ?_;rintro e w' ⟨rfl,rfl⟩;go_wp2_with fail;refine cm ew ?_;rintro e w2 ⟨rfl,aE⟩;have⟨bX,dC,kq⟩:=ft.out w2 aE;have d8:=bX 1 _ rfl;have gt:=bX 2 _ rfl;have jM:=bX 3 _ rfl;have lj:=bX 4 _ rfl;have nQ:=bX 5 _ rfl;have cq:=(cA.trans (aE.mono cA.size));have⟨dl,bT,cY,fp,yz⟩:=YA (ec.out w2 aE);have dY:=hide ((h.later cq).aGu gC.out bF.out gc.out n);clear b9 bP bX;rw[aa] at nQ;go_wp2;go_ret
 exact⟨rfl,dY.out.1,(O8.of cq (OO q5.out)).trans dY.out.2⟩),G);exact aAM),G);exact ztq),G);exact al7
end
end
end Hp
end Go.Proofs.YticfnaiehdpbmaaGreatDoor
namespace Go.Proofs
open Go.Shelf
def Tryz.lays156_ren:Go.Shelf.Ren:=⟨fun|156=>318|165=>337|166=>282|169=>84|240=>240|241=>351|276=>288|277=>356|n=>n,fun|31=>26|9=>9|3=>3|4=>4|0=>0|20=>20|72=>171|76=>257|70=>169|37=>42|75=>31|127=>240|164=>127|5=>5|80=>175|n=>n,fun|n=>n⟩
def Tryz.lays156:Go.Proofs.Lays.n156 Tryz.prog Tryz.lays156_ren:={
 mixed:=by kernel_rfl
 f156:=Tryz.func318.trans (congrArg some (by kernel_rfl))
 f165:=Tryz.func337.trans (congrArg some (by kernel_rfl))
 f166:=Tryz.func282.trans (congrArg some (by kernel_rfl))
 f169:=Tryz.func84.trans (congrArg some (by kernel_rfl))
 f240:=Tryz.func240.trans (congrArg some (by kernel_rfl))
 f241:=Tryz.func351.trans (congrArg some (by kernel_rfl))
 f276:=Tryz.func288.trans (congrArg some (by kernel_rfl))
 f277:=Tryz.func356.trans (congrArg some (by kernel_rfl))
 t0:=Tryz.underlying0
 a0:=Tryz.isAgg0
 z0:=Tryz.sizeOf0
 v0:=Tryz.zeroValue0
 t3:=Tryz.underlying3
 a3:=Tryz.isAgg3
 z3:=Tryz.sizeOf3
 v3:=Tryz.zeroValue3
 t4:=Tryz.underlying4
 a4:=Tryz.isAgg4
 z4:=Tryz.sizeOf4
 v4:=Tryz.zeroValue4
 t9:=Tryz.underlying9
 a9:=Tryz.isAgg9
 z9:=Tryz.sizeOf9
 v9:=Tryz.zeroValue9
 t20:=Tryz.underlying20
 a20:=Tryz.isAgg20
 z20:=Tryz.sizeOf20
 v20:=Tryz.zeroValue20
 t31:=Tryz.underlying26
 a31:=Tryz.isAgg26
 z31:=Tryz.sizeOf26
 v31:=Tryz.zeroValue26
 t37:=Tryz.underlying42
 a37:=Tryz.isAgg42
 z37:=Tryz.sizeOf42
 v37:=Tryz.zeroValue42
 t70:=Tryz.underlying169
 a70:=Tryz.isAgg169
 z70:=Tryz.sizeOf169
 v70:=Tryz.zeroValue169
 t72:=Tryz.underlying171
 a72:=Tryz.isAgg171
 z72:=Tryz.sizeOf171
 v72:=Tryz.zeroValue171
 t75:=Tryz.underlying31
 a75:=Tryz.isAgg31
 z75:=Tryz.sizeOf31
 v75:=Tryz.zeroValue31
 t76:=Tryz.underlying257
 a76:=Tryz.isAgg257
 z76:=Tryz.sizeOf257
 v76:=Tryz.zeroValue257
 t127:=Tryz.underlying240
 a127:=Tryz.isAgg240
 z127:=Tryz.sizeOf240
 v127:=Tryz.zeroValue240
 t164:=Tryz.underlying127
 a164:=Tryz.isAgg127
 z164:=Tryz.sizeOf127
 v164:=Tryz.zeroValue127 }
def Tryz.Builder_Extra_156:Builder.Extra Tryz.prog Tryz.lays156_ren:={
 sizeBuilder:=by kernel_rfl
 liesBuilder:=by kernel_rfl
 t5:=Tryz.underlying5
 a5:=Tryz.isAgg5
 z5:=Tryz.sizeOf5
 v5:=Tryz.zeroValue5
 infoByte:=by kernel_rfl
 cellsByte:=by kernel_rfl
 sizeByte:=by kernel_rfl
 neB5:=by decide }
open Go.RowKit in
def Tryz.strings_Join_none (a:Option Addr)(c:Nat)(sep:ByteArray)(w:World) :
  Calls Tryz.prog 318 #[.slice a 0 c,.string sep] w fun e w'=>e=.returned (.string ⟨#[]⟩)/\w'=w:=Any.strings_Join_none Tryz.lays156 Tryz.Builder_Extra_156 a c sep w
open Go.RowKit in
def Tryz.strings_Join (bk o c:Nat)(xs:List ByteArray)(sep:ByteArray)(w:World)(hcells:∀ (j:Nat) x,xs[j]? = some x->w.cell? ⟨bk,o+j,none⟩=some (.string x))(hbk:bk<w.heap.size)(hN:xs.length<=140737488355328)(hcap:xs.length<=c)(hlen:(Lib.join (xs.map (·.data.toList)) sep.data.toList).length<=140737488355328) :
  Calls Tryz.prog 318 #[.slice (some ⟨bk,o,none⟩) xs.length c,.string sep] w fun e w'=>e=.returned (.string ⟨(Lib.join (xs.map (·.data.toList)) sep.data.toList).toArray⟩)/\Below w.heap.size w w':=Any.strings_Join Tryz.lays156 Tryz.Builder_Extra_156 bk o c xs sep w hcells hbk hN hcap hlen
def Tryz.laysM171_ren:Go.Shelf.Ren:=⟨fun|171=>133|243=>208|246=>271|283=>302|284=>303|285=>304|286=>305|129=>326|317=>325|318=>327|319=>328|320=>329|337=>343|338=>344|n=>n,fun|3=>3|9=>9|2=>2|4=>4|171=>319|0=>0|53=>320|37=>42|5=>5|173=>323|212=>341|51=>342|20=>20|213=>343|46=>87|232=>364|233=>365|n=>n,fun|17=>8|18=>11|19=>12|n=>n⟩
def Tryz.laysM171:Go.Proofs.LaysM.n171 Tryz.prog Tryz.laysM171_ren:={
 mixed:=by kernel_rfl
 f129:=Tryz.func326.trans (congrArg some (by kernel_rfl))
 f171:=Tryz.func133.trans (congrArg some (by kernel_rfl))
 f243:=Tryz.func208.trans (congrArg some (by kernel_rfl))
 f246:=Tryz.func271.trans (congrArg some (by kernel_rfl))
 f283:=Tryz.func302.trans (congrArg some (by kernel_rfl))
 f284:=Tryz.func303.trans (congrArg some (by kernel_rfl))
 f285:=Tryz.func304.trans (congrArg some (by kernel_rfl))
 f286:=Tryz.func305.trans (congrArg some (by kernel_rfl))
 f317:=Tryz.func325.trans (congrArg some (by kernel_rfl))
 f318:=Tryz.func327.trans (congrArg some (by kernel_rfl))
 f319:=Tryz.func328.trans (congrArg some (by kernel_rfl))
 f320:=Tryz.func329.trans (congrArg some (by kernel_rfl))
 f337:=Tryz.func343.trans (congrArg some (by kernel_rfl))
 f338:=Tryz.func344.trans (congrArg some (by kernel_rfl))
 t0:=Tryz.underlying0
 a0:=Tryz.isAgg0
 z0:=Tryz.sizeOf0
 v0:=Tryz.zeroValue0
 t2:=Tryz.underlying2
 a2:=Tryz.isAgg2
 z2:=Tryz.sizeOf2
 v2:=Tryz.zeroValue2
 t3:=Tryz.underlying3
 a3:=Tryz.isAgg3
 z3:=Tryz.sizeOf3
 v3:=Tryz.zeroValue3
 t4:=Tryz.underlying4
 a4:=Tryz.isAgg4
 z4:=Tryz.sizeOf4
 v4:=Tryz.zeroValue4
 t5:=Tryz.underlying5
 a5:=Tryz.isAgg5
 z5:=Tryz.sizeOf5
 v5:=Tryz.zeroValue5
 t9:=Tryz.underlying9
 a9:=Tryz.isAgg9
 z9:=Tryz.sizeOf9
 v9:=Tryz.zeroValue9
 t20:=Tryz.underlying20
 a20:=Tryz.isAgg20
 z20:=Tryz.sizeOf20
 v20:=Tryz.zeroValue20
 t37:=Tryz.underlying42
 a37:=Tryz.isAgg42
 z37:=Tryz.sizeOf42
 v37:=Tryz.zeroValue42
 t46:=Tryz.underlying87
 a46:=Tryz.isAgg87
 z46:=Tryz.sizeOf87
 v46:=Tryz.zeroValue87
 t51:=Tryz.underlying342
 a51:=Tryz.isAgg342
 z51:=Tryz.sizeOf342
 v51:=Tryz.zeroValue342
 t53:=Tryz.underlying320
 a53:=Tryz.isAgg320
 z53:=Tryz.sizeOf320
 v53:=Tryz.zeroValue320
 t171:=Tryz.underlying319
 a171:=Tryz.isAgg319
 z171:=Tryz.sizeOf319
 v171:=Tryz.zeroValue319
 t173:=Tryz.underlying323
 a173:=Tryz.isAgg323
 z173:=Tryz.sizeOf323
 v173:=Tryz.zeroValue323
 t212:=Tryz.underlying341
 a212:=Tryz.isAgg341
 z212:=Tryz.sizeOf341
 v212:=Tryz.zeroValue341
 t213:=Tryz.underlying343
 a213:=Tryz.isAgg343
 z213:=Tryz.sizeOf343
 t232:=Tryz.underlying364
 a232:=Tryz.isAgg364
 z232:=Tryz.sizeOf364
 v232:=Tryz.zeroValue364
 t233:=Tryz.underlying365
 a233:=Tryz.isAgg365
 z233:=Tryz.sizeOf365
 v233:=Tryz.zeroValue365
 g17:=by kernel_rfl
 g18:=by kernel_rfl
 g19:=by kernel_rfl
 i0:=by kernel_rfl
 i2:=by kernel_rfl
 i3:=by kernel_rfl
 i4:=by kernel_rfl
 i5:=by kernel_rfl
 i9:=by kernel_rfl
 i20:=by kernel_rfl
 i37:=by kernel_rfl
 i46:=by kernel_rfl
 i51:=by kernel_rfl
 i53:=by kernel_rfl
 i171:=by kernel_rfl
 i173:=by kernel_rfl
 i212:=by kernel_rfl
 i232:=by kernel_rfl
 i233:=by kernel_rfl
 m17:=by kernel_rfl
 m18:=by kernel_rfl
 m19:=by kernel_rfl }
open Go.RowKit Go.Sort Go.Lib in
def Tryz.strconv_Itoa (n : Int) (h0 : -9223372036854775808 <= n) (h1 : n <= 9223372036854775807) (w : World) (htab : Lib.TabIs Tryz.prog w "internal/strconv.uint64pow10" .u64 Lib.pow10Tab) :
  Calls Tryz.prog 133 #[.int .i64 n] w fun e w'=>e=.returned (.string ⟨(Lib.itoa n).toArray⟩)/\∃ k os,w'=grow (w.drewN k) os:=Any.strconv_Itoa Tryz.laysM171 n h0 h1 w htab
end Go.Proofs
namespace Go.Proofs.YticfnaiehdpbmaaGreatDoor
open Go.RowKit Go.Proofs.Tryz
namespace Hp
section
open Go.RowKit Go.Extern.Stop Go.Stop Go.Extern
def at_one (v:Ot)(f:Ot->Sem Ot)(g:Array Ot->Sem Ot):@ReflectliteValue.method.match_2 (fun _=>Sem Ot) #[v] f g=f v:=rfl
def anv (v x:Ot)(f:Ot->Ot->Sem Ot)(g:Array Ot->Sem Ot):@ReflectliteValue.set.match_3 (fun _=>Sem Ot) #[v,x] f g=f v x:=rfl
def R9.aln (t:Addr)(w:Og):(ReflectliteValue.unpack (.iface 86 (.pointer (some t)))).run prog w
  = .ok (.agg #[Oy 13 86,Oy w.heap.size 0,.int .u64 150]) (w.alloc (.cells #[.pointer (some t)] 86)):=by kernel_rfl
def R9.alm (n:Int)(w:Og):(ReflectliteValue.unpack (.iface 34 (NY n))).run prog w
  = .ok (.agg #[Oy 13 34,Oy w.heap.size 0,.int .u64 130]) (w.alloc (.cells #[NY n] 34)):=by kernel_rfl
def R9.avh (a : Addr) (w : Og) : (ReflectliteValue.methodAny (ReflectliteValue.valueError "reflectlite.Value.Type" 0) (fun t _ _ _ => ReflectliteType.toType t) #[.agg #[Oy 13 86, .pointer (some a), .int .u64 150]]).run prog w
  = .ok (.iface 215 (.agg #[Oy 13 86])) w:=by kernel_rfl
def R9.avi (w:Og):((ReflectliteType.abiMethod fun t=>(fun a:Nat=>Value.int IntKind.u8 (a:Int)) <$> Rtype.kind t) #[Oy 13 86]).run prog w=.ok (.int .u8 22) w:=by kernel_rfl
def R9.avj (w:Og):((ReflectliteType.abiMethod fun t=>(fun a:Nat=>Value.int IntKind.u8 (a:Int)) <$> Rtype.kind t) #[Oy 13 34]).run prog w=.ok (.int .u8 2) w:=by kernel_rfl
def R9.aj6 (a:Addr)(w:Og):(ReflectliteValue.parts (.agg #[Oy 13 86,.pointer (some a),.int .u64 150])).run prog w=.ok (some (86,a,150)) w:=by kernel_rfl
def R9.arp (a p:Addr)(W:Og)(ay:W.cell? a=some (.pointer (some p))) :
  (ReflectliteValue.method (ReflectliteValue.valueError "reflectlite.Value.IsNil" 0) ReflectliteValue.isNil #[.agg #[Oy 13 86, .pointer (some a), .int .u64 150]]).run prog W = .ok (Om false) W := by
 delta ReflectliteValue.method
 rw[at_one];simp only[Sem.run_bind,R9.aj6,Result.andThen];simp[ReflectliteValue.isNil,loadVar,isAgg,underlying,underlying86,ay,Result.andThen]
def R9.avk (w:Og):(ReflectliteType.method ReflectliteType.elem #[.agg #[Oy 13 86]]).run prog w=.ok (.iface 215 (.agg #[Oy 13 34])) w:=by kernel_rfl
def R9.aea (w : Og) : (ReflectliteType.relation "Implements" ReflectliteType.implements_ #[.agg #[Oy 13 34], .iface 215 (.agg #[Oy 13 31])]).run prog w = .ok (Om true) w := by kernel_rfl
def R9.afU (v:Ot)(w:Og):(ReflectliteType.typeOf #[.iface 34 v]).run prog w=.ok (.iface 215 (.agg #[Oy 13 34])) w:=by kernel_rfl
def R9.anw (w:Og):(Rtype.elem? 86).run prog w=.ok (some 34) w:=by kernel_rfl
def R9.aF9 (p:Addr)(w:Og):(ReflectliteValue.mk 34 p ReflectliteValue.flagAddr).run prog w=.ok (.agg #[Oy 13 34,.pointer (some p),.int .u64 386]) w:=by kernel_rfl
def R9.arl (a p:Addr)(W:Og)(ay:W.cell? a=some (.pointer (some p))) :
  (ReflectliteValue.method (ReflectliteValue.valueError "reflectlite.Value.Elem" 0) ReflectliteValue.elem #[.agg #[Oy 13 86, .pointer (some a), .int .u64 150]]).run prog W
   = .ok (.agg #[Oy 13 34,.pointer (some p),.int .u64 386]) W:=by
 delta ReflectliteValue.method
 rw[at_one];simp only[Sem.run_bind,R9.aj6,Result.andThen];simp[ReflectliteValue.elem,loadVar,isAgg,underlying,underlying86,ay,Result.andThen,R9.anw,R9.aF9]
def R9.anx (a:Addr)(w:Og):(ReflectliteValue.parts (.agg #[Oy 13 34,.pointer (some a),.int .u64 386])).run prog w=.ok (some (34,a,386)) w:=by kernel_rfl
def R9.arw (a:Addr)(w:Og):(ReflectliteValue.parts (.agg #[Oy 13 34,.pointer (some a),.int .u64 130])).run prog w=.ok (some (34,a,130)) w:=by kernel_rfl
def R9.anz (w:Og):(Rtype.directlyAssignable 34 34).run prog w=.ok true w:=by kernel_rfl
def R9.aza (ta b:Addr)(n:Int)(old:Ot)(W:Og)(A:W.cell? b=some (NY n))(aZ:W.cell? ta=some old)(aF:W.frozen? ta=false) :
  (ReflectliteValue.set #[.agg #[Oy 13 34,.pointer (some ta),.int .u64 386],.agg #[Oy 13 34,.pointer (some b),.int .u64 130]]).run prog W
   = .ok (.tuple #[]) (W.setCell ta (NY n)):=by
 delta ReflectliteValue.set
 rw[anv];simp only[Sem.run_bind,R9.anx,R9.arw,Result.andThen];simp[ReflectliteValue.flagAddr,loadVar,isAgg,underlying,underlying34,A,Result.andThen,R9.anz,storeVar,Value.cells,storeCells,Addr.add];rw[run_store prog W ta _ _ (by rfl)];simp[aZ,aF]
def R9.ah5 (t:Addr)(w:Og):(ReflectliteValue.unpack (.iface 123 (.pointer (some t)))).run prog w
  = .ok (.agg #[Oy 13 123,Oy w.heap.size 0,.int .u64 150]) (w.alloc (.cells #[.pointer (some t)] 123)):=by kernel_rfl
def R9.ah4 (p:Addr)(w:Og):(ReflectliteValue.unpack (.iface 122 (.pointer (some p)))).run prog w
  = .ok (.agg #[Oy 13 122,Oy w.heap.size 0,.int .u64 150]) (w.alloc (.cells #[.pointer (some p)] 122)):=by kernel_rfl
def R9.arx (a : Addr) (w : Og) : (ReflectliteValue.methodAny (ReflectliteValue.valueError "reflectlite.Value.Type" 0) (fun t _ _ _ => ReflectliteType.toType t) #[.agg #[Oy 13 123, .pointer (some a), .int .u64 150]]).run prog w
  = .ok (.iface 215 (.agg #[Oy 13 123])) w:=by kernel_rfl
def R9.arz (w:Og):((ReflectliteType.abiMethod fun t=>(fun a:Nat=>Value.int IntKind.u8 (a:Int)) <$> Rtype.kind t) #[Oy 13 123]).run prog w=.ok (.int .u8 22) w:=by kernel_rfl
def R9.arA (w:Og):((ReflectliteType.abiMethod fun t=>(fun a:Nat=>Value.int IntKind.u8 (a:Int)) <$> Rtype.kind t) #[Oy 13 122]).run prog w=.ok (.int .u8 22) w:=by kernel_rfl
def R9.afW (a:Addr)(w:Og):(ReflectliteValue.parts (.agg #[Oy 13 123,.pointer (some a),.int .u64 150])).run prog w=.ok (some (123,a,150)) w:=by kernel_rfl
def R9.anA (a p:Addr)(W:Og)(ay:W.cell? a=some (.pointer (some p))) :
  (ReflectliteValue.method (ReflectliteValue.valueError "reflectlite.Value.IsNil" 0) ReflectliteValue.isNil #[.agg #[Oy 13 123, .pointer (some a), .int .u64 150]]).run prog W = .ok (Om false) W := by
 delta ReflectliteValue.method
 rw[at_one];simp only[Sem.run_bind,R9.afW,Result.andThen];simp[ReflectliteValue.isNil,loadVar,isAgg,underlying,underlying123,ay,Result.andThen]
def R9.arB (w:Og):(ReflectliteType.method ReflectliteType.elem #[.agg #[Oy 13 123]]).run prog w=.ok (.iface 215 (.agg #[Oy 13 122])) w:=by kernel_rfl
def R9.acW (w : Og) : (ReflectliteType.relation "Implements" ReflectliteType.implements_ #[.agg #[Oy 13 122], .iface 215 (.agg #[Oy 13 31])]).run prog w = .ok (Om true) w := by kernel_rfl
def R9.alp (v:Ot)(w:Og):(ReflectliteType.typeOf #[.iface 122 v]).run prog w=.ok (.iface 215 (.agg #[Oy 13 122])) w:=by kernel_rfl
def R9.alq (w:Og):(Rtype.elem? 123).run prog w=.ok (some 122) w:=by kernel_rfl
def R9.azg (p:Addr)(w:Og):(ReflectliteValue.mk 122 p ReflectliteValue.flagAddr).run prog w=.ok (.agg #[Oy 13 122,.pointer (some p),.int .u64 406]) w:=by kernel_rfl
def R9.anu (a p:Addr)(W:Og)(ay:W.cell? a=some (.pointer (some p))) :
  (ReflectliteValue.method (ReflectliteValue.valueError "reflectlite.Value.Elem" 0) ReflectliteValue.elem #[.agg #[Oy 13 123, .pointer (some a), .int .u64 150]]).run prog W
   = .ok (.agg #[Oy 13 122,.pointer (some p),.int .u64 406]) W:=by
 delta ReflectliteValue.method
 rw[at_one];simp only[Sem.run_bind,R9.afW,Result.andThen];simp[ReflectliteValue.elem,loadVar,isAgg,underlying,underlying123,ay,Result.andThen,R9.alq,R9.azg]
def R9.alr (a:Addr)(w:Og):(ReflectliteValue.parts (.agg #[Oy 13 122,.pointer (some a),.int .u64 406])).run prog w=.ok (some (122,a,406)) w:=by kernel_rfl
def R9.anB (a:Addr)(w:Og):(ReflectliteValue.parts (.agg #[Oy 13 122,.pointer (some a),.int .u64 150])).run prog w=.ok (some (122,a,150)) w:=by kernel_rfl
def R9.als (w:Og):(Rtype.directlyAssignable 122 122).run prog w=.ok true w:=by kernel_rfl
def R9.avm (ta b:Addr)(p:Addr)(old:Ot)(W:Og)(A:W.cell? b=some (.pointer (some p)))(aZ:W.cell? ta=some old)(aF:W.frozen? ta=false) :
  (ReflectliteValue.set #[.agg #[Oy 13 122,.pointer (some ta),.int .u64 406],.agg #[Oy 13 122,.pointer (some b),.int .u64 150]]).run prog W
   = .ok (.tuple #[]) (W.setCell ta (.pointer (some p))):=by
 delta ReflectliteValue.set
 rw[anv];simp only[Sem.run_bind,R9.alr,R9.anB,Result.andThen];simp[ReflectliteValue.flagAddr,loadVar,isAgg,underlying,underlying122,A,Result.andThen,R9.als,storeVar,Value.cells,storeCells,Addr.add];rw[run_store prog W ta _ _ (by rfl)];simp[aZ,aF]
def R9.alo (v:Ot)(w:Og):(ReflectliteType.typeOf #[.iface 359 v]).run prog w=.ok (.iface 215 (.agg #[Oy 13 359])) w:=by kernel_rfl
def R9.aaM (w : Og) : (ReflectliteType.relation "AssignableTo" ReflectliteType.assignableTo #[.agg #[Oy 13 34], .iface 215 (.agg #[Oy 13 34])]).run prog w = .ok (Om true) w := by kernel_rfl
def R9.Zi (w : Og) : (ReflectliteType.relation "AssignableTo" ReflectliteType.assignableTo #[.agg #[Oy 13 122], .iface 215 (.agg #[Oy 13 122])]).run prog w = .ok (Om true) w := by kernel_rfl
def R9.ZT (w : Og) : (ReflectliteType.relation "AssignableTo" ReflectliteType.assignableTo #[.agg #[Oy 13 34], .iface 215 (.agg #[Oy 13 122])]).run prog w = .ok (Om false) w := by kernel_rfl
def R9.Zh (w : Og) : (ReflectliteType.relation "AssignableTo" ReflectliteType.assignableTo #[.agg #[Oy 13 359], .iface 215 (.agg #[Oy 13 122])]).run prog w = .ok (Om false) w := by kernel_rfl
section
variable (h:Ot) (w:Og)
include h w
def R9.azh : (Go.method 493 215 (.agg #[h]) "Kind").run prog w = .ok (371, h) w := by kernel_rfl
def R9.azi : (Go.method 493 215 (.agg #[h]) "Elem").run prog w = .ok (385, .agg #[h]) w := by kernel_rfl
def R9.azj : (Go.method 493 215 (.agg #[h]) "Implements").run prog w = .ok (386, .agg #[h]) w := by kernel_rfl
def R9.arC : (Go.method 493 215 (.agg #[h]) "AssignableTo").run prog w = .ok (383, .agg #[h]) w := by kernel_rfl
