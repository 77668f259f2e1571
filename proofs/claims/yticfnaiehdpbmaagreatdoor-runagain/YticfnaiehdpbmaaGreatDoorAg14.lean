import Derived.Test.YticfnaiehdpbmaaGreatDoorAg10
set_option maxRecDepth 100000
set_option maxHeartbeats 8000000
set_option linter.unusedVariables false
namespace Go.Proofs.YticfnaiehdpbmaaGreatDoor
open Go.RowKit Go.Proofs.Tryz
theorem aon {c:Ctx}{b:Nat}{w1 gB:Ny}{i d:Nat}{v0 v1 v2 v3:NP}(h:OU c w1 i d)(nN:c.lo<=b)(p1:w1.heap[b]? = some Rt)
  (a6:gB=(((w1.setCell (Nv b 0) v0).setCell (Nv b 1) v1).setCell (Nv b 2) v2).setCell (Nv b 3) v3) :
  OU c gB i d/\Below b w1 gB/\ah2 b gB v0 v1 v2 v3:=by
 have aZ:Below b w1 gB:=by
  rw[a6];exact((((Below.refl _ w1).setCell (p:=(Nv b 0)) OH v0).setCell (p:=(Nv b 1)) OH v1).setCell (p:=(Nv b 2)) OH v2).setCell (p:=(Nv b 3)) OH v3
 refine⟨h.ap aZ nN,aZ,c160 ?_⟩;rw[a6];exact Zg p1 v0 v1 v2 v3
section
variable {c:Ctx} (w:Ny) (d i:Nat)
include c w d i
theorem ars (E:(Ox c.l i).kd=1)(h:OU c w i d):NK 348 #[Ov c] w fun e w'=>e=NU (NI true)/\NJ w w':=by
 have yo:=(Below.refl w.heap.size w);have dl:((Ox c.l i).kd==1)=true:=by rw[E];decide
 have em:((Ox c.l i).kd==3)=false:=by rw[E];decide
 have ot:((Ox c.l i).kd==4)=false:=by rw[E];decide
 exact avq
theorem av3 (E:(Ox c.l i).kd=3)(h:OU c w i d):NK 348 #[Ov c] w fun e w'=>e=NU (NI true)/\NJ w w':=by
 have yo:=(Below.refl w.heap.size w);have dl:((Ox c.l i).kd==1)=false:=by rw[E];decide
 have em:((Ox c.l i).kd==3)=true:=by rw[E];decide
 have ot:((Ox c.l i).kd==4)=false:=by rw[E];decide
 exact avq
theorem av4 (E:(Ox c.l i).kd=4)(h:OU c w i d):NK 348 #[Ov c] w fun e w'=>e=NU (NI true)/\NJ w w':=by
 have yo:=(Below.refl w.heap.size w);have dl:((Ox c.l i).kd==1)=false:=by rw[E];decide
 have em:((Ox c.l i).kd==3)=false:=by rw[E];decide
 have ot:((Ox c.l i).kd==4)=true:=by rw[E];decide
 exact avq
end
section
variable {c:Ctx} (w:Ny) (d i:Nat) (h1:(Ox c.l i).kd≠1) (ax:(Ox c.l i).kd≠3) (aU:(Ox c.l i).kd≠4)
include c w d i h1 ax aU
theorem av5 (q:Nat)(ag:PZ Rf (fx c.l i)=some q)(h:OU c w i d):NK 348 #[Ov c] w fun e w'=>e=NU (NI true)/\NJ w w':=by
 have z:=kk (∀{G}(h:G:=by
 have dV:Hid (∀ W:Ny,OU c W i d->(Instr.lookup 231 (.map (some c.mV)) (ND (fx c.l i)) true).run prog W=.ok (.tuple #[.func (.func (aeE q)) #[NM c.R 0] #[],NI true]) W):=fun W a6=>by
  exact aBm
 clear h h1 ax aU ag;have z:=kk (∀{G}(h:G:=by
 have z:=kk (∀{G}(h:G:=by
 have z:=kk (∀{G}(h:G:=by
 refine A.out _ _ eN (fun _=>?_);clear A K;refine wg 6 (.tuple #[.func (.func (aeE q)) #[NM c.R 0] #[],NI true]) rfl (Or.inl ⟨by kernel_rfl,fun W a6=>by have hh:=dV.out W a6;go_simp⟩) eN ?_
 refine wh 7 (.tuple #[.func (.func (aeE q)) #[NM c.R 0] #[],NI true]) eN ?_;refine wh 8 (.func (.func (aeE q)) #[NM c.R 0] #[]) eN ?_;refine wh 9 (NI true) eN ?_;refine wh 10 (.func (.func (aeE q)) #[NM c.R 0] #[]) eN ?_;refine wh 11 (NI true) eN ?_;refine wpAnyH_done OJ ?_ _;go_simp;go_wp2_with fail;go_ret;exact⟨rfl,rK⟩),G);exact avw),G);exact Z7),G);exact avC),G);exact avz
theorem aru (ag:PZ Rf (fx c.l i)=none)(e6:Yp (fx c.l i)=none)(h:OU c w i d):NK 348 #[Ov c] w fun e w'=>e=NU (NI false)/\NJ w w':=by
 have z:=kk (∀{G}(h:G:=by
 have z:=kk (∀{G}(h:G:=by
 have ep:Hid (∀ W:Ny,OU c W i d->(Instr.lookup 229 (.map (some c.mS)) (ND (fx c.l i)) true).run prog W=.ok (.tuple #[.agg #[OG,Nr 0,Nr 0,Nr 0],NI false]) W):=fun W a6=>by
  have:=Wh c (fx c.l i) W a6.base.signs;rw[e6] at this;exact this
 clear h h1 ax aU ag e6;have z:=kk (∀{G}(h:G:=by
 have z:=kk (∀{G}(h:G:=by
 have z:=kk (∀{G}(h:G:=by
 have z:=kk (∀{G}(h:G:=by
 have i1:=hide eN.base.size;have z:=kk (∀{G}(h:G:=by
 have z:=kk (∀{G}(h:G:=by
 refine wpAnyH_ready (rs:=[5,10]) OJ Oq (AllReadyH.cons rfl (fun K A=>?_) (AllReadyH.cons rfl (fun K A=>?_) AllReadyH.nil))
 ·have z:=kk (∀{G}(h:G:=by
  refine wg 6 (.tuple #[.agg #[OG,Nr 0,Nr 0,Nr 0],NI false]) rfl (Or.inl ⟨by kernel_rfl,fun W a6=>by have hh:=ep.out W a6;go_simp⟩) bJ ?_
  have z:=kk (∀{G}(h:G:=by
  have z:=kk (∀{G}(h:G:=by
  have bj:=(bJ.alloc (.cells #[OG,Nr 0,Nr 0,Nr 0] 275));have bu:=(f0.alloc f0.size (.cells #[OG,Nr 0,Nr 0,Nr 0] 275));exact aBB),G);exact anV),G);exact aq1),G);exact aCj
 ·have z:=kk (∀{G}(h:G:=by
  refine wg 6 (.tuple #[.agg #[OG,Nr 0,Nr 0,Nr 0],NI false]) rfl (Or.inl ⟨by kernel_rfl,fun W a6=>by have hh:=ep.out W a6;go_simp⟩) bJ ?_
  have z:=kk (∀{G}(h:G:=by
  refine WG 11 fun K A=>?_;go_simp;clear cy bQ b5 d' en YV;obtain⟨gB,iA⟩:=xE ((((w1.setCell (Nv fy.heap.size 0) (OG)).setCell (Nv fy.heap.size 1) (Nr 0)).setCell (Nv fy.heap.size 2) (Nr 0)).setCell (Nv fy.heap.size 3) (Nr 0));obtain⟨hr2,aE,⟨fZ,ku,s2,o7,sT,sU⟩⟩:=aon (v0:=OG) (v1:=Nr 0) (v2:=Nr 0) (v3:=Nr 0) bJ i1.out tu.out iA;have bj:=hr2;have bu:=(f0.trans (aE.mono rK.size));rw[<-iA];clear iA;exact aBB),G);exact aq1),G);exact aB2),G);exact aCe),G);exact Z7),G);exact aBT),G);exact avw),G);exact Z7),G);exact avC),G);exact aBW),G);exact avz
theorem arv (x:Sg)(ag:PZ Rf (fx c.l i)=none)(e6:Yp (fx c.l i)=some x)(h:OU c w i d):NK 348 #[Ov c] w fun e w'=>e=NU (NI (decide (x.parts<2)))/\NJ w w':=by
 have z:=kk (∀{G}(h:G:=by
 have z:=kk (∀{G}(h:G:=by
 have ep:Hid (∀ W:Ny,OU c W i d->(Instr.lookup 229 (.map (some c.mS)) (ND (fx c.l i)) true).run prog W=.ok (.tuple #[.agg #[ND x.tx,Nr x.kd,Nr x.parts,Nr x.str],NI true]) W):=fun W a6=>by
  have:=Wh c (fx c.l i) W a6.base.signs;rw[e6] at this;exact this
 clear h h1 ax aU ag e6;have z:=kk (∀{G}(h:G:=by
 have z:=kk (∀{G}(h:G:=by
 have z:=kk (∀{G}(h:G:=by
 have z:=kk (∀{G}(h:G:=by
 have i1:=hide eN.base.size;have z:=kk (∀{G}(h:G:=by
 have z:=kk (∀{G}(h:G:=by
 refine wpAnyH_ready (rs:=[5,10]) OJ Oq (AllReadyH.cons rfl (fun K A=>?_) (AllReadyH.cons rfl (fun K A=>?_) AllReadyH.nil))
 ·have z:=kk (∀{G}(h:G:=by
  have z:=kk (∀{G}(h:G:=by
  have z:=kk (∀{G}(h:G:=by
  have z:=kk (∀{G}(h:G:=by
  have bj:=(bJ.alloc (.cells #[ND x.tx,Nr x.kd,Nr x.parts,Nr x.str] 275));have bu:=(f0.alloc f0.size (.cells #[ND x.tx,Nr x.kd,Nr x.parts,Nr x.str] 275));exact aBA),G);exact anV),G);exact aBY),G);exact aCB),G);exact aCj
 ·have z:=kk (∀{G}(h:G:=by
  have z:=kk (∀{G}(h:G:=by
  have z:=kk (∀{G}(h:G:=by
  refine WG 11 fun K A=>?_;go_simp;clear cy bQ b5 d' en YV;obtain⟨gB,iA⟩:=xE ((((w1.setCell (Nv fy.heap.size 0) (ND x.tx)).setCell (Nv fy.heap.size 1) (Nr x.kd)).setCell (Nv fy.heap.size 2) (Nr x.parts)).setCell (Nv fy.heap.size 3) (Nr x.str));obtain⟨hr2,aE,⟨fZ,ku,s2,o7,sT,sU⟩⟩:=aon (v0:=ND x.tx) (v1:=Nr x.kd) (v2:=Nr x.parts) (v3:=Nr x.str) bJ i1.out tu.out iA;have bj:=hr2;have bu:=(f0.trans (aE.mono rK.size));rw[<-iA];clear iA hr2 aE;exact aBA),G);exact aBY),G);exact aCB),G);exact aB2),G);exact aCe),G);exact Z7),G);exact aBT),G);exact avw),G);exact Z7),G);exact avC),G);exact aBW),G);exact avz
end
theorem afY (c:Ctx):Asks c 348 (isVal c.l):=by
 intro w d i h;unfold isVal
 by_cases h1:(Ox c.l i).kd=1
 ·rw[h1];exact ars w d i h1 h
 ·by_cases ax:(Ox c.l i).kd=3
  ·rw[ax];exact av3 w d i ax h
  ·by_cases aU:(Ox c.l i).kd=4
   ·rw[aU];exact av4 w d i aU h
   ·rw[beq_eq_false_iff_ne.2 h1,beq_eq_false_iff_ne.2 ax,beq_eq_false_iff_ne.2 aU];simp only[Bool.false_or]
    cases ag:PZ Rf (fx c.l i) with
    | some q=>exact av5 w d i h1 ax aU q ag h
    | none=>
     cases e6:Yp (fx c.l i) with
     | none=>exact aru w d i h1 ax aU ag e6 h
     | some x=>
      have ac:=arv w d i h1 ax aU x ag e6 h
      cases al:decide (x.parts<2) with
      | true=>rw[al] at ac;simpa[Option.filter,al] using ac
      | false=>rw[al] at ac;simpa[Option.filter,al] using ac
end Go.Proofs.YticfnaiehdpbmaaGreatDoor
