import Derived.Test.YticfnaiehdpbmaaGreatDoorAg20
import Derived.Test.YticfnaiehdpbmaaGreatDoorAg11
import Derived.LaidEql
set_option maxRecDepth 100000
set_option maxHeartbeats 8000000
set_option linter.unusedVariables false
namespace Go.Proofs.YticfnaiehdpbmaaGreatDoor
open Go.RowKit Go.Proofs.Tryz
section
variable {P:Program} {bX:Region.Mode} {bh:Array Oper} {Q:Exit->Act->Ny->Prop} {S:Ny->Prop} {b:Nat}
def PN (P:Program)(bX:Region.Mode)(bh:Array Oper)(Q:Exit->Act->Ny->Prop)(S:Ny->Prop)(b:Nat):Nat->Array Bool->Act->Ny->Prop
 | 0,listed,a,w=>Region.ready bX bh listed=[]/\Q .normal a w
 | n+1,listed,a,w=>(Region.ready bX bh listed=[]->Q .normal a w)/\∀ i ∈ Region.ready bX bh listed,wpOp P bh Q i (fun l9 w'=>((listed.setIfInBounds i true).getD b false=false->S w')/\PN P bX bh Q S b n (listed.setIfInBounds i true) l9 w') a w
theorem abD:∀ (n:Nat) (listed:Array Bool) (a:Act) (w:Ny),PN P bX bh Q S b n listed a w->wpAny P bX bh Q n listed a w
 | 0,_,_,_,h=>h
 | n+1,_,_,_,h=>⟨h.1,fun i ay=>wpOp_mono (fun l9 w' fj=>abD n _ l9 w' fj.2) (h.2 i ay)⟩
theorem agv {i:Nat}{dQ:Oper}{v:NP}(ay:bh[i]? = some dQ)(hsel:∀ (j:Nat) (o:Oper) cs c,bh[j]? = some o->o.op≠.select cs c)
  (hJ:∀ c a w,Q (.panic c) (a.put dQ.dst v) w->Q (.panic c) a w) (jK:i≠b) :
  ∀ (n:Nat) (listed:Array Bool) (a:Act) (w:Ny),
   (∀ j oj,bh[j]? = some oj->j≠i->listed.getD j true=false->(∀ e ∈ oj.after,Region.binds bX e=true->e.on≠i)->dQ.apart bh oj=true) ->
   i ∈ Region.ready bX bh listed->YieldsIf P bh (fun _=>True) dQ v a->(listed.getD b false=false->S w) ->
   PN P bX bh Q S b n (listed.setIfInBounds i true) (a.put dQ.dst v) w->PN P bX bh Q S b (n+1) listed a w:=by
 have waits:∀ {listed:Array Bool} {oj:Oper},i ∈ Region.ready bX bh listed->(∀ e ∈ oj.after,Region.binds bX e=true->listed.getD e.on false=true)->∀ e ∈ oj.after,Region.binds bX e=true->e.on≠i:=by
  intro listed oj U hall e au D qo;exact aBz
 intro n
 induction n with
 | zero=>
  intro listed a w _ U hy gZ H;refine⟨fun h=>(by rw[h] at U;cases U),fun j aT=>?_⟩
  by_cases iF:j=i
  ·subst iF;exact hy.wpOp ay trivial ⟨fun h=>gZ (by rw[getD_set_ne false jK] at h;exact h),H⟩
  ·have aV:=ready_mono aT iF;rw[H.1] at aV;cases aV
 | succ n bR=>
  intro listed a w hfree U hy gZ H;refine⟨fun h=>(by rw[h] at U;cases U),fun j aT=>?_⟩
  by_cases iF:j=i
  ·subst iF;exact hy.wpOp ay trivial ⟨fun h=>gZ (by rw[getD_set_ne false jK] at h;exact h),H⟩
  ·obtain⟨hjun,oj,tX,hall⟩:=mem_ready.1 aT;have hnot:=waits (oj:=oj) U hall;have z:=kk (∀{G}(h:G:=by
   have vy:(listed.setIfInBounds j true).getD b false=false->S w':=fun h=>ax.2.1 (by rw[Array.setIfInBounds_comm _ _ (Ne.symm iF),getD_set_ne false jK];exact h)
   refine⟨vy,bR (listed.setIfInBounds j true) l9 w' (fun m wH aV vP wp gH=>hfree m wH aV vP ?_ gH) (ready_mono U (Ne.symm iF)) ax.1 vy ?_⟩
   ·by_cases rg:j=m
    ·subst rg;exact hjun
    ·rw[getD_set_ne true rg] at wp;exact wp
   ·rw[Array.setIfInBounds_comm _ _ iF];exact ax.2.2),G);exact aCq
theorem uh {dQ:Oper}{n:Nat}{listed:Array Bool}{a:Act}{w:Ny}(i:Nat)(v:NP)(gZ:S w)
  (h:PN P bX bh Q S b n (listed.setIfInBounds i true) (a.put dQ.dst v) w) (ay:bh[i]? = some dQ:=by rfl) (hJ:∀ c a w,Q (.panic c) (a.put dQ.dst v) w->Q (.panic c) a w:=by exact fun _ _ _ h=>h)
  (ae:Region.noSelect bh=true:=by kernel_rfl) (aG:Region.free bX bh listed i=true:=by kernel_rfl) (U:(Region.ready bX bh listed).contains i=true:=by kernel_rfl)
  (jK:i≠b:=by decide) (hy:YieldsIf P bh (fun _=>True) dQ v a:=by exact Or.inl ⟨by kernel_rfl,fun _ _=>by go_simp⟩):PN P bX bh Q S b (n+1) listed a w:=
 agv ay (Region.noSelect_spec ae) hJ jK n listed a w (Region.free_spec ay aG) (by simpa using U) hy (fun _=>gZ) h
theorem uz {dQ:Oper}{n:Nat}{listed:Array Bool}{a:Act}{w:Ny}(i:Nat)(v:NP)
  (h:PN P bX bh Q S b n (listed.setIfInBounds i true) (a.put dQ.dst v) w) (ay:bh[i]? = some dQ:=by rfl) (hJ:∀ c a w,Q (.panic c) (a.put dQ.dst v) w->Q (.panic c) a w:=by exact fun _ _ _ h=>h)
  (ae:Region.noSelect bh=true:=by kernel_rfl) (aG:Region.free bX bh listed i=true:=by kernel_rfl) (U:(Region.ready bX bh listed).contains i=true:=by kernel_rfl)
  (jK:i≠b:=by decide) (hl:listed.getD b false=true:=by kernel_rfl) (hy:YieldsIf P bh (fun _=>True) dQ v a:=by exact Or.inl ⟨by kernel_rfl,fun _ _=>by go_simp⟩):PN P bX bh Q S b (n+1) listed a w:=
 agv ay (Region.noSelect_spec ae) hJ jK n listed a w (Region.free_spec ay aG) (by simpa using U) hy (fun e=>by rw[hl] at e;cases e) h
theorem uop {o:Oper}{i:Nat}{a:Act}{w:Ny}{K:Act->Ny->Prop}(aM:bh[i]? = some o)(h:if Region.wanted o (yielded bh a.tmps)=true then Oper.wp P o a w K Q else K (a.put o.dst undef) w):wpOp P bh Q i K a w:=by
 unfold wpOp;simp only[aM]
 split
 ·rename_i hw;rw[if_pos hw] at h;exact .inl h
 ·rename_i hw;rw[if_neg hw] at h;exact h
theorem O0 {o:Oper}{n:Nat}{listed:Array Bool}{a:Act}{w:Ny}(i:Nat)
  (h:∀ hC:Act->Ny->Prop,Shut (∀ a w,((listed.setIfInBounds i true).getD b false=false->S w)->PN P bX bh Q S b n (listed.setIfInBounds i true) a w->hC a w)->if Region.wanted o (yielded bh a.tmps)=true then Oper.wp P o a w hC Q else hC (a.put o.dst undef) w)
  (aM:bh[i]? = some o:=by rfl) (U:Region.ready bX bh listed=[i]:=by kernel_rfl):PN P bX bh Q S b (n+1) listed a w:=by
 refine⟨fun h0=>(by rw[U] at h0;cases h0),fun j aT=>?_⟩
 rw[U] at aT;obtain rfl:=List.mem_singleton.1 aT;exact uop aM (h _ fun a w h1 O=>⟨h1,O⟩)
theorem uq2 {o gP:Oper}{n:Nat}{listed:Array Bool}{a:Act}{w:Ny}(i j:Nat)
  (h:∀ hC:Act->Ny->Prop,Shut (∀ a w,((listed.setIfInBounds i true).getD b false=false->S w)->PN P bX bh Q S b n (listed.setIfInBounds i true) a w->hC a w)->if Region.wanted o (yielded bh a.tmps)=true then Oper.wp P o a w hC Q else hC (a.put o.dst undef) w)
  (fj:∀ hC:Act->Ny->Prop,Shut (∀ a w,((listed.setIfInBounds j true).getD b false=false->S w)->PN P bX bh Q S b n (listed.setIfInBounds j true) a w->hC a w)->if Region.wanted gP (yielded bh a.tmps)=true then Oper.wp P gP a w hC Q else hC (a.put gP.dst undef) w)
  (aM:bh[i]? = some o:=by rfl) (AR:bh[j]? = some gP:=by rfl) (U:Region.ready bX bh listed=[i,j]:=by kernel_rfl):PN P bX bh Q S b (n+1) listed a w:=by
 refine⟨fun h0=>(by rw[U] at h0;cases h0),fun m aV=>?_⟩
 rw[U] at aV
 rcases List.mem_cons.1 aV with rfl|aV
 ·exact uop aM (h _ fun a w h1 O=>⟨h1,O⟩)
 ·obtain rfl:=List.mem_singleton.1 aV;exact uop AR (fj _ fun a w h1 O=>⟨h1,O⟩)
theorem aDl {listed:Array Bool}{a:Act}{w:Ny}(U:Region.ready bX bh listed=[])(h:Q .normal a w):∀ n,PN P bX bh Q S b n listed a w
 | 0=>⟨U,h⟩
 | _+1=>⟨fun _=>h,by rw[U];simp⟩
theorem PO {o0:Nat}{a:Act}{w:Ny}(b:Nat)(S:Ny->Prop)(aV:P.follows .mixedOrders=true)(h:PN P .any bh Q S b bh.size (Array.replicate bh.size false) a w.drew):(Code.region o0 bh true).wp P Q a w:=
 wp_region_any aV (abD _ _ _ _ h)
def aei (bX:Region.Mode)(bh:Array Oper):Nat->Nat->Nat->Bool
 | 0,_,_=>false
 | n+1,b,i=>match bh[b]? with
  | none=>false
  | some ob=>ob.after.any fun e=>Region.binds bX e&&(e.on==i||aei bX bh n e.on i)
def Closed (bX:Region.Mode)(bh:Array Oper)(listed:Array Bool):Prop:=∀ (j:Nat) (oj:Oper),bh[j]? = some oj->listed.getD j false=true->∀ e ∈ oj.after,Region.binds bX e=true->listed.getD e.on false=true
theorem abE {listed:Array Bool}{i:Nat}(ai:Closed bX bh listed):∀ (n j:Nat) (oj:Oper),bh[j]? = some oj->(∀ e ∈ oj.after,Region.binds bX e=true->listed.getD e.on false=true)->aei bX bh n j i=true->listed.getD i false=true
 | 0,_,_,_,_,h=>by cases h
 | n+1,j,oj,aM,hall,h=>by
  rw[aei,aM] at h;obtain⟨e,au,O⟩:=Array.any_eq_true'.1 h;rw[Bool.and_eq_true,Bool.or_eq_true] at O;have ax:=hall e au O.1
  rcases O.2 with aU|aU
  ·rw[<-eq_of_beq aU];exact ax
  ·
   cases hoe:bh[e.on]? with
   | none=>
    cases n with
    | zero=>cases aU
    | succ n=>rw[aei,hoe] at aU;cases aU
   | some oe=>exact abE ai n e.on oe hoe (ai e.on oe hoe ax) aU
theorem acf {listed:Array Bool}{j k:Nat}(h:listed.getD k false=true):(listed.setIfInBounds j true).getD k false=true:=by
 by_cases DY:j=k
 ·subst DY;have hl:j<listed.size:=by
   rcases Nat.lt_or_ge j listed.size with hl|hl
   ·exact hl
   ·rw[Array.getD_eq_getD_getElem?,Array.getElem?_eq_none hl] at h;cases h
  simp[hl]
 ·rw[getD_set_ne false DY];exact h
theorem aib {listed:Array Bool}{j:Nat}{oj:Oper}(ai:Closed bX bh listed)(aM:bh[j]? = some oj)(hall:∀ e ∈ oj.after,Region.binds bX e=true->listed.getD e.on false=true):Closed bX bh (listed.setIfInBounds j true):=by
 intro m wH aV hl e au D;refine acf ?_
 by_cases rg:j=m
 ·subst rg;rw[aM] at aV;cases aV;exact hall e au D
 ·rw[getD_set_ne false rg] at hl;exact ai m wH aV hl e au D
def YQ (bX:Region.Mode)(bh:Array Oper)(listed:Array Bool):Bool:=(List.range bh.size).all fun j=>!(listed.getD j false)||(match bh[j]? with|some o=>o.after.all fun e=>!(Region.binds bX e)||listed.getD e.on false|none=>true)
theorem ak6 {listed:Array Bool}(h:YQ bX bh listed=true):Closed bX bh listed:=by
 intro j oj aM hl e au D;have aT:j<bh.size:=(Array.getElem?_eq_some_iff.1 aM).1;have h1:=List.all_eq_true.1 h j (List.mem_range.2 aT);rw[hl,aM] at h1;simp only[Bool.not_true,Bool.false_or] at h1;have O:=Array.all_eq_true'.1 h1 e au;rw[D] at O;simpa using O
theorem aos {i k:Nat}{dQ:Oper}{v:NP}(ay:bh[i]? = some dQ)(hsel:∀ (j:Nat) (o:Oper) cs c,bh[j]? = some o->o.op≠.select cs c)
  (hJ:∀ c a w,Q (.panic c) (a.put dQ.dst v) w->Q (.panic c) a w) (jK:i≠b) (hw:aei bX bh k b i=true) :
  ∀ (n:Nat) (listed:Array Bool) (a:Act) (w:Ny),listed.getD b false=false->Closed bX bh listed ->
   (∀ j oj,bh[j]? = some oj->j≠i->listed.getD j true=false->(∀ e ∈ oj.after,Region.binds bX e=true->e.on≠i)->dQ.apart bh oj=true) ->
   i ∈ Region.ready bX bh listed->YieldsIf P bh S dQ v a->S w ->
   PN P bX bh Q S b n (listed.setIfInBounds i true) (a.put dQ.dst v) w->PN P bX bh Q S b (n+1) listed a w:=by
 have waits:∀ {listed:Array Bool} {j:Nat} {oj:Oper},i ∈ Region.ready bX bh listed->(∀ e ∈ oj.after,Region.binds bX e=true->listed.getD e.on false=true)->∀ e ∈ oj.after,Region.binds bX e=true->e.on≠i:=by
  intro listed j oj U hall e au D qo;exact aBz
 intro n
 induction n with
 | zero=>
  intro listed a w fl _ _ U hy gZ H;refine⟨fun h=>(by rw[h] at U;cases U),fun j aT=>?_⟩
  by_cases iF:j=i
  ·subst iF;exact hy.wpOp ay gZ ⟨fun _=>gZ,H⟩
  ·have aV:=ready_mono aT iF;rw[H.1] at aV;cases aV
 | succ n bR=>
  intro listed a w fl dP hfree U hy gZ H;refine⟨fun h=>(by rw[h] at U;cases U),fun j aT=>?_⟩
  by_cases iF:j=i
  ·subst iF;exact hy.wpOp ay gZ ⟨fun _=>gZ,H⟩
  ·obtain⟨hjun,oj,tX,hall⟩:=mem_ready.1 aT;have hnot:=waits (j:=j) (oj:=oj) U hall;have DX:j≠b:=fun e=>by
    subst e;have hq:=abE dP k j oj tX hall hw;have h0:=(mem_ready.1 U).1
    cases ac:listed[i]? with
    | none=>simp[ac] at hq
    | some x=>simp[ac] at h0 hq;rw[h0] at hq;cases hq
   have z:=kk (∀{G}(h:G:=by
   have vy:S w':=ax.2.1 (by rw[getD_set_ne false DX,getD_set_ne false jK];exact fl)
   refine⟨fun _=>vy,bR (listed.setIfInBounds j true) l9 w' (by rw[getD_set_ne false DX];exact fl) (aib dP tX hall) (fun m wH aV vP wp gH=>hfree m wH aV vP ?_ gH) (ready_mono U (Ne.symm iF)) ax.1 vy ?_⟩
   ·by_cases rg:j=m
    ·subst rg;exact hjun
    ·rw[getD_set_ne true rg] at wp;exact wp
   ·rw[Array.setIfInBounds_comm _ _ iF];exact ax.2.2),G);exact aCq
theorem uc {dQ:Oper}{n:Nat}{listed:Array Bool}{a:Act}{w:Ny}(i:Nat)(v:NP)(ay:bh[i]? = some dQ)(hy:YieldsIf P bh S dQ v a)(gZ:S w)
  (h:PN P bX bh Q S b n (listed.setIfInBounds i true) (a.put dQ.dst v) w) (hJ:∀ c a w,Q (.panic c) (a.put dQ.dst v) w->Q (.panic c) a w:=by exact fun _ _ _ h=>h)
  (ae:Region.noSelect bh=true:=by kernel_rfl) (aG:Region.free bX bh listed i=true:=by kernel_rfl) (U:(Region.ready bX bh listed).contains i=true:=by kernel_rfl)
  (jK:i≠b:=by decide) (hw:aei bX bh bh.size b i=true:=by kernel_rfl) (dP:YQ bX bh listed=true:=by kernel_rfl) (fl:listed.getD b false=false:=by kernel_rfl):PN P bX bh Q S b (n+1) listed a w:=
 aos ay (Region.noSelect_spec ae) hJ jK hw n listed a w fl (ak6 dP) (Region.free_spec ay aG) (by simpa using U) hy gZ h
variable {dQ:Oper}{n:Nat}{listed:Array Bool}{a:Act}{w w0:Ny}
theorem up (i c o:Nat)(gZ:S w)
  (h:PN P bX bh Q S b n (listed.setIfInBounds i true) (a.put dQ.dst (NM c o)) w) (ay:bh[i]? = some dQ:=by rfl) (hJ:∀ ft a w,Q (.panic ft) (a.put dQ.dst (NM c o)) w->Q (.panic ft) a w:=by exact fun _ _ _ h=>h)
  (ae:Region.noSelect bh=true:=by kernel_rfl) (aG:Region.free bX bh listed i=true:=by kernel_rfl) (U:(Region.ready bX bh listed).contains i=true:=by kernel_rfl)
  (jK:i≠b:=by decide) (hy:YieldsIf P bh (fun _=>True) dQ (NM c o) a:=by exact Or.inl ⟨by kernel_rfl,fun _ _=>by go_simp⟩):PN P bX bh Q S b (n+1) listed a w:=
 uh i _ gZ h ay hJ ae aG U jK hy
theorem uk (i:Nat){v:NP}{c o:Nat}(F:w0.cell? (Nv c o)=some v)(gZ:NJ w0 w)
  (h:PN P bX bh Q (fun X=>NJ w0 X) b n (listed.setIfInBounds i true) (a.put dQ.dst v) w) (ay:bh[i]? = some dQ:=by rfl) (hJ:∀ c a w,Q (.panic c) (a.put dQ.dst v) w->Q (.panic c) a w:=by exact fun _ _ _ h=>h)
  (ae:Region.noSelect bh=true:=by kernel_rfl) (aG:Region.free bX bh listed i=true:=by kernel_rfl) (U:(Region.ready bX bh listed).contains i=true:=by kernel_rfl)
  (jK:i≠b:=by decide) (hw:aei bX bh bh.size b i=true:=by kernel_rfl) (dP:YQ bX bh listed=true:=by kernel_rfl) (fl:listed.getD b false=false:=by kernel_rfl)
  (E:Region.wanted dQ (yielded bh a.tmps)=true:=by kernel_rfl) (hy:∀ X:Ny,X.cell? (Nv c o)=some v->(execOp a.eval dQ).run P X=.ok (.value v) X:=by intro X h0;go_simp):PN P bX bh Q (fun X=>NJ w0 X) b (n+1) listed a w:=
 uc i v ay (Or.inl ⟨E,fun X aj=>hy X (Oj aj F)⟩) gZ h hJ ae aG U jK hw dP fl
theorem uk3 (i:Nat){v0 v1 v2:NP}{c:Nat}{R:Prop}(F:w0.cell? (Nv c 0)=some v0/\w0.cell? (Nv c 1)=some v1/\w0.cell? (Nv c 2)=some v2/\R)(gZ:NJ w0 w)
  (h:PN P bX bh Q (fun X=>NJ w0 X) b n (listed.setIfInBounds i true) (a.put dQ.dst (.agg #[v0,v1,v2])) w) (ay:bh[i]? = some dQ:=by rfl) (hJ:∀ c a w,Q (.panic c) (a.put dQ.dst (.agg #[v0,v1,v2])) w->Q (.panic c) a w:=by exact fun _ _ _ h=>h)
  (ae:Region.noSelect bh=true:=by kernel_rfl) (aG:Region.free bX bh listed i=true:=by kernel_rfl) (U:(Region.ready bX bh listed).contains i=true:=by kernel_rfl)
  (jK:i≠b:=by decide) (hw:aei bX bh bh.size b i=true:=by kernel_rfl) (dP:YQ bX bh listed=true:=by kernel_rfl) (fl:listed.getD b false=false:=by kernel_rfl)
  (E:Region.wanted dQ (yielded bh a.tmps)=true:=by kernel_rfl) (hy:∀ X:Ny,X.cell? (Nv c 0)=some v0->X.cell? (Nv c 1)=some v1->X.cell? (Nv c 2)=some v2->(execOp a.eval dQ).run P X=.ok (.value (.agg #[v0,v1,v2])) X:=by intro X h0 h1 O;go_simp):PN P bX bh Q (fun X=>NJ w0 X) b (n+1) listed a w:=
 uc i _ ay (Or.inl ⟨E,fun X aj=>hy X (Oj aj F.1) (Oj aj F.2.1) (Oj aj F.2.2.1)⟩) gZ h hJ ae aG U jK hw dP fl
theorem uk4 (i:Nat){v0 v1 v2 v3:NP}{c:Nat}{R:Prop}(F:w0.cell? (Nv c 0)=some v0/\w0.cell? (Nv c 1)=some v1/\w0.cell? (Nv c 2)=some v2/\w0.cell? (Nv c 3)=some v3/\R)(gZ:NJ w0 w)
  (h:PN P bX bh Q (fun X=>NJ w0 X) b n (listed.setIfInBounds i true) (a.put dQ.dst (.agg #[v0,v1,v2,v3])) w) (ay:bh[i]? = some dQ:=by rfl) (hJ:∀ c a w,Q (.panic c) (a.put dQ.dst (.agg #[v0,v1,v2,v3])) w->Q (.panic c) a w:=by exact fun _ _ _ h=>h)
  (ae:Region.noSelect bh=true:=by kernel_rfl) (aG:Region.free bX bh listed i=true:=by kernel_rfl) (U:(Region.ready bX bh listed).contains i=true:=by kernel_rfl)
  (jK:i≠b:=by decide) (hw:aei bX bh bh.size b i=true:=by kernel_rfl) (dP:YQ bX bh listed=true:=by kernel_rfl) (fl:listed.getD b false=false:=by kernel_rfl)
  (E:Region.wanted dQ (yielded bh a.tmps)=true:=by kernel_rfl) (hy:∀ X:Ny,X.cell? (Nv c 0)=some v0->X.cell? (Nv c 1)=some v1->X.cell? (Nv c 2)=some v2->X.cell? (Nv c 3)=some v3->(execOp a.eval dQ).run P X=.ok (.value (.agg #[v0,v1,v2,v3])) X:=by intro X h0 h1 O ax;go_simp):PN P bX bh Q (fun X=>NJ w0 X) b (n+1) listed a w:=
 uc i _ ay (Or.inl ⟨E,fun X aj=>hy X (Oj aj F.1) (Oj aj F.2.1) (Oj aj F.2.2.1) (Oj aj F.2.2.2.1)⟩) gZ h hJ ae aG U jK hw dP fl
theorem Rj {o0:Nat}(b:Nat)(h:NJ w w.drew->PN P .any bh Q (fun X=>NJ w X) b bh.size (Array.replicate bh.size false) a w.drew)(aV:P.follows .mixedOrders=true:=by kernel_rfl):(Code.region o0 bh true).wp P Q a w:=
 PO b _ aV (h P8.drew)
theorem QX (h:Q .normal a w)(n:Nat)(U:Region.ready bX bh listed=[]:=by kernel_rfl):PN P bX bh Q S b n listed a w:=aDl U h n
theorem ko {K:Act->Ny->Prop}{X:Act->Ny->Prop}(A:Shut (∀ a w,(listed.getD b false=false->S w)->X a w->K a w))(h:X a w)(D:listed.getD b false=true:=by kernel_rfl):K a w:=
 A.out a w (fun e=>by rw[D] at e;cases e) h
end
inductive Ad where
 | mk (p:Nat) (kd:Int) (tx:NR) (n:Int) (ks:List Ad)
def Ad.p:Ad->Nat | .mk p _ _ _ _=>p
def Ad.kd:Ad->Int | .mk _ kd _ _ _=>kd
def Ad.tx:Ad->NR | .mk _ _ tx _ _=>tx
def Ad.ks:Ad->List Ad | .mk _ _ _ _ ks=>ks
mutual
def Ad.tr:Ad->Tr
 | .mk _ kd tx n ks=>.mk kd tx n (Ad.trs ks)
def Ad.trs:List Ad->List Tr
 | []=>[]
 | a::es=>a.tr::Ad.trs es
end
mutual
def Ad.TG:Ad->List Nat
 | .mk p _ _ _ ks=>p::Ad.Rl ks
def Ad.Rl:List Ad->List Nat
 | []=>[]
 | a::es=>a.TG++Ad.Rl es
end
mutual
def QD (I:Nat->Prop)(w:Ny):Ad->Prop
 | .mk p kd tx n ks=>O7 I w (.mk kd tx n (Ad.trs ks)) p/\I p/\(∃ v,w.heap[p]? = some (OA kd tx n v)/\alg I w v (ks.map Ad.p))/\Qd I w ks
def Qd (I:Nat->Prop)(w:Ny):List Ad->Prop
 | []=>True
 | a::es=>QD I w a/\Qd I w es
end
theorem Qd.mem {I:Nat->Prop}{w:Ny}:∀ (es:List Ad),Qd I w es->∀ a ∈ es,QD I w a
 | [],_,_,h=>absurd h Oq
 | x::es,h,a,aw=>by
  rw[Qd] at h
  rcases List.mem_cons.1 aw with rfl|aw
  ·exact h.1
  ·exact Qd.mem es h.2 a aw
mutual
theorem QD.later {I:Nat->Prop}{w w':Ny}(ae:TM I w w'):∀ a:Ad,QD I w a->QD I w' a
 | .mk p kd tx n ks,h=>by
  rw[QD] at h ⊢;obtain⟨aA,al,⟨v,D,U⟩,E⟩:=h;exact⟨O7.later ae _ _ aA,al,⟨v,by rw[ae p al (lt_of_heap D)];exact D,Qs ae U.2 U.1,U.2⟩,Qd.later ae ks E⟩
theorem Qd.later {I:Nat->Prop}{w w':Ny}(ae:TM I w w'):∀ es:List Ad,Qd I w es->Qd I w' es
 | [],_=>by rw[Qd];trivial
 | a::es,h=>by
  rw[Qd] at h ⊢;exact⟨QD.later ae a h.1,Qd.later ae es h.2⟩
end
mutual
theorem QD.mono {I J:Nat->Prop}{w:Ny}(kO:∀ b,I b->b<w.heap.size->J b):∀ a:Ad,QD I w a->QD J w a
 | .mk p kd tx n ks,h=>by
  rw[QD] at h ⊢;obtain⟨aA,al,⟨v,D,U⟩,E⟩:=h;exact⟨O7.mono kO _ _ aA,kO p al (lt_of_heap D),⟨v,D,U.1,fun g hg=>kO g (U.2 g hg) (O9 U.1 g hg).1⟩,Qd.mono kO ks E⟩
theorem Qd.mono {I J:Nat->Prop}{w:Ny}(kO:∀ b,I b->b<w.heap.size->J b):∀ es:List Ad,Qd I w es->Qd J w es
 | [],_=>by rw[Qd];trivial
 | a::es,h=>by
  rw[Qd] at h ⊢;exact⟨QD.mono kO a h.1,Qd.mono kO es h.2⟩
end
theorem Z9:∀ es:List Ad,Ad.trs es=es.map Ad.tr
 | []=>by rw[Ad.trs];rfl
 | a::es=>by rw[Ad.trs,Z9 es];rfl
theorem Ad.aif (a:Ad):a.tr.kd=a.kd/\a.tr.tx=a.tx/\a.tr.kids=a.ks.map Ad.tr:=by
 cases a with
 | mk p kd tx n ks=>rw[Ad.tr,Z9];exact⟨rfl,rfl,rfl⟩
theorem QD.parts {I:Nat->Prop}{w:Ny}{a:Ad}(h:QD I w a):∀ k ∈ a.ks,QD I w k:=by
 cases a with
 | mk p kd tx n ks=>rw[QD] at h;exact Qd.mem ks h.2.2.2
mutual
theorem O7.ad {I:Nat->Prop}{w:Ny}:∀ (t:Tr) (p:Nat),O7 I w t p->∃ a:Ad,a.tr=t/\a.p=p/\QD I w a/\a.TG.Nodup/\∀ b ∈ a.TG,I b
 | .mk kd tx n ks,p,h=>by
  have aA:=h;rw[O7] at h;obtain⟨al,v,ps,D,U,E⟩:=h;obtain⟨es,h1,O,ax,aU,bN⟩:=NT.TG ks ps E;refine⟨.mk p kd tx n es,by rw[Ad.tr,Z9,h1],rfl,?_,?_,?_⟩
  ·rw[QD,O,Z9,h1];exact⟨aA,al,⟨v,D,U⟩,Qd.mono (fun b D _=>D.1) es ax⟩
  ·rw[Ad.TG,List.nodup_cons];exact⟨fun aV=>(bN p aV).2 rfl,aU⟩
  ·rw[Ad.TG];intro b D
   rcases List.mem_cons.1 D with rfl|D
   ·exact al
   ·exact(bN b D).1
theorem NT.TG {I:Nat->Prop}{w:Ny}:∀ (am:List Tr) (ps:List Nat),NT I w am ps->∃ es:List Ad,es.map Ad.tr=am/\es.map Ad.p=ps/\Qd I w es/\(Ad.Rl es).Nodup/\∀ b ∈ Ad.Rl es,I b
 | [],ps,h=>by
  rw[NT] at h;subst h;exact⟨[],rfl,rfl,by rw[Qd];trivial,by rw[Ad.Rl];exact List.nodup_nil,by rw[Ad.Rl];intro b D;cases D⟩
 | t::am,ps,h=>by
  rw[NT] at h;obtain⟨p,eu,M,rfl,h1,O⟩:=h;obtain⟨a,jZ,a2,a3,a4,a5⟩:=O7.ad t p h1;obtain⟨es,dl,b2,em,ot,C7⟩:=NT.TG am eu O;refine⟨a::es,by rw[List.map_cons,jZ,dl],by rw[List.map_cons,a2,b2],?_,?_,?_⟩
  ·rw[Qd];exact⟨QD.mono (fun b D _=>D.1) a a3,Qd.mono (fun b D _=>D.1) es em⟩
  ·rw[Ad.Rl,List.nodup_append];refine⟨a4,ot,fun x ac y hy e=>?_⟩;have hI:=(a5 x ac).2;have hq:=(C7 y hy).2;omega
  ·rw[Ad.Rl];intro b D
   rcases List.mem_append.1 D with D|D
   ·exact(a5 b D).1
   ·exact(C7 b D).1
end
section
variable {I:Nat->Prop} {w:Ny} {a:Ad} (h:QD I w a)
include I w a h
theorem QD.cells:I a.p/\a.p<w.heap.size/\w.cell? (Nv a.p 0)=some (Nr a.kd)/\w.cell? (Nv a.p 1)=some (ND a.tx) /\
  ∃ v,w.cell? (Nv a.p 3)=some v/\alg I w v (a.ks.map Ad.p):=by
 cases a with
 | mk p kd tx n ks=>
  rw[QD] at h;obtain⟨_,al,⟨v,D,U⟩,_⟩:=h;obtain⟨c0,c1,_,c3,_⟩:=node_cells D;exact⟨al,lt_of_heap D,c0,c1,v,c3,U⟩
theorem QD.nat:O7 I w a.tr a.p:=by
 cases a with
 | mk p kd tx n ks=>rw[QD] at h;rw[Ad.tr];exact h.1
end
mutual
def Ad.cnt:Ad->Nat
 | .mk _ _ _ _ ks=>1+Ad.cnts ks
def Ad.cnts:List Ad->Nat
 | []=>0
 | a::es=>a.cnt+Ad.cnts es
end
mutual
theorem Ad.agF:∀ a:Ad,a.tr.count=a.cnt
 | .mk p kd tx n ks=>by rw[Ad.tr,count_mk,Ad.cnt,Ad.aii ks]
theorem Ad.aii:∀ es:List Ad,Tr.counts (Ad.trs es)=Ad.cnts es
 | []=>by rw[Ad.trs,Ad.cnts,Oe]
 | a::es=>by rw[Ad.trs,NZ,Ad.cnts,Ad.agF a,Ad.aii es]
end
mutual
theorem Ad.aij:∀ a:Ad,a.TG.length=a.cnt
 | .mk p kd tx n ks=>by rw[Ad.TG,List.length_cons,Ad.aeu ks,Ad.cnt,Nat.add_comm]
theorem Ad.aeu:∀ es:List Ad,(Ad.Rl es).length=Ad.cnts es
 | []=>by rw[Ad.Rl,Ad.cnts];rfl
 | a::es=>by rw[Ad.Rl,List.length_append,Ad.aij a,Ad.aeu es,Ad.cnts]
end
theorem aev:∀ a b:List Ad,Ad.Rl (a++b)=Ad.Rl a++Ad.Rl b
 | [],b=>by rw[Ad.Rl];rfl
 | x::a,b=>by rw[List.cons_append,Ad.Rl,Ad.Rl,aev a b,List.append_assoc]
theorem aik (a:Ad):1<=a.cnt:=by cases a with|mk p kd tx n ks=>rw[Ad.cnt];omega
theorem aew:∀ es:List Ad,es.length<=Ad.cnts es
 | []=>Nat.zero_le _
 | a::es=>by
  have h1:=aik a;have O:=aew es;rw[Ad.cnts,List.length_cons];omega
theorem aex:∀ (es:List Ad) (a:Ad),a ∈ es->a.cnt<=Ad.cnts es
 | [],_,h=>absurd h Oq
 | x::es,a,h=>by
  rw[Ad.cnts]
  rcases List.mem_cons.1 h with rfl|h
  ·omega
  ·have:=aex es a h;omega
theorem alh (a:Ad):a.cnt=1+Ad.cnts a.ks:=by cases a with|mk p kd tx n ks=>rw[Ad.cnt];rfl
theorem aak (a:Ad):a.TG=a.p::Ad.Rl a.ks:=by cases a with|mk p kd tx n ks=>rw[Ad.TG];rfl
mutual
def wk {α:Type}(f:α->Ad->α × Bool):α->Ad->α
 | a,.mk p kd tx n ks=>if (f a (.mk p kd tx n ks)).2 then wks f (f a (.mk p kd tx n ks)).1 ks else (f a (.mk p kd tx n ks)).1
def wks {α:Type}(f:α->Ad->α × Bool):α->List Ad->α
 | a,[]=>a
 | a,k::ks=>wks f (wk f a k) ks
end
theorem aDn {α:Type}(f:α->Ad->α × Bool)(a:α)(t:Ad):wk f a t=if (f a t).2 then wks f (f a t).1 t.ks else (f a t).1:=by
 cases t with
 | mk p kd tx n ks=>rw[wk];rfl
theorem ajk {α:Type}(f:α->Ad->α × Bool):∀ (l m:List Ad) (a:α),wks f a (l++m)=wks f (wks f a l) m
 | [],m,a=>by rw[List.nil_append,wks]
 | k::l,m,a=>by rw[List.cons_append,wks,wks,ajk f l m]
theorem aow {α:Type}(f:α->Ad->α × Bool)(l:List Ad)(a:α)(k:Nat)(E:k<l.length):wks f a (l.take (k+1))=wk f (wks f a (l.take k)) l[k]:=by
 rw[List.take_succ_eq_append_getElem E,ajk,wks,wks]
theorem aCX {α:Type}(F:Nat)(x:NP)(I:Nat->Prop)(sc:Ny->Ny->Prop)(vd:α->Ny->Prop)(f:α->Ad->α × Bool)(P:α->List Ad->Prop)
  (js:UE F) (hs:∀ W:Ny,(binOp .eql 47 (.func (.func F) #[] #[x]) .nilFunc).run prog W=.ok (NI false) W)
  (Et:∀ a b c,sc a b->sc b c->sc a c) (En:∀ w w',sc w w'->TM I w w'/\w.heap.size<=w'.heap.size)
  (hP:∀ a t am,P a (t::am)->P (f a t).1 ((if (f a t).2 then t.ks else [])++am))
  (bF:∀ a t am w,P a (t::am)->vd a w->QD I w t->NK F #[Nu t.p,x] w fun e w'=>e=NU (NI (f a t).2)/\vd (f a t).1 w'/\sc w w') :
  ∀ (m:Nat) (t:Ad),t.cnt<=m->m<=90000->∀ (am:List Ad) (a:α) (w:Ny),P a (t::am)->vd a w->QD I w t ->
   NK 36 #[Nu t.p,.func (.func F) #[] #[x]] w fun e w'=>e=NU (.tuple #[])/\vd (wk f a t) w'/\P (wk f a t) am/\sc w w':=by
 intro m
 induction m with
 | zero=>intro t a';have:=aik t;omega
 | succ m bR=>
  intro t a' aV am a w nW ay fd;obtain⟨Du,eY,_,_,v,fO,hrow,oV⟩:=fd.cells;have hlen:(t.ks.map Ad.p).length=t.ks.length:=List.length_map _;obtain⟨cT,uc,aO⟩:=Tt hrow;subst aO;rw[hlen] at fO;have ah:=(bF a t am w nW ay fd);have rY:=hide (hP a t am nW);have fs:=hide (aDn f a t);have p0:=hide fd.parts;have th:=hide oV;have np:=hide (bR);have uI:=hide a';have FR:=hide aV;have cV:=hide fO;have p5:=hide eY;have B9:=hide Du;have HLEN:=hide hlen;have GM:=hide Et;have CB:=hide En
  have rh:t.ks.length<=90000:=by have h1:=aew t.ks;have O:=alh t;omega
  clear bF hP ay oV bR a' aV fO eY Du hlen Et En nW;obtain⟨p,al⟩:=xE t.p;rw[<-al] at ah cV p5 B9 ⊢;clear al
  cases ac:(f a t).2 with
  | false=>
   rw[ac] at ah rY fs;clear ac;have z:=kk (∀{G}(h:G:=by
   have hT:=hide iE;have eo:=hide ha1;clear iE ha1;go_wp2_with fail;exact bodyPost_ret (v:=.tuple #[]) (by simp[results,results36,go_sem]) rfl ⟨rfl,by rw[fs.out];exact hT.out,by rw[fs.out];exact rY.out,eo.out⟩),G);exact apo
  | true=>
   rw[ac] at ah rY fs;clear ac;obtain⟨jZ,ha1⟩:=xE ((f a t).1);rw[<-ha1] at ah rY fs;clear ha1;have z:=kk (∀{G}(h:G:=by
   obtain⟨nc,b6⟩:=Ns CB _ _ ha1;have d1:w1.cell? (Nv p 3)=some (.slice cT t.ks.length uc):=by rw[World.cell?_of_block (w:=w) (nc p B9.out p5.out)];exact Ns cV
   have IR:p<w1.heap.size:=Nat.lt_of_lt_of_le p5.out b6;have hT:=hide iE;have eo:=hide ha1;clear iE ha1 b6;go_wp2_with fail
   go_loopw [23] (fun i wr=>∃ k:Nat,k<=t.ks.length/\i=Nr k/\vd (wks f jZ (t.ks.take k)) wr/\P (wks f jZ (t.ks.take k)) (t.ks.drop k++am)/\sc w wr) (fun i _=>t.ks.length - (intOf i).toNat)
   case atStart=>exact⟨0,Nat.zero_le _,rfl,by rw[List.take_zero,wks];exact hT.out,by rw[List.take_zero,wks];exact rY.out,eo.out⟩
   case round=>
    obtain⟨k,E,rfl,hg,qx,gv⟩:=hrel;have uG:=hide hg;have l2:=hide qx;have yk:=hide gv;clear hg gv qx
    by_cases aQ:k<t.ks.length
    ·have z:=kk (∀{G}(h:G:=by
     have dd:k<(t.ks.map Ad.p).length:=by rw[HLEN.out];exact aQ
     have tS:=Ns th g rfl;have dx:=(O9 hrow g rfl).1;obtain⟨kV,cq⟩:=Ns CB _ _ yk.out;obtain⟨q,ag⟩:=xE ((t.ks[k]).p);have eI:wr.cell? (Nv g k)=some (Nu q):=by
      rw[World.cell?_of_block (w:=w) (a:=(Nv g k)) (kV g tS dx),hcell k dd,List.getElem_map,ag]
     have mo:QD I wr t.ks[k]:=QD.later kV _ (Ns p0 _ (List.getElem_mem aQ));have Ax:g<wr.heap.size:=Nat.lt_of_lt_of_le dx cq;have mZ:(t.ks[k]).cnt<=m:=by
      have h1:=aex t.ks _ (List.getElem_mem aQ);have O:=alh t;have ax:=Ns uI;omega
     have qx:=Ns l2;rw[List.drop_eq_getElem_cons aQ,List.cons_append] at qx;have ah:=(np.out t.ks[k] mZ (by have:=Ns FR;omega) (t.ks.drop (k+1)++am) _ wr qx uG.out mo)
     have ts:=hide (aow f t.ks jZ k aQ);rw[<-ag] at ah;have hL:(k:Int)<(t.ks.length:Int):=Nw;clear hcell mZ qx cq ag;go_wp2_with fail;refine cm ah ?_;rintro e w2 ⟨rfl,eH,bK,ha2⟩;have hn:=hide eH;have dF:=hide bK;have ec:=hide (Ns GM _ _ _ yk.out ha2);clear eH ha2 bK eI;go_wp2_with fail
     go_roundw
     case rel=>exact⟨k+1,by omega,by go_num,by rw[ts.out];exact hn.out,by rw[ts.out];exact dF.out,ec.out⟩
     case measure=>simp[intOf];omega),G);exact atw
    ·have e4:k=t.ks.length:=Nw;subst e4;go_wp2_with fail
     go_end0
     have h1:=Ns uG;have O:=Ns l2;rw[List.take_length] at h1 O;rw[List.drop_length,List.nil_append] at O;rw[fs.out];exact⟨rfl,h1,O,yk.out⟩),G);exact apo
def mkP (e:(Nat × NP) × Nat):MapEntry:={ key:=Nu e.1.1,val:=e.1.2,born:=e.2 }
def VK (l:List (Nat × NP)):Array MapEntry:=((l.zipIdx).map mkP).toArray
def Cl (W:Ny)(p:Nat):Prop:=∃ cs t,W.heap[p]? = some (Og cs t)
theorem aEJ (W:Ny):(sizeOf 40).run prog W=.ok 4 W:=by kernel_rfl
theorem avR {W:Ny}{p q:Nat}(al:Cl W p)(ag:Cl W q):(Op.equal 22 (Nu p) (Nu q)).run prog W=.ok (decide (p=q)) W:=by
 obtain⟨ca,ta,aw⟩:=al;obtain⟨cb,tb,D⟩:=ag;have q8:=underlying22
 show (Op.equalIn (9999+1) 22 (Nu p) (Nu q)).run prog W=_
 rw[Op.equalIn,Sem.run_bind,run_underlying q8 W];simp only[Result.andThen_ok,Sem.run_bind,aEJ]
 by_cases h:p=q
 ·subst h;rw[decide_eq_true rfl];exact run_sameAddr_same _ _
 ·rw[decide_eq_false h];exact run_sameAddr_other W (a:=(Nv p 0)) (b:=(Nv q 0)) (fun e=>h (by cases e;rfl)) aw D
theorem afZ {W:Ny}{p:Nat}(al:Cl W p):∀ (l:List (Nat × NP)) (n i:Nat),(∀ e ∈ l,Cl W e.1) ->
  ∃ o,(Instr.findAsking 22 (Nu p) ((l.zipIdx n).map mkP) i).run prog W=.ok o W/\o.map (·.2)=(l.find? (fun e=>decide (p=e.1))).map (·.2)
 | [],_,_,_=>⟨none,rfl,rfl⟩
 | e::l,n,i,h=>by
  have h1:=avR al (h e Oq);simp only[List.zipIdx_cons,List.map_cons,Instr.findAsking,mkP,Sem.run_bind,h1,Result.andThen_ok,List.find?_cons]
  cases hd:decide (p=e.1)
  ·simp only[Bool.false_eq_true,if_false];exact afZ al l (n+1) (i+1) (fun e au=>h e (by simp[au]))
  ·exact⟨some (i,e.2),rfl,rfl⟩
theorem aiR {W:Ny}{p:Nat}(al:Cl W p)(l:List (Nat × NP))(h:∀ e ∈ l,Cl W e.1) :
  ∃ o,(Instr.findKey 22 (Nu p) (VK l).toList).run prog W=.ok o W/\o.map (·.2)=(l.find? (fun e=>decide (p=e.1))).map (·.2):=by
 have q8:=underlying22
 cases l with
 | nil=>
  refine⟨none,?_,rfl⟩;unfold Instr.findKey;rw[Sem.run_bind,run_underlying q8 W];rfl
 | cons e l=>
  obtain⟨o,h1,O⟩:=afZ al (e::l) 0 0 h;refine⟨o,?_,O⟩;unfold Instr.findKey;rw[Sem.run_bind,run_underlying q8 W];simp only[Result.andThen_ok,VK];exact h1
theorem akP (l:List (Nat × NP))(k:Nat)(v:NP):(VK l).push { key:=Nu k,val:=v,born:=l.length }=VK (l++[(k,v)]):=by
 unfold VK;rw[List.zipIdx_append,List.map_append];simp[mkP,List.zipIdx]
theorem ahT (m:Nat)(l:List (Nat × NP))(p:Nat)(v:NP)(W:Ny)(aV:W.heap[m]? = some (.map (VK l) l.length))(al:Cl W p)(hl:∀ e ∈ l,Cl W e.1)(aA:l.find? (fun e=>decide (p=e.1))=none) :
  (Instr.mapUpdate 80 (.map (some m)) (Nu p) v).run prog W=.ok () (OW W m (.map (VK (l++[(p,v)])) (l.length+1))):=by
 obtain⟨o,ax,O⟩:=aiR al l hl;have q8:=underlying22;have zN:=underlying80;have aM:o=none:=by
  rw[aA] at O
  cases o with
  | none=>rfl
  | some y=>simp at O
 subst aM;have eI:∀ b,(Instr.checkKey b 10000 22 (Nu p)).run prog W=.ok () W:=by
  intro b;rw[Instr.checkKey,Sem.run_bind,run_underlying q8 W];rfl
 have hg:(getObj m).run prog W=.ok (.map (VK l) l.length) W:=by simp[getObj,Sem.run,aV]
 unfold Instr.mapUpdate;rw[Sem.run_bind,run_underlying zN W];simp only[Result.andThen_ok,Sem.run_bind,hg,eI,ax];rw[akP];simp[setObj,Sem.run,aV,OW]
theorem aq7 (l:List (Nat × NP)):(VK l).size=l.length:=by simp[VK]
def Ve (l:List Nat):List (Nat × NP):=l.zipIdx.map fun e=>(e.1,Nr (e.2:Int))
theorem abt (l:List Nat):(Ve l).length=l.length:=by simp[Ve]
theorem akQ (l:List Nat)(p:Nat):Ve (l++[p])=Ve l++[(p,Nr (l.length:Int))]:=by
 simp[Ve,List.zipIdx_append,List.zipIdx]
theorem abb {l:List Nat}{e:Nat × NP}(h:e ∈ Ve l):e.1 ∈ l:=by
 unfold Ve at h;obtain⟨x,ac,rfl⟩:=List.mem_map.1 h;obtain⟨cj,dD⟩:=x;have:=List.mem_zipIdx ac;simp only;rw[this.2.2];exact List.getElem_mem _
theorem acJ {p:Nat}{l:List Nat}(h:p ∉ l):(Ve l).find? (fun e=>decide (p=e.1))=none:=by
 rw[List.find?_eq_none];intro e au;have:=abb au;simp only[decide_eq_true_eq];rintro rfl;exact h this
structure Nms (mb nb:Nat)(l:List Nat)(w:Ny):Prop where
 word:w.heap[nb]? = some (Og #[.map (some mb)] 80)
 map:w.heap[mb]? = some (.map (VK (Ve l)) l.length)
 old:∀ p ∈ l,Cl w p
def nmF (l:List Nat)(t:Ad):List Nat × Bool:=(l++[t.p],true)
mutual
theorem asE:∀ (t:Ad) (l:List Nat),wk nmF l t=l++t.TG
 | .mk p kd tx n ks,l=>by
  rw[wk,Ad.TG];simp only[nmF,if_true];rw[show (Ad.mk p kd tx n ks).p=p from rfl,anY ks,List.append_assoc];rfl
theorem anY:∀ (am:List Ad) (l:List Nat),wks nmF l am=l++Ad.Rl am
 | [],l=>by rw[wks,Ad.Rl,List.append_nil]
 | t::am,l=>by rw[wks,asE t,anY am,Ad.Rl,List.append_assoc]
end
theorem QD.cl {I:Nat->Prop}{w:Ny}{a:Ad}(h:QD I w a):Cl w a.p:=by
 cases a with
 | mk p kd tx n ks=>
  rw[QD] at h;obtain⟨_,_,⟨v,D,_⟩,_⟩:=h;exact⟨_,_,D⟩
theorem af0 {mb nb:Nat}{l:List Nat}{t:Ad}{I:Nat->Prop}{w:Ny}(hN:Nms mb nb l w)(a':QD I w t)(al:t.p ∉ l) :
  NK 73 #[Nu t.p,NM nb 0] w fun e w'=>e=NU (NI true)/\w'=OW w mb (.map (VK (Ve (l++[t.p]))) (l.length+1)):=by
 have hw:w.cell? (Nv nb 0)=some (.map (some mb)):=by rw[cell_of hN.word];rfl
 have aO:=ahT mb (Ve l) t.p (Nr (l.length:Int)) w (by rw[abt];exact hN.map) a'.cl (fun e au=>hN.old _ (abb au)) (acJ al)
 rw[abt,<-akQ] at aO;have hl:(Builtin.len_ #[80] 3 #[.map (some mb)]).run prog w=.ok (Nr (l.length:Int)) w:=by
  simp[Builtin.len_,getObj,Sem.run,hN.map,aq7,abt,goInt]
 obtain⟨p,bK⟩:=xE t.p;rw[<-bK] at aO ⊢;clear al bK;go_enter func73,ntmps73;go_wp2_with fail;go_ret;exact⟨rfl,rfl⟩
theorem Cl.set {w:Ny}{m p:Nat}{o:Obj}{es:Array MapEntry}{k:Nat}(h:Cl w p)(aV:w.heap[m]? = some (.map es k)):Cl (OW w m o) p:=by
 obtain⟨cs,t,ai⟩:=h;refine⟨cs,t,?_⟩;rw[PL (fun e=>by rw[e,aV] at ai;cases ai)]
 exact ai
theorem Nms.next {mb nb:Nat}{l:List Nat}{p:Nat}{w:Ny}(h:Nms mb nb l w)(al:Cl w p)(ci:nb≠mb):Nms mb nb (l++[p]) (OW w mb (.map (VK (Ve (l++[p]))) (l.length+1))):=by
 refine⟨by rw[PL ci];exact h.word,by rw[VR (lt_of_heap h.map),List.length_append];rfl,fun q ag=>?_⟩
 rcases List.mem_append.1 ag with ag|ag
 ·exact(h.old q ag).set h.map
 ·rw[List.mem_singleton.1 ag];exact al.set h.map
theorem akR {m B:Nat}(w:Ny)(o:Obj):Ap m B w (OW w m o):=⟨rfl,rfl,rfl,by rw[Us];exact OH,fun k _ E=>PL E⟩
theorem aEK:UE 73:=fun _ _=>by kernel_rfl
theorem ahD {I:Nat->Prop}(t:Ad)(w:Ny)(a':QD I w t)(hd:t.TG.Nodup)(ai:t.cnt<=90000) :
  NK 38 #[Nu t.p] w fun e w'=>(∃ mb,e=NU (.map (some mb))/\w.heap.size<=mb/\w'.heap[mb]? = some (.map (VK (Ve t.TG)) t.TG.length))/\NJ w w':=by
 obtain⟨w2,de⟩:=xE ((w.alloc (.map #[] 0)).alloc (.cells #[.map (some w.heap.size)] 80));have aE:NJ w w2:=by
  rw[de];exact OM.alloc Oq _
 have kV:w2.heap.size=w.heap.size+2:=by rw[de];simp
 have av:(w.alloc (.map #[] 0)).heap.size=w.heap.size+1:=by simp
 have hN:Nms w.heap.size (w.heap.size+1) [] w2:=by
  refine⟨?_,?_,fun p al=>absurd al Oq⟩
  ·rw[de,<-av];exact NG _ _
  ·rw[de,Below.heap_alloc _ _ _ Oq];exact NG _ _
 have ah:=(aCX 73 (NM (w.heap.size+1) 0) (fun b=>b<w.heap.size+2/\b≠w.heap.size) (Ap w.heap.size (w.heap.size+2)) (Nms w.heap.size (w.heap.size+1)) nmF (fun l am=>(l++Ad.Rl am).Nodup) aEK (fun W=>by kernel_rfl)
  (fun _ _ _ h k=>h.trans k) (fun w w' h=>⟨fun b D _=>h.block b D.1 D.2,h.size⟩)
  (fun l t am h=>by
   simp only[nmF,if_true];rw[Ad.Rl,aak] at h;rw[aev];simpa using h)
  (fun l t am w' h oB dK=>by
   have al:t.p ∉ l:=by
    rw[Ad.Rl,aak,List.nodup_append] at h;exact fun aV=>h.2.2 _ aV _ Oq rfl
   refine(af0 oB dK al).mono ?_;rintro e ao ⟨rfl,rfl⟩;exact⟨rfl,oB.next dK.cl Nw,akR _ _⟩)
  t.cnt t OH ai [] [] w2 (by rw[List.nil_append,Ad.Rl,Ad.Rl,List.append_nil];exact hd) hN
  (QD.later (I:=fun b=>b<w.heap.size+2/\b≠w.heap.size) (fun b D hl=>aE.block b hl) _ (QD.mono (fun b _ hl=>⟨by omega,by omega⟩) _ a')))
 rw[asE,List.nil_append] at ah;obtain⟨p,al⟩:=xE t.p;rw[<-al] at ah ⊢;have eU:=hide kV;rw[de] at ah;have bu:=hide de;have sG:=mkMap 80;clear kV av hd ai al de;go_enter func38,ntmps38;go_wp2_with fail;refine cm ah ?_;rintro e ao ⟨rfl,oN,_,ha3⟩;have hw:ao.cell? (Nv (w.heap.size+1) 0)=some (.map (some w.heap.size)):=by rw[cell_of oN.word];rfl
 have hU:=hide oN.map;rw[<-bu.out] at ha3;have ef:NJ w ao:=aE.trans ((ha3.mono Nw).below OH);go_wp2_with fail;go_ret;exact⟨⟨_,rfl,OH,hU.out⟩,ef⟩
def WZ (I:Nat->Prop)(B:Nat)(w:Ny)(v:NP)(am:List Tr):Prop:=∃ ps:List Nat,w.ownsRow B 22 1 v ps.length (ps.map Nu)/\TN I w am ps
theorem XZ {w:Ny}{B B' e sz:Nat}{v:NP}{n:Nat}{xs:List NP}(h:w.ownsRow B e sz v n xs)(aZ:B'<=B):w.ownsRow B' e sz v n xs:=by
 obtain⟨h1,O|⟨g,cap,cl,ax,aU,bN⟩⟩:=h
 ·exact⟨h1,Or.inl O⟩
 ·exact⟨h1,Or.inr ⟨g,cap,cl,ax,Nat.le_trans aZ aU,bN⟩⟩
theorem TN.mono {I J:Nat->Prop}{w:Ny}(kO:∀ b,I b->b<w.heap.size->J b):∀ (am:List Tr) (ps:List Nat),TN I w am ps->TN J w am ps
 | [],_,h=>h
 | _::am,_,⟨p,eu,e,h1,O⟩=>⟨p,eu,e,O7.mono kO _ p h1,TN.mono kO am eu O⟩
section
variable {I:Nat->Prop}
include I
theorem WZ.atx {B:Nat}{w:Ny}{v:NP}{am:List Tr}(h:WZ I B w v am):Rn B w v am:=by
 obtain⟨ps,h1,O⟩:=h;exact⟨ps,h1,TN.mono (fun _ _ _=>trivial) _ _ O⟩
theorem WZ.low {B B':Nat}{w:Ny}{v:NP}{am:List Tr}(h:WZ I B w v am)(aZ:B'<=B):WZ I B' w v am:=by
 obtain⟨ps,h1,O⟩:=h;exact⟨ps,XZ h1 aZ,O⟩
theorem WZ.later {B:Nat}{w w':Ny}{v:NP}{am:List Tr}(h:WZ I B w v am)(D:NJ w w'):WZ I B w' v am:=by
 exact axC
end
section
variable {I:Nat->Prop} {B:Nat} {w:Ny} {v:NP} {am:List Tr} (h:WZ I B w v am)
include I B w v am h
theorem WZ.form:∃ a cap,v=.slice a am.length cap:=h.atx.form
theorem WZ.cell (k:Nat)(E:k<am.length):∃ g cap p,v=.slice (some (Nv g 0)) am.length cap/\g<w.heap.size/\w.cell? (Nv g k)=some (Nu p)/\O7 I w am[k] p:=by
 exact axD
end
end Go.Proofs.YticfnaiehdpbmaaGreatDoor
