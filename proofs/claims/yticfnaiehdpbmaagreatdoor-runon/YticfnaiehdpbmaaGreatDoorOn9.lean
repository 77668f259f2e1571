import Derived.Test.YticfnaiehdpbmaaGreatDoorOn5
import Derived.Test.YticfnaiehdpbmaaGreatDoorOn8
import Derived.Lib.SliceRun
import Derived.OwnWalk
set_option maxRecDepth 100000
set_option maxHeartbeats 8000000
set_option linter.all false
namespace Go.Proofs.YticfnaiehdpbmaaGreatDoor
open Go.RowKit Go.Proofs.Tryz
section
variable {P:Program} {bZ:Region.Mode} {bh:Array Oper} {Q:Exit->Act->Ov->Prop} {S:Ov->Prop} {b:Nat}
def QC (P:Program)(bZ:Region.Mode)(bh:Array Oper)(Q:Exit->Act->Ov->Prop)(S:Ov->Prop)(b:Nat):Nat->Array Bool->Act->Ov->Prop
 | 0,listed,a,w=>Region.ready bZ bh listed=[]/\Q .normal a w
 | n+1,listed,a,w=>(Region.ready bZ bh listed=[]->Q .normal a w)/\∀ i ∈ Region.ready bZ bh listed,wpOp P bh Q i (fun mi w'=>((listed.setIfInBounds i true).getD b false=false->S w')/\QC P bZ bh Q S b n (listed.setIfInBounds i true) mi w') a w
def acZ:∀ (n:Nat) (listed:Array Bool) (a:Act) (w:Ov),QC P bZ bh Q S b n listed a w->wpAny P bZ bh Q n listed a w
 | 0,_,_,_,h=>h
 | n+1,_,_,_,h=>⟨h.1,fun i am=>wpOp_mono (fun mi w' fq=>acZ n _ mi w' fq.2) (h.2 i am)⟩
def ahX {i:Nat}{dN:Oper}{v:OG}(am:bh[i]? = some dN)(hsel:∀ (j:Nat) (o:Oper) cs c,bh[j]? = some o->o.op≠.select cs c)
  (hO:∀ c a w,Q (.panic c) (a.put dN.dst v) w->Q (.panic c) a w) (jN:i≠b) :
  ∀ (n:Nat) (listed:Array Bool) (a:Act) (w:Ov),
   (∀ j oj,bh[j]? = some oj->j≠i->listed.getD j true=false->(∀ e ∈ oj.after,Region.binds bZ e=true->e.on≠i)->dN.apart bh oj=true) ->
   i ∈ Region.ready bZ bh listed->YieldsIf P bh (fun _=>True) dN v a->(listed.getD b false=false->S w) ->
   QC P bZ bh Q S b n (listed.setIfInBounds i true) (a.put dN.dst v) w->QC P bZ bh Q S b (n+1) listed a w:=by
 have waits:∀ {listed:Array Bool} {oj:Oper},i ∈ Region.ready bZ bh listed->(∀ e ∈ oj.after,Region.binds bZ e=true->listed.getD e.on false=true)->∀ e ∈ oj.after,Region.binds bZ e=true->e.on≠i:=by
  intro listed oj aa hall e aq D t7;exact aDZ
 intro n
 induction n with
 | zero=>
  intro listed a w _ aa hy eC H;refine⟨fun h=>(by rw[h] at aa;cases aa),fun j aN=>?_⟩
  by_cases iN:j=i
  ·subst iN;exact hy.wpOp am trivial ⟨fun h=>eC (by rw[getD_set_ne false jN] at h;exact h),H⟩
  ·have aS:=ready_mono aN iN;rw[H.1] at aS;cases aS
 | succ n bn=>
  intro listed a w hfree aa hy eC H;refine⟨fun h=>(by rw[h] at aa;cases aa),fun j aN=>?_⟩
  by_cases iN:j=i
  ·subst iN;exact hy.wpOp am trivial ⟨fun h=>eC (by rw[getD_set_ne false jN] at h;exact h),H⟩
  ·obtain⟨hjun,oj,ul,hall⟩:=mem_ready.1 aN;have hnot:=waits (oj:=oj) aa hall;have z:=Oq (∀{G}(h:G:=by
   have vT:(listed.setIfInBounds j true).getD b false=false->S w':=fun h=>aw.2.1 (by rw[Array.setIfInBounds_comm _ _ (Ne.symm iN),getD_set_ne false jN];exact h)
   refine⟨vT,bn (listed.setIfInBounds j true) mi w' (fun m w4 aS wj wK gM=>hfree m w4 aS wj ?_ gM) (ready_mono aa (Ne.symm iN)) aw.1 vT ?_⟩
   ·by_cases rj:j=m
    ·subst rj;exact hjun
    ·rw[getD_set_ne true rj] at wK;exact wK
   ·rw[Array.setIfInBounds_comm _ _ iN];exact aw.2.2),G);exact aEO
def uh {dN:Oper}{n:Nat}{listed:Array Bool}{a:Act}{w:Ov}(i:Nat)(v:OG)(eC:S w)
  (h:QC P bZ bh Q S b n (listed.setIfInBounds i true) (a.put dN.dst v) w) (am:bh[i]? = some dN:=by rfl) (hO:∀ c a w,Q (.panic c) (a.put dN.dst v) w->Q (.panic c) a w:=by exact fun _ _ _ h=>h)
  (ac:Region.noSelect bh=true:=by kernel_rfl) (aH:Region.free bZ bh listed i=true:=by kernel_rfl) (aa:(Region.ready bZ bh listed).contains i=true:=by kernel_rfl)
  (jN:i≠b:=by decide) (hy:YieldsIf P bh (fun _=>True) dN v a:=by exact Or.inl ⟨by kernel_rfl,fun _ _=>by go_simp⟩):QC P bZ bh Q S b (n+1) listed a w:=
 ahX am (Region.noSelect_spec ac) hO jN n listed a w (Region.free_spec am aH) (by simpa using aa) hy (fun _=>eC) h
def uz {dN:Oper}{n:Nat}{listed:Array Bool}{a:Act}{w:Ov}(i:Nat)(v:OG)
  (h:QC P bZ bh Q S b n (listed.setIfInBounds i true) (a.put dN.dst v) w) (am:bh[i]? = some dN:=by rfl) (hO:∀ c a w,Q (.panic c) (a.put dN.dst v) w->Q (.panic c) a w:=by exact fun _ _ _ h=>h)
  (ac:Region.noSelect bh=true:=by kernel_rfl) (aH:Region.free bZ bh listed i=true:=by kernel_rfl) (aa:(Region.ready bZ bh listed).contains i=true:=by kernel_rfl)
  (jN:i≠b:=by decide) (hl:listed.getD b false=true:=by kernel_rfl) (hy:YieldsIf P bh (fun _=>True) dN v a:=by exact Or.inl ⟨by kernel_rfl,fun _ _=>by go_simp⟩):QC P bZ bh Q S b (n+1) listed a w:=
 ahX am (Region.noSelect_spec ac) hO jN n listed a w (Region.free_spec am aH) (by simpa using aa) hy (fun e=>by rw[hl] at e;cases e) h
def uop {o:Oper}{i:Nat}{a:Act}{w:Ov}{K:Act->Ov->Prop}(aR:bh[i]? = some o)(h:if Region.wanted o (yielded bh a.tmps)=true then Oper.wp P o a w K Q else K (a.put o.dst undef) w):wpOp P bh Q i K a w:=by
 unfold wpOp;simp only[aR]
 split
 ·rename_i hw;rw[if_pos hw] at h;exact .inl h
 ·rename_i hw;rw[if_neg hw] at h;exact h
def P5 {o:Oper}{n:Nat}{listed:Array Bool}{a:Act}{w:Ov}(i:Nat)
  (h:∀ hF:Act->Ov->Prop,Shut (∀ a w,((listed.setIfInBounds i true).getD b false=false->S w)->QC P bZ bh Q S b n (listed.setIfInBounds i true) a w->hF a w)->if Region.wanted o (yielded bh a.tmps)=true then Oper.wp P o a w hF Q else hF (a.put o.dst undef) w)
  (aR:bh[i]? = some o:=by rfl) (aa:Region.ready bZ bh listed=[i]:=by kernel_rfl):QC P bZ bh Q S b (n+1) listed a w:=by
 refine⟨fun h0=>(by rw[aa] at h0;cases h0),fun j aN=>?_⟩
 rw[aa] at aN;obtain rfl:=List.mem_singleton.1 aN;exact uop aR (h _ fun a w h1 U=>⟨h1,U⟩)
def uq2 {o gU:Oper}{n:Nat}{listed:Array Bool}{a:Act}{w:Ov}(i j:Nat)
  (h:∀ hF:Act->Ov->Prop,Shut (∀ a w,((listed.setIfInBounds i true).getD b false=false->S w)->QC P bZ bh Q S b n (listed.setIfInBounds i true) a w->hF a w)->if Region.wanted o (yielded bh a.tmps)=true then Oper.wp P o a w hF Q else hF (a.put o.dst undef) w)
  (fq:∀ hF:Act->Ov->Prop,Shut (∀ a w,((listed.setIfInBounds j true).getD b false=false->S w)->QC P bZ bh Q S b n (listed.setIfInBounds j true) a w->hF a w)->if Region.wanted gU (yielded bh a.tmps)=true then Oper.wp P gU a w hF Q else hF (a.put gU.dst undef) w)
  (aR:bh[i]? = some o:=by rfl) (A6:bh[j]? = some gU:=by rfl) (aa:Region.ready bZ bh listed=[i,j]:=by kernel_rfl):QC P bZ bh Q S b (n+1) listed a w:=by
 refine⟨fun h0=>(by rw[aa] at h0;cases h0),fun m aS=>?_⟩
 rw[aa] at aS
 rcases List.mem_cons.1 aS with rfl|aS
 ·exact uop aR (h _ fun a w h1 U=>⟨h1,U⟩)
 ·obtain rfl:=List.mem_singleton.1 aS;exact uop A6 (fq _ fun a w h1 U=>⟨h1,U⟩)
def aFR {listed:Array Bool}{a:Act}{w:Ov}(aa:Region.ready bZ bh listed=[])(h:Q .normal a w):∀ n,QC P bZ bh Q S b n listed a w
 | 0=>⟨aa,h⟩
 | _+1=>⟨fun _=>h,by rw[aa];simp⟩
def QE {id:Nat}{a:Act}{w:Ov}(b:Nat)(S:Ov->Prop)(aS:P.follows .mixedOrders=true)(h:QC P .any bh Q S b bh.size (Array.replicate bh.size false) a w.drew):(Code.region id bh true).wp P Q a w:=
 wp_region_any aS (acZ _ _ _ _ h)
def afH (bZ:Region.Mode)(bh:Array Oper):Nat->Nat->Nat->Bool
 | 0,_,_=>false
 | n+1,b,i=>match bh[b]? with
  | none=>false
  | some ob=>ob.after.any fun e=>Region.binds bZ e&&(e.on==i||afH bZ bh n e.on i)
def Closed (bZ:Region.Mode)(bh:Array Oper)(listed:Array Bool):Prop:=∀ (j:Nat) (oj:Oper),bh[j]? = some oj->listed.getD j false=true->∀ e ∈ oj.after,Region.binds bZ e=true->listed.getD e.on false=true
def ac0 {listed:Array Bool}{i:Nat}(aj:Closed bZ bh listed):∀ (n j:Nat) (oj:Oper),bh[j]? = some oj->(∀ e ∈ oj.after,Region.binds bZ e=true->listed.getD e.on false=true)->afH bZ bh n j i=true->listed.getD i false=true
 | 0,_,_,_,_,h=>by cases h
 | n+1,j,oj,aR,hall,h=>by
  rw[afH,aR] at h;obtain⟨e,aq,U⟩:=Array.any_eq_true'.1 h;rw[Bool.and_eq_true,Bool.or_eq_true] at U;have aw:=hall e aq U.1
  rcases U.2 with aL|aL
  ·rw[<-eq_of_beq aL];exact aw
  ·
   cases hoe:bh[e.on]? with
   | none=>
    cases n with
    | zero=>cases aL
    | succ n=>rw[afH,hoe] at aL;cases aL
   | some oe=>exact ac0 aj n e.on oe hoe (aj e.on oe hoe aw) aL
def adB {listed:Array Bool}{j k:Nat}(h:listed.getD k false=true):(listed.setIfInBounds j true).getD k false=true:=by
 by_cases Ec:j=k
 ·subst Ec;have hl:j<listed.size:=by
   rcases Nat.lt_or_ge j listed.size with hl|hl
   ·exact hl
   ·rw[Array.getD_eq_getD_getElem?,Array.getElem?_eq_none hl] at h;cases h
  simp[hl]
 ·rw[getD_set_ne false Ec];exact h
def ajZ {listed:Array Bool}{j:Nat}{oj:Oper}(aj:Closed bZ bh listed)(aR:bh[j]? = some oj)(hall:∀ e ∈ oj.after,Region.binds bZ e=true->listed.getD e.on false=true):Closed bZ bh (listed.setIfInBounds j true):=by
 intro m w4 aS hl e aq D;refine adB ?_
 by_cases rj:j=m
 ·subst rj;rw[aR] at aS;cases aS;exact hall e aq D
 ·rw[getD_set_ne false rj] at hl;exact aj m w4 aS hl e aq D
def Z5 (bZ:Region.Mode)(bh:Array Oper)(listed:Array Bool):Bool:=(List.range bh.size).all fun j=>!(listed.getD j false)||(match bh[j]? with|some o=>o.after.all fun e=>!(Region.binds bZ e)||listed.getD e.on false|none=>true)
def am6 {listed:Array Bool}(h:Z5 bZ bh listed=true):Closed bZ bh listed:=by
 intro j oj aR hl e aq D;have aN:j<bh.size:=(Array.getElem?_eq_some_iff.1 aR).1;have h1:=List.all_eq_true.1 h j (List.mem_range.2 aN);rw[hl,aR] at h1;simp only[Bool.not_true,Bool.false_or] at h1;have U:=Array.all_eq_true'.1 h1 e aq;rw[D] at U;simpa using U
def aqR {i k:Nat}{dN:Oper}{v:OG}(am:bh[i]? = some dN)(hsel:∀ (j:Nat) (o:Oper) cs c,bh[j]? = some o->o.op≠.select cs c)
  (hO:∀ c a w,Q (.panic c) (a.put dN.dst v) w->Q (.panic c) a w) (jN:i≠b) (hw:afH bZ bh k b i=true) :
  ∀ (n:Nat) (listed:Array Bool) (a:Act) (w:Ov),listed.getD b false=false->Closed bZ bh listed ->
   (∀ j oj,bh[j]? = some oj->j≠i->listed.getD j true=false->(∀ e ∈ oj.after,Region.binds bZ e=true->e.on≠i)->dN.apart bh oj=true) ->
   i ∈ Region.ready bZ bh listed->YieldsIf P bh S dN v a->S w ->
   QC P bZ bh Q S b n (listed.setIfInBounds i true) (a.put dN.dst v) w->QC P bZ bh Q S b (n+1) listed a w:=by
 have waits:∀ {listed:Array Bool} {j:Nat} {oj:Oper},i ∈ Region.ready bZ bh listed->(∀ e ∈ oj.after,Region.binds bZ e=true->listed.getD e.on false=true)->∀ e ∈ oj.after,Region.binds bZ e=true->e.on≠i:=by
  intro listed j oj aa hall e aq D t7;exact aDZ
 intro n
 induction n with
 | zero=>
  intro listed a w e' _ _ aa hy eC H;refine⟨fun h=>(by rw[h] at aa;cases aa),fun j aN=>?_⟩
  by_cases iN:j=i
  ·subst iN;exact hy.wpOp am eC ⟨fun _=>eC,H⟩
  ·have aS:=ready_mono aN iN;rw[H.1] at aS;cases aS
 | succ n bn=>
  intro listed a w e' dK hfree aa hy eC H;refine⟨fun h=>(by rw[h] at aa;cases aa),fun j aN=>?_⟩
  by_cases iN:j=i
  ·subst iN;exact hy.wpOp am eC ⟨fun _=>eC,H⟩
  ·obtain⟨hjun,oj,ul,hall⟩:=mem_ready.1 aN;have hnot:=waits (j:=j) (oj:=oj) aa hall;have Eb:j≠b:=fun e=>by
    subst e;have hL:=ac0 dK k j oj ul hall hw;have h0:=(mem_ready.1 aa).1
    cases ae:listed[i]? with
    | none=>simp[ae] at hL
    | some x=>simp[ae] at h0 hL;rw[h0] at hL;cases hL
   have z:=Oq (∀{G}(h:G:=by
   have vT:S w':=aw.2.1 (by rw[getD_set_ne false Eb,getD_set_ne false jN];exact e')
   refine⟨fun _=>vT,bn (listed.setIfInBounds j true) mi w' (by rw[getD_set_ne false Eb];exact e') (ajZ dK ul hall) (fun m w4 aS wj wK gM=>hfree m w4 aS wj ?_ gM) (ready_mono aa (Ne.symm iN)) aw.1 vT ?_⟩
   ·by_cases rj:j=m
    ·subst rj;exact hjun
    ·rw[getD_set_ne true rj] at wK;exact wK
   ·rw[Array.setIfInBounds_comm _ _ iN];exact aw.2.2),G);exact aEO
def uc {dN:Oper}{n:Nat}{listed:Array Bool}{a:Act}{w:Ov}(i:Nat)(v:OG)(am:bh[i]? = some dN)(hy:YieldsIf P bh S dN v a)(eC:S w)
  (h:QC P bZ bh Q S b n (listed.setIfInBounds i true) (a.put dN.dst v) w) (hO:∀ c a w,Q (.panic c) (a.put dN.dst v) w->Q (.panic c) a w:=by exact fun _ _ _ h=>h)
  (ac:Region.noSelect bh=true:=by kernel_rfl) (aH:Region.free bZ bh listed i=true:=by kernel_rfl) (aa:(Region.ready bZ bh listed).contains i=true:=by kernel_rfl)
  (jN:i≠b:=by decide) (hw:afH bZ bh bh.size b i=true:=by kernel_rfl) (dK:Z5 bZ bh listed=true:=by kernel_rfl) (e':listed.getD b false=false:=by kernel_rfl):QC P bZ bh Q S b (n+1) listed a w:=
 aqR am (Region.noSelect_spec ac) hO jN hw n listed a w e' (am6 dK) (Region.free_spec am aH) (by simpa using aa) hy eC h
variable {dN:Oper}{n:Nat}{listed:Array Bool}{a:Act}{w w0:Ov}
def up (i c o:Nat)(eC:S w)
  (h:QC P bZ bh Q S b n (listed.setIfInBounds i true) (a.put dN.dst (OM c o)) w) (am:bh[i]? = some dN:=by rfl) (hO:∀ en a w,Q (.panic en) (a.put dN.dst (OM c o)) w->Q (.panic en) a w:=by exact fun _ _ _ h=>h)
  (ac:Region.noSelect bh=true:=by kernel_rfl) (aH:Region.free bZ bh listed i=true:=by kernel_rfl) (aa:(Region.ready bZ bh listed).contains i=true:=by kernel_rfl)
  (jN:i≠b:=by decide) (hy:YieldsIf P bh (fun _=>True) dN (OM c o) a:=by exact Or.inl ⟨by kernel_rfl,fun _ _=>by go_simp⟩):QC P bZ bh Q S b (n+1) listed a w:=
 uh i _ eC h am hO ac aH aa jN hy
def uk (i:Nat){v:OG}{c o:Nat}(F:w0.cell? (Ot c o)=some v)(eC:OD w0 w)
  (h:QC P bZ bh Q (fun X=>OD w0 X) b n (listed.setIfInBounds i true) (a.put dN.dst v) w) (am:bh[i]? = some dN:=by rfl) (hO:∀ c a w,Q (.panic c) (a.put dN.dst v) w->Q (.panic c) a w:=by exact fun _ _ _ h=>h)
  (ac:Region.noSelect bh=true:=by kernel_rfl) (aH:Region.free bZ bh listed i=true:=by kernel_rfl) (aa:(Region.ready bZ bh listed).contains i=true:=by kernel_rfl)
  (jN:i≠b:=by decide) (hw:afH bZ bh bh.size b i=true:=by kernel_rfl) (dK:Z5 bZ bh listed=true:=by kernel_rfl) (e':listed.getD b false=false:=by kernel_rfl)
  (E:Region.wanted dN (yielded bh a.tmps)=true:=by kernel_rfl) (hy:∀ X:Ov,X.cell? (Ot c o)=some v->(execOp a.eval dN).run P X=.ok (.value v) X:=by intro X h0;go_simp):QC P bZ bh Q (fun X=>OD w0 X) b (n+1) listed a w:=
 uc i v am (Or.inl ⟨E,fun X ak=>hy X (O4 ak F)⟩) eC h hO ac aH aa jN hw dK e'
def uk3 (i:Nat){v0 v1 v2:OG}{c:Nat}{R:Prop}(F:w0.cell? (Ot c 0)=some v0/\w0.cell? (Ot c 1)=some v1/\w0.cell? (Ot c 2)=some v2/\R)(eC:OD w0 w)
  (h:QC P bZ bh Q (fun X=>OD w0 X) b n (listed.setIfInBounds i true) (a.put dN.dst (.agg #[v0,v1,v2])) w) (am:bh[i]? = some dN:=by rfl) (hO:∀ c a w,Q (.panic c) (a.put dN.dst (.agg #[v0,v1,v2])) w->Q (.panic c) a w:=by exact fun _ _ _ h=>h)
  (ac:Region.noSelect bh=true:=by kernel_rfl) (aH:Region.free bZ bh listed i=true:=by kernel_rfl) (aa:(Region.ready bZ bh listed).contains i=true:=by kernel_rfl)
  (jN:i≠b:=by decide) (hw:afH bZ bh bh.size b i=true:=by kernel_rfl) (dK:Z5 bZ bh listed=true:=by kernel_rfl) (e':listed.getD b false=false:=by kernel_rfl)
  (E:Region.wanted dN (yielded bh a.tmps)=true:=by kernel_rfl) (hy:∀ X:Ov,X.cell? (Ot c 0)=some v0->X.cell? (Ot c 1)=some v1->X.cell? (Ot c 2)=some v2->(execOp a.eval dN).run P X=.ok (.value (.agg #[v0,v1,v2])) X:=by intro X h0 h1 U;go_simp):QC P bZ bh Q (fun X=>OD w0 X) b (n+1) listed a w:=
 uc i _ am (Or.inl ⟨E,fun X ak=>hy X (O4 ak F.1) (O4 ak F.2.1) (O4 ak F.2.2.1)⟩) eC h hO ac aH aa jN hw dK e'
def uk4 (i:Nat){v0 v1 v2 v3:OG}{c:Nat}{R:Prop}(F:w0.cell? (Ot c 0)=some v0/\w0.cell? (Ot c 1)=some v1/\w0.cell? (Ot c 2)=some v2/\w0.cell? (Ot c 3)=some v3/\R)(eC:OD w0 w)
  (h:QC P bZ bh Q (fun X=>OD w0 X) b n (listed.setIfInBounds i true) (a.put dN.dst (.agg #[v0,v1,v2,v3])) w) (am:bh[i]? = some dN:=by rfl) (hO:∀ c a w,Q (.panic c) (a.put dN.dst (.agg #[v0,v1,v2,v3])) w->Q (.panic c) a w:=by exact fun _ _ _ h=>h)
  (ac:Region.noSelect bh=true:=by kernel_rfl) (aH:Region.free bZ bh listed i=true:=by kernel_rfl) (aa:(Region.ready bZ bh listed).contains i=true:=by kernel_rfl)
  (jN:i≠b:=by decide) (hw:afH bZ bh bh.size b i=true:=by kernel_rfl) (dK:Z5 bZ bh listed=true:=by kernel_rfl) (e':listed.getD b false=false:=by kernel_rfl)
  (E:Region.wanted dN (yielded bh a.tmps)=true:=by kernel_rfl) (hy:∀ X:Ov,X.cell? (Ot c 0)=some v0->X.cell? (Ot c 1)=some v1->X.cell? (Ot c 2)=some v2->X.cell? (Ot c 3)=some v3->(execOp a.eval dN).run P X=.ok (.value (.agg #[v0,v1,v2,v3])) X:=by intro X h0 h1 U aw;go_simp):QC P bZ bh Q (fun X=>OD w0 X) b (n+1) listed a w:=
 uc i _ am (Or.inl ⟨E,fun X ak=>hy X (O4 ak F.1) (O4 ak F.2.1) (O4 ak F.2.2.1) (O4 ak F.2.2.2.1)⟩) eC h hO ac aH aa jN hw dK e'
def TI {id:Nat}(b:Nat)(h:OD w w.drew->QC P .any bh Q (fun X=>OD w X) b bh.size (Array.replicate bh.size false) a w.drew)(aS:P.follows .mixedOrders=true:=by kernel_rfl):(Code.region id bh true).wp P Q a w:=
 QE b _ aS (h QX.drew)
def Sl (h:Q .normal a w)(n:Nat)(aa:Region.ready bZ bh listed=[]:=by kernel_rfl):QC P bZ bh Q S b n listed a w:=aFR aa h n
def ko {K:Act->Ov->Prop}{X:Act->Ov->Prop}(A:Shut (∀ a w,(listed.getD b false=false->S w)->X a w->K a w))(h:X a w)(D:listed.getD b false=true:=by kernel_rfl):K a w:=
 A.out a w (fun e=>by rw[D] at e;cases e) h
end
namespace Hp
section
variable {H:Nat} {R:List OG} {w w1:Ov} {M:Mo} {aA aC:OG} {os cf:List OG} {K:Nat}
def abm:(prog.info? 262).map (fun i=>(i.zero,i.size,i.bytes))=some (some (.agg #[PN,Ol 0,Ol 0,PN,Ol 0,OC false]),6,64):=by kernel_rfl
def Y4 (w:Ov)(H:Nat)(fs:w.heap.size=H)(x:OH)(b:Va)(c:Int)(r:Bool)(j:Nat)(u:OG)(h:([OB x,Ol b.k,Ol b.n,OB b.s,Ol c,OC r]:List OG)[j]? = some u) :
  (w.alloc (.cells #[OB x,Ol b.k,Ol b.n,OB b.s,Ol c,OC r] 262)).cell? (Addr.add (Ot H 0) j)=some u:=by
 subst fs
 match j,h with
 | 0,h=>simp at h;subst h;simp[Addr.add]
 | 1,h=>simp at h;subst h;simp[Addr.add]
 | 2,h=>simp at h;subst h;simp[Addr.add]
 | 3,h=>simp at h;subst h;simp[Addr.add]
 | 4,h=>simp at h;subst h;simp[Addr.add]
 | 5,h=>simp at h;subst h;simp[Addr.add]
 | k+6,h=>simp at h
def abZ (x:OH)(b:Va)(c:Int)(r:Bool):∀ u ∈ ([OB x,Ol b.k,Ol b.n,OB b.s,Ol c,OC r]:List OG),u.oneCell'=true:=by
 intro u aT;simp at aT
 rcases aT with rfl|rfl|rfl|rfl|rfl|rfl <;> rfl
def HP.akk (h:HP H R w M aA aC os cf){i:Nat}{x x':Ro}(am:M.OI[i]? = some x){v v':OG}(av:cf[i]? = some v){g cap:Nat}(aq:aC=.slice (some (Ot g 0)) (M.OI.map Ro.h).length cap)
  (dg:w.grownBy w1 v.ownBlock) (hown:w1.ownsRow H 262 6 v' x'.cs.length (x'.cs.flatMap Ce.h)) (iM:∀ q,v'.ownBlock=some q->v.ownBlock=some q\/w.heap.size<=q) (ae:x'.outer=x.outer/\x'.object=x.object) :
  HP H R (w1.setCell (Ot g (i * 3+2)) v') (M.RZ i x') aA aC os (cf.set i v')/\Py Th H w (w1.setCell (Ot g (i * 3+2)) v'):=by
 have oR:(M.OI.map Ro.h)[i]? = some x.h:=by simp[am]
 have gd:=h.ro;rw[aq] at gd;have aI:=gd.put (O0 (lt_of_block h.blk)) oR av dg hown iM;rw[<-aq] at aI;refine h.ro1 (OI:=M.OI.set i x') ?_ aI.2;rw[List.map_set];have:=aI.1;rw[show x'.h=⟨x.h.hd,x'.cs.length,x'.cs.flatMap Ce.h⟩ by simp[Ro.h,ae]];exact this
def aoG (h:HP H R w M aA aC os cf)(s:Int)(nm:OH)(kd:Int)(n:Va)(aR:M.ro s=none) :
  OE 128 #[OM H 0,Ol s,OB nm,Ol kd,.agg #[Ol n.k,Ol n.n,OB n.s]] w fun e w'=>e=OQ (.iface 34 (Ol 7))/\OD w w':=by
 obtain⟨h0,h1,aH,hb,hl⟩:=h.c;have hout:s<0\/(M.OI.length:Int)<=s:=by
  rcases P7 M s with ⟨_,h⟩|⟨i,x,rfl,_,h⟩
  ·exact h
  ·rw[aR] at h;cases h
 have ai:=(XD aC _ (Qs h.ro.row) s (by simpa using hout) (w.alloc (.cells #[Ol n.k,Ol n.n,OB n.s] 65)));clear h hout aR;go_enter func128,ntmps128;have z:=Oq (∀{G}(h:G:=by
 go_ret;exact⟨rfl,PO⟩),G);exact aoD
section
variable (h:HP H R w M aA aC os cf) (ac:M.Small K) (A:K<=1000000000) (i:Nat) (x:Ro) (am:M.OI[i]? = some x) (nm:OH) (kd:Int) (n:Va)
include h ac A i x am nm kd n
theorem aoH (aR:x.object≠-1) :
  OE 128 #[OM H 0,Ol (i:Int),OB nm,Ol kd,.agg #[Ol n.k,Ol n.n,OB n.s]] w fun e w'=>e=OQ (.iface 34 (Ol 1))/\OD w w':=by
 have z:=Oq (∀{G}(h:G:=by
 have kc:=hide (dK 2 v rfl);have rZ:=hide hg;have cY:=hide lj;obtain⟨lv,dR,dA,b9,cn⟩:=info_parts abm;have bN:=Oq (∀{G}(h:G:=by
 go_ret;exact⟨rfl,e2⟩),G);exact ztf),G);exact aoI
theorem aiS (aR:x.object = -1)(k:Nat)(c:Ce)(E:fC nm x.cs=some k)(aj:x.cs[k]? = some c) :
  OE 128 #[OM H 0,Ol (i:Int),OB nm,Ol kd,.agg #[Ol n.k,Ol n.n,OB n.s]] w fun e w'=>e=OQ (.iface 34 (Ol 9))/\OD w w':=by
 have z:=Oq (∀{G}(h:G:=by
 have qY:=hrow';have kc:=hide (dK 2 v rfl);have rZ:=hide hg;have cY:=hide lj;obtain⟨lv,dR,dA,b9,cn⟩:=info_parts abm;rw[aR] at pJ;obtain⟨iJ,m2,rfl,_,_,_⟩:=atC hrow' aj;rw[E] at d4;simp only[aa0] at d4;clear E aj;obtain⟨ep,me⟩:=xH (w.alloc (.cells #[Ol n.k,Ol n.n,OB n.s] 65));have IT:g<ep.heap.size:=by rw[me.out];exact hg
 rw[show w.alloc (vO n)=ep by rw[me.out]] at ai d4 pJ fs qY kc rZ cY e2;clear dK am h av bz mE lj hg;go_enter func128,ntmps128;have z:=Oq (∀{G}(h:G:=by
 have bL:=(e2.trans (D.mono e2.size));go_wp2;go_ret;exact⟨rfl,bL⟩),G);exact av6),G);exact aoI
theorem al1 (aR:x.object = -1)(E:fC nm x.cs=none)(b4:kd=1) :
  OE 128 #[OM H 0,Ol (i:Int),OB nm,Ol kd,.agg #[Ol n.k,Ol n.n,OB n.s]] w fun e w'=>e=OQ Qp/\(∃ mI,HP H R w' (M.RZ i ⟨x.outer,x.object,x.cs++[⟨nm,n,kd,false⟩]⟩) aA aC os mI)/\Py Th H w w':=by
 have z:=Oq (∀{G}(h:G:=by
 have z:=Oq (∀{G}(h:G:=by
 subst b4;have z:=Oq (∀{G}(h:G:=by
 refine wt 7 (Ol 1) ?_;refine wt 8 (OC false) ?_;refine wr2 4 6 (fun K A=>?ca) fun K A=>?cb
 case' ca=>
  go_simp;refine A _ _ ?_;clear A K;refine QV 6 fun K A=>?_;go_simp;refine A _ _ ?_;clear A K;refine wt 9 (.agg #[OB nm,Ol n.k,Ol n.n,OB n.s,Ol 1,OC false]) ?_;refine QV 10 fun K A=>?_;go_simp;refine A _ _ ?_;clear A K
 case' cb=>
  go_simp;refine A _ _ ?_;clear A K;refine wt 9 (.agg #[OB nm,Ol n.k,Ol n.n,OB n.s,Ol 1,OC false]) ?_;refine wr2 4 10 (fun K A=>?cc) fun K A=>?cd
 case' cc=>
  go_simp;refine A _ _ ?_;clear A K;refine QV 10 fun K A=>?_;go_simp;refine A _ _ ?_;clear A K
 case' cd=>
  go_simp;refine A _ _ ?_;clear A K;refine QV 4 fun K A=>?_;go_simp;refine A _ _ ?_;clear A K
 all_goals
  refine QV 11 fun K A=>?_;refine step_append_lies _ rfl _ _ 196 rfl H 262 lv _ 6 64 underlying196 dR dA b9 cn rfl Oz _ _ _ rfl (qZ.drew.alloc _) (Ot w1.heap.size 0) 1 1 [OB nm,Ol n.k,Ol n.n,OB n.s,Ol 1,OC false] rfl rfl (Y4 _ _ rfl _ _ _ _) (abZ _ _ _ _) Oz (by have:=HLEN.out;unfold maxLen;omega) (by have:=HLEN.out;omega) Rh (w1.heap.size+1) O8 ?_
  intro hJ hG ap hown3 eY db _;refine A _ _ ?_;clear A K;have dg:w1.grownBy ap v.ownBlock:=OJ (OJ (b:=w1.drew) ⟨rfl,rfl,rfl,O6,fun _ _ _=>rfl⟩ (World.grownBy_alloc _ _ _)) eY;have aI:=gv.akk (x':=⟨x.outer,x.object,x.cs++[⟨nm,n,1,false⟩]⟩) gD.out bJ.out jX.out dg (v':=.slice (some (Ot hJ 0)) (x.cs.length+1) hG) (by rw[List.flatMap_append];simpa[Ce.h] using hown3) (fun q ag=>by cases ag;exact db.imp (fun e=>e) (fun e=>by rw[e];exact Nat.le_succ _)) ⟨rfl,rfl⟩
  have dW:=hide aI;have ky:ap.cell? (Ot g (i * 3+2))=some v/\ap.frozen? (Ot g (i * 3+2))=false:=by
   have cl:some g≠v.ownBlock:=fun e=>by
    obtain⟨_,_,he⟩:=gv.ro.nes bJ.out;exact(he g e.symm).2.2.1 (by rw[jX.out];rfl)
   have hbk:=dg.block g dI cl;exact⟨(World.cell?_of_block (w:=w1) (a:=(Ot g (i * 3+2))) hbk).trans f0,(World.frozen?_of_block (w:=w1) (a:=(Ot g (i * 3+2))) hbk).trans hfz1⟩
  obtain⟨rD,rE⟩:=ky;clear aI db f0 hfz1 dn bR c7 fw;refine wt 12 (OM g (i * 3)) ?_;refine wt 13 (OM g (i * 3+2)) ?_;refine QV 14 fun K A=>?_;go_simp;refine A _ _ ?_;clear A K;refine wpAny_done PK ?_ _;go_simp;go_wp2;go_ret;exact⟨rfl,⟨_,dW.out.1⟩,(Py.of bL (O0 hl)).trans dW.out.2⟩),G);exact zsz),G);exact awd),G);exact aoI
theorem aiT (aR:x.object = -1)(E:fC nm x.cs=none)(bT:kd=2) :
  OE 128 #[OM H 0,Ol (i:Int),OB nm,Ol kd,.agg #[Ol n.k,Ol n.n,OB n.s]] w fun e w'=>e=OQ Qp/\(∃ mI,HP H R w' (M.RZ i ⟨x.outer,x.object,x.cs++[⟨nm,n,kd,false⟩]⟩) aA aC os mI)/\Py Th H w w':=by
 have z:=Oq (∀{G}(h:G:=by
 have z:=Oq (∀{G}(h:G:=by
 subst bT;have z:=Oq (∀{G}(h:G:=by
 refine wt 7 (Ol 2) ?_;refine wt 8 (OC false) ?_;refine wr2 4 6 (fun K A=>?ca) fun K A=>?cb
 case' ca=>
  go_simp;refine A _ _ ?_;clear A K;refine QV 6 fun K A=>?_;go_simp;refine A _ _ ?_;clear A K;refine wt 9 (.agg #[OB nm,Ol n.k,Ol n.n,OB n.s,Ol 2,OC false]) ?_;refine QV 10 fun K A=>?_;go_simp;refine A _ _ ?_;clear A K
 case' cb=>
  go_simp;refine A _ _ ?_;clear A K;refine wt 9 (.agg #[OB nm,Ol n.k,Ol n.n,OB n.s,Ol 2,OC false]) ?_;refine wr2 4 10 (fun K A=>?cc) fun K A=>?cd
 case' cc=>
  go_simp;refine A _ _ ?_;clear A K;refine QV 10 fun K A=>?_;go_simp;refine A _ _ ?_;clear A K
 case' cd=>
  go_simp;refine A _ _ ?_;clear A K;refine QV 4 fun K A=>?_;go_simp;refine A _ _ ?_;clear A K
 all_goals
  refine QV 11 fun K A=>?_;refine step_append_lies _ rfl _ _ 196 rfl H 262 lv _ 6 64 underlying196 dR dA b9 cn rfl Oz _ _ _ rfl (qZ.drew.alloc _) (Ot w1.heap.size 0) 1 1 [OB nm,Ol n.k,Ol n.n,OB n.s,Ol 2,OC false] rfl rfl (Y4 _ _ rfl _ _ _ _) (abZ _ _ _ _) Oz (by have:=HLEN.out;unfold maxLen;omega) (by have:=HLEN.out;omega) Rh (w1.heap.size+1) O8 ?_
  intro hJ hG ap hown3 eY db _;refine A _ _ ?_;clear A K;have dg:w1.grownBy ap v.ownBlock:=OJ (OJ (b:=w1.drew) ⟨rfl,rfl,rfl,O6,fun _ _ _=>rfl⟩ (World.grownBy_alloc _ _ _)) eY;have aI:=gv.akk (x':=⟨x.outer,x.object,x.cs++[⟨nm,n,2,false⟩]⟩) gD.out bJ.out jX.out dg (v':=.slice (some (Ot hJ 0)) (x.cs.length+1) hG) (by rw[List.flatMap_append];simpa[Ce.h] using hown3) (fun q ag=>by cases ag;exact db.imp (fun e=>e) (fun e=>by rw[e];exact Nat.le_succ _)) ⟨rfl,rfl⟩
  have dW:=hide aI;have ky:ap.cell? (Ot g (i * 3+2))=some v/\ap.frozen? (Ot g (i * 3+2))=false:=by
   have cl:some g≠v.ownBlock:=fun e=>by
    obtain⟨_,_,he⟩:=gv.ro.nes bJ.out;exact(he g e.symm).2.2.1 (by rw[jX.out];rfl)
   have hbk:=dg.block g dI cl;exact⟨(World.cell?_of_block (w:=w1) (a:=(Ot g (i * 3+2))) hbk).trans f0,(World.frozen?_of_block (w:=w1) (a:=(Ot g (i * 3+2))) hbk).trans hfz1⟩
  obtain⟨rD,rE⟩:=ky;clear aI db f0 hfz1 dn bR c7 fw;refine wt 12 (OM g (i * 3)) ?_;refine wt 13 (OM g (i * 3+2)) ?_;refine QV 14 fun K A=>?_;go_simp;refine A _ _ ?_;clear A K;refine wpAny_done PK ?_ _;go_simp;go_wp2;go_ret;exact⟨rfl,⟨_,dW.out.1⟩,(Py.of bL (O0 hl)).trans dW.out.2⟩),G);exact zsz),G);exact awd),G);exact aoI
theorem aiU (aR:x.object = -1)(E:fC nm x.cs=none)(b4:kd≠1)(bT:kd≠2) :
  OE 128 #[OM H 0,Ol (i:Int),OB nm,Ol kd,.agg #[Ol n.k,Ol n.n,OB n.s]] w fun e w'=>e=OQ Qp/\(∃ mI,HP H R w' (M.RZ i ⟨x.outer,x.object,x.cs++[⟨nm,n,kd,true⟩]⟩) aA aC os mI)/\Py Th H w w':=by
 have z:=Oq (∀{G}(h:G:=by
 have z:=Oq (∀{G}(h:G:=by
 have z:=Oq (∀{G}(h:G:=by
 refine wt 7 (Ol kd) ?_;refine wt 8 (OC true) ?_;refine wr2 4 6 (fun K A=>?ca) fun K A=>?cb
 case' ca=>
  go_simp;refine A _ _ ?_;clear A K;refine QV 6 fun K A=>?_;go_simp;refine A _ _ ?_;clear A K;refine wt 9 (.agg #[OB nm,Ol n.k,Ol n.n,OB n.s,Ol kd,OC true]) ?_;refine QV 10 fun K A=>?_;go_simp;refine A _ _ ?_;clear A K
 case' cb=>
  go_simp;refine A _ _ ?_;clear A K;refine wt 9 (.agg #[OB nm,Ol n.k,Ol n.n,OB n.s,Ol kd,OC true]) ?_;refine wr2 4 10 (fun K A=>?cc) fun K A=>?cd
 case' cc=>
  go_simp;refine A _ _ ?_;clear A K;refine QV 10 fun K A=>?_;go_simp;refine A _ _ ?_;clear A K
 case' cd=>
  go_simp;refine A _ _ ?_;clear A K;refine QV 4 fun K A=>?_;go_simp;refine A _ _ ?_;clear A K
 all_goals
  refine QV 11 fun K A=>?_;refine step_append_lies _ rfl _ _ 196 rfl H 262 lv _ 6 64 underlying196 dR dA b9 cn rfl Oz _ _ _ rfl (qZ.drew.alloc _) (Ot w1.heap.size 0) 1 1 [OB nm,Ol n.k,Ol n.n,OB n.s,Ol kd,OC true] rfl rfl (Y4 _ _ rfl _ _ _ _) (abZ _ _ _ _) Oz (by have:=HLEN.out;unfold maxLen;omega) (by have:=HLEN.out;omega) Rh (w1.heap.size+1) O8 ?_
  intro hJ hG ap hown3 eY db _;refine A _ _ ?_;clear A K;have dg:w1.grownBy ap v.ownBlock:=OJ (OJ (b:=w1.drew) ⟨rfl,rfl,rfl,O6,fun _ _ _=>rfl⟩ (World.grownBy_alloc _ _ _)) eY;have aI:=gv.akk (x':=⟨x.outer,x.object,x.cs++[⟨nm,n,kd,true⟩]⟩) gD.out bJ.out jX.out dg (v':=.slice (some (Ot hJ 0)) (x.cs.length+1) hG) (by rw[List.flatMap_append];simpa[Ce.h] using hown3) (fun q ag=>by cases ag;exact db.imp (fun e=>e) (fun e=>by rw[e];exact Nat.le_succ _)) ⟨rfl,rfl⟩
  have dW:=hide aI;have ky:ap.cell? (Ot g (i * 3+2))=some v/\ap.frozen? (Ot g (i * 3+2))=false:=by
   have cl:some g≠v.ownBlock:=fun e=>by
    obtain⟨_,_,he⟩:=gv.ro.nes bJ.out;exact(he g e.symm).2.2.1 (by rw[jX.out];rfl)
   have hbk:=dg.block g dI cl;exact⟨(World.cell?_of_block (w:=w1) (a:=(Ot g (i * 3+2))) hbk).trans f0,(World.frozen?_of_block (w:=w1) (a:=(Ot g (i * 3+2))) hbk).trans hfz1⟩
  obtain⟨rD,rE⟩:=ky;clear aI db f0 hfz1 dn bR c7 fw;refine wt 12 (OM g (i * 3)) ?_;refine wt 13 (OM g (i * 3+2)) ?_;refine QV 14 fun K A=>?_;go_simp;refine A _ _ ?_;clear A K;refine wpAny_done PK ?_ _;go_simp;go_wp2;go_ret;exact⟨rfl,⟨_,dW.out.1⟩,(Py.of bL (O0 hl)).trans dW.out.2⟩),G);exact zsz),G);exact awd),G);exact aoI
end
def abW {w:Ov}{B:Nat}{e:TypeId}{size g n cap m:Nat}{xs:List OG}(h:w.ownsRow B e size (.slice (some (Ot g 0)) n cap) n xs)(aS:m<=n):w.ownsRow B e size (.slice (some (Ot g 0)) m cap) m (xs.take (m * size)):=by
 have h1:=h.1
 rcases h.2 with ⟨fq,_⟩|⟨g2,cap',cj,fq,D,hg,az,ae,ac,bc⟩
 ·simp at fq
 ·simp only[Value.slice.injEq,Option.some.injEq,Addr.mk.injEq,and_true,true_and] at fq;obtain⟨rfl,rfl⟩:=fq;have gc:m * size<=n * size:=Nat.mul_le_mul_right _ aS;refine⟨by rw[List.length_take,h1];omega,.inr ⟨g,cap,cj,rfl,D,hg,Nat.le_trans aS az,ae,ac,?_⟩⟩
  rw[<-bc,List.take_take,Nat.min_eq_left gc]
def Lm {α:Type}(bs:List α)(k m:Nat):List α:=(bs.eraseIdx k).take m++bs.drop m
section
variable {α:Type} {bs:List α}
include α bs
def aoe {k m:Nat}(E:k<bs.length)(aS:m<bs.length):(Lm bs k m).length=bs.length:=by
 simp[Lm,List.length_eraseIdx,E];omega
def aAg {k m j:Nat}(E:k<bs.length)(aS:m<bs.length)(aN:m<=j):(Lm bs k m)[j]? = bs[j]?:=by
 have hl:((bs.eraseIdx k).take m).length=m:=by simp[List.length_eraseIdx,E];omega
 rw[Lm,List.getElem?_append_right Ou,hl,List.getElem?_drop,Nat.add_sub_cancel' aN]
def agy {k:Nat}(_hk:k<bs.length):Lm bs k k=bs:=by
 rw[Lm,List.eraseIdx_eq_take_drop_succ,List.take_append_of_le_length Rh,List.take_take,Nat.min_self,List.take_append_drop]
def aki {k m:Nat}{b:α}(E:k<=m)(aS:m+1<bs.length)(D:bs[m+1]? = some b):(Lm bs k m).set m b=Lm bs k (m+1):=by
 have cM:k<bs.length:=Ou;have hl:((bs.eraseIdx k).take m).length=m:=by simp[List.length_eraseIdx,cM];omega
 have aq:(bs.eraseIdx k)[m]? = some b:=by rw[List.getElem?_eraseIdx,if_neg Ou];exact D
 rw[Lm,List.set_append_right _ _ Ou,hl,Nat.sub_self,Lm,List.take_add_one,aq];rw[List.append_assoc]
 congr 1
 rw[List.drop_eq_getElem_cons (i:=m) Ou];rfl
def aof {k m:Nat}(E:k<bs.length)(aS:m+1=bs.length):(Lm bs k m).take m=bs.eraseIdx k:=by
 have hl:((bs.eraseIdx k).take m).length=m:=by simp[List.length_eraseIdx,E];omega
 rw[Lm,List.take_append_of_le_length Ou,List.take_take,Nat.min_self,List.take_of_length_le (by simp[List.length_eraseIdx,E];omega)]
end
def aeH {α:Type}{f:α->List OG}{s:Nat}(aH:∀ a,(f a).length=s):∀ (l:List α) (m:Nat),(l.flatMap f).take (m * s)=(l.take m).flatMap f
 | [],m=>by simp
 | a::l,0=>by simp
 | a::l,m+1=>by
  have h:=aeH aH l m;rw[List.flatMap_cons,show (m+1) * s=(f a).length+m * s by rw[aH,Nat.add_mul];omega,List.take_length_add_append,h,List.take_succ_cons,List.flatMap_cons]
def agz:∀ (bs:List Pr) (k:Nat) (b:Pr),k<bs.length->((((((bs.flatMap Pr.h)).set (k * 5) (OB b.name)).set (k * 5+1) (Ol b.v.k)).set (k * 5+2) (Ol b.v.n)).set (k * 5+3) (OB b.v.s)).set (k * 5+4) (OC b.fixed)=(bs.set k b).flatMap Pr.h
 | [],k,b,h=>by simp at h
 | c::bs,0,b,h=>by simp[Pr.h]
 | c::bs,k+1,b,h=>by
  have:=agz bs k b (by simpa using h);have aK:(k+1) * 5=k * 5+1+1+1+1+1:=Ou;simp only[aK,List.set_cons_succ,List.flatMap_cons,Pr.h,List.cons_append,List.nil_append] at this ⊢;rw[this]
def aut (s:OH)(b:Pr)(bD:Nat)(w:Ov)(aI:w.cell? (Ot bD 0)=some (OB s)) :
  OE 335 #[.agg #[OB b.name,Ol b.v.k,Ol b.v.n,OB b.v.s,OC b.fixed],OM bD 0] w fun e w'=>e=OQ (OC (b.name.toList==s.toList))/\OD w w':=by
 have o6:bD<w.heap.size:=World.block_lt_of_cell? w _ aI;go_enter func335,ntmps335;go_wp2;go_ret;exact⟨rfl,PO⟩
def aAh (g cap H:Nat)(bs:List Pr)(s:OH)(bD:Nat)(w:Ov)(hrow:w.ownsRow H 207 5 (.slice (some (Ot g 0)) bs.length cap) bs.length (bs.flatMap Pr.h))(aS:bs.length<=1000000000)(k:Nat)(E:fP s bs=some k)(aI:w.cell? (Ot bD 0)=some (OB s)) :
  OE 350 #[.slice (some (Ot g 0)) bs.length cap,.func (.func 335) #[] #[OM bD 0]] w fun e w'=>e=OQ (Ol k)/\OD w w':=by
 have z:=Oq (∀{G}(h:G:=by
 go_enter func350,ntmps350;go_wp2_with fail
 go_loopw [8] (fun i wr=>∃ m:Nat,m<=k/\i=Ol m/\OD w wr) (fun i _=>k+1 - (intOf i).toNat)
 case atStart=>exact⟨0,Nat.zero_le _,rfl,QX⟩
 case round=>
  obtain⟨m,ui,rfl,D⟩:=hrel;have bG:m<bs.length:=Ou;obtain⟨b,lh⟩:∃ b,bs[m]? = some b:=⟨_,List.getElem?_eq_getElem bG⟩;obtain⟨g2,cap',hS,_,⟨bY,dI,_⟩,_⟩:=atP (Pe hrow D) lh;have z:=Oq (∀{G}(h:G:=by
  have gH:wr.cell? (Ot g (m * 5))=some (OB b.name):=bY 0 _ rfl;have eq:=bY 1 _ rfl;have hz:=bY 2 _ rfl;have jJ:=bY 3 _ rfl;have lc:=bY 4 _ rfl;have cn:wr.cell? (Ot bD 0)=some (OB s):=(cell_below D (a:=(Ot bD 0)) tH.out).trans dW.out;have ai:=(aut s b bD wr cn);exact aAi),G);exact agA),G);exact aAj
def zP:List OG:=[PN,Ol 0,Ol 0,PN,OC false]
def agB (w:Ov)(g o cap:Nat)(aj:∀ j,j<5->(w.cell? (Ot g (o+j))).isSome=true)(aH:∀ j,w.frozen? (Ot g j)=false) :
  (Builtin.clear_ #[183] 0 #[.slice (some (Ot g o)) 1 cap]).run prog w=.ok (.tuple #[]) (w.setCells g o zP):=by
 have bI:=run_storeCells_cells (P:=prog) g o zP 0 w (by simpa[zP] using aj) (by simpa using fun j _=>aH (o+j)) (by intro v hS;simp[zP] at hS;rcases hS with rfl|rfl|rfl|rfl|rfl <;> rfl)
 simp only[Nat.add_zero] at bI;have av:∀ w,(zeroValue 207).run prog w=.ok (.agg #[PN,Ol 0,Ol 0,PN,OC false]) w:=fun w=>by
  obtain⟨lv,dR,dA,b9,cn⟩:=info_parts akj;simp[zeroValue,typeInfo,dR,dA]
 have nq:(Builtin.zeroCells (Value.agg #[PN,Ol 0,Ol 0,PN,OC false]).cells 1).toList=zP:=by kernel_rfl
 simp[Builtin.clear_,run_underlying underlying183,av,nq,bI]
def alR {w:Ov}{g cap H n o:Nat}{xs:List OG}(h:w.ownsRow H 207 5 (.slice (some (Ot g 0)) n cap) n xs)(kt:o<=n):(w.setCells g (o * 5) zP).ownsRow H 207 5 (.slice (some (Ot g 0)) o cap) o (xs.take (o * 5))/\w.grownBy (w.setCells g (o * 5) zP) (some g):=by
 obtain⟨bU,b4⟩:=h.stored (o * 5) (PN);obtain⟨cg,bT⟩:=bU.stored (o * 5+1) (Ol 0);obtain⟨eE,eg⟩:=cg.stored (o * 5+2) (Ol 0);obtain⟨lA,lz⟩:=eE.stored (o * 5+3) (PN);obtain⟨rI,s5⟩:=lA.stored (o * 5+4) (OC false);have ae:((((((xs).set (o * 5) (PN)).set (o * 5+1) (Ol 0)).set (o * 5+2) (Ol 0)).set (o * 5+3) (PN)).set (o * 5+4) (OC false)).take (o * 5)=xs.take (o * 5):=by
  rw[List.take_set_of_le Ou,List.take_set_of_le Ou,List.take_set_of_le Ou,List.take_set_of_le Ou,List.take_set_of_le Ou]
 have ag:=OJ (OJ (OJ (OJ (b4) bT) eg) lz) s5;have aa:=abW rI kt;rw[ae] at aa;exact⟨aa,ag⟩
def agC:∀ (bs:List Ce) (k:Nat) (b:Ce),k<bs.length->(((((((bs.flatMap Ce.h)).set (k * 6) (OB b.name)).set (k * 6+1) (Ol b.v.k)).set (k * 6+2) (Ol b.v.n)).set (k * 6+3) (OB b.v.s)).set (k * 6+4) (Ol b.kind)).set (k * 6+5) (OC b.ready)=(bs.set k b).flatMap Ce.h
 | [],k,b,h=>by simp at h
 | c::bs,0,b,h=>by simp[Ce.h]
 | c::bs,k+1,b,h=>by
  have:=agC bs k b (by simpa using h);have aK:(k+1) * 6=k * 6+1+1+1+1+1+1:=Ou;simp only[aK,List.set_cons_succ,List.flatMap_cons,Ce.h,List.cons_append,List.nil_append] at this ⊢;rw[this]
def auu (s:OH)(b:Ce)(bD:Nat)(w:Ov)(aI:w.cell? (Ot bD 0)=some (OB s)) :
  OE 317 #[.agg #[OB b.name,Ol b.v.k,Ol b.v.n,OB b.v.s,Ol b.kind,OC b.ready],OM bD 0] w fun e w'=>e=OQ (OC (b.name.toList==s.toList))/\OD w w':=by
 have o6:bD<w.heap.size:=World.block_lt_of_cell? w _ aI;go_enter func317,ntmps317;go_wp2;go_ret;exact⟨rfl,PO⟩
def aAk (g cap H:Nat)(bs:List Ce)(s:OH)(bD:Nat)(w:Ov)(hrow:w.ownsRow H 262 6 (.slice (some (Ot g 0)) bs.length cap) bs.length (bs.flatMap Ce.h))(aS:bs.length<=1000000000)(k:Nat)(E:fC s bs=some k)(aI:w.cell? (Ot bD 0)=some (OB s)) :
  OE 336 #[.slice (some (Ot g 0)) bs.length cap,.func (.func 317) #[] #[OM bD 0]] w fun e w'=>e=OQ (Ol k)/\OD w w':=by
 have z:=Oq (∀{G}(h:G:=by
 go_enter func336,ntmps336;go_wp2_with fail
 go_loopw [8] (fun i wr=>∃ m:Nat,m<=k/\i=Ol m/\OD w wr) (fun i _=>k+1 - (intOf i).toNat)
 case atStart=>exact⟨0,Nat.zero_le _,rfl,QX⟩
 case round=>
  obtain⟨m,ui,rfl,D⟩:=hrel;have bG:m<bs.length:=Ou;obtain⟨b,lh⟩:∃ b,bs[m]? = some b:=⟨_,List.getElem?_eq_getElem bG⟩;obtain⟨g2,cap',hS,_,⟨bY,dI,_⟩,_⟩:=atC (Pe hrow D) lh;have z:=Oq (∀{G}(h:G:=by
  have gH:wr.cell? (Ot g (m * 6))=some (OB b.name):=bY 0 _ rfl;have eq:=bY 1 _ rfl;have hz:=bY 2 _ rfl;have jJ:=bY 3 _ rfl;have lc:=bY 4 _ rfl;have nP:=bY 5 _ rfl;have cn:wr.cell? (Ot bD 0)=some (OB s):=(cell_below D (a:=(Ot bD 0)) tH.out).trans dW.out;have ai:=(auu s b bD wr cn);exact aAi),G);exact agA),G);exact aAj
def zC:List OG:=[PN,Ol 0,Ol 0,PN,Ol 0,OC false]
def agD (w:Ov)(g o cap:Nat)(aj:∀ j,j<6->(w.cell? (Ot g (o+j))).isSome=true)(aH:∀ j,w.frozen? (Ot g j)=false) :
  (Builtin.clear_ #[196] 0 #[.slice (some (Ot g o)) 1 cap]).run prog w=.ok (.tuple #[]) (w.setCells g o zC):=by
 have bI:=run_storeCells_cells (P:=prog) g o zC 0 w (by simpa[zC] using aj) (by simpa using fun j _=>aH (o+j)) (by intro v hS;simp[zC] at hS;rcases hS with rfl|rfl|rfl|rfl|rfl|rfl <;> rfl)
 simp only[Nat.add_zero] at bI;have av:∀ w,(zeroValue 262).run prog w=.ok (.agg #[PN,Ol 0,Ol 0,PN,Ol 0,OC false]) w:=fun w=>by
  obtain⟨lv,dR,dA,b9,cn⟩:=info_parts abm;simp[zeroValue,typeInfo,dR,dA]
 have nq:(Builtin.zeroCells (Value.agg #[PN,Ol 0,Ol 0,PN,Ol 0,OC false]).cells 1).toList=zC:=by kernel_rfl
 simp[Builtin.clear_,run_underlying underlying196,av,nq,bI]
def alS {w:Ov}{g cap H n o:Nat}{xs:List OG}(h:w.ownsRow H 262 6 (.slice (some (Ot g 0)) n cap) n xs)(kt:o<=n):(w.setCells g (o * 6) zC).ownsRow H 262 6 (.slice (some (Ot g 0)) o cap) o (xs.take (o * 6))/\w.grownBy (w.setCells g (o * 6) zC) (some g):=by
 obtain⟨bU,b4⟩:=h.stored (o * 6) (PN);obtain⟨cg,bT⟩:=bU.stored (o * 6+1) (Ol 0);obtain⟨eE,eg⟩:=cg.stored (o * 6+2) (Ol 0);obtain⟨lA,lz⟩:=eE.stored (o * 6+3) (PN);obtain⟨rI,s5⟩:=lA.stored (o * 6+4) (Ol 0);obtain⟨yE,BR⟩:=rI.stored (o * 6+5) (OC false);have ae:(((((((xs).set (o * 6) (PN)).set (o * 6+1) (Ol 0)).set (o * 6+2) (Ol 0)).set (o * 6+3) (PN)).set (o * 6+4) (Ol 0)).set (o * 6+5) (OC false)).take (o * 6)=xs.take (o * 6):=by
  rw[List.take_set_of_le Ou,List.take_set_of_le Ou,List.take_set_of_le Ou,List.take_set_of_le Ou,List.take_set_of_le Ou,List.take_set_of_le Ou]
 have ag:=OJ (OJ (OJ (OJ (OJ (b4) bT) eg) lz) s5) BR;have aa:=abW yE kt;rw[ae] at aa;exact⟨aa,ag⟩
def av2 (g cap H:Nat)(bs:List Pr)(s:OH)(bD:Nat)(w:Ov)(hrow:w.ownsRow H 207 5 (.slice (some (Ot g 0)) bs.length cap) bs.length (bs.flatMap Pr.h))(aS:bs.length<=1000000000)(k:Nat)(E:fP s bs=some k)(aT:∀ j b,k<j->bs[j]? = some b->Z7 s b.name=false)(aI:w.heap[bD]? = some (O1 #[OB s] 9)) :
  OE 334 #[.slice (some (Ot g 0)) bs.length cap,.func (.func 335) #[] #[OM bD 0]] w fun e w'=>e=OQ (.slice (some (Ot g 0)) ((bs.eraseIdx k).length:Nat) cap)/\w.grownBy w' (some g)/\w'.ownsRow H 207 5 (.slice (some (Ot g 0)) (bs.eraseIdx k).length cap) (bs.eraseIdx k).length ((bs.eraseIdx k).flatMap Pr.h):=by
 have nq:w.cell? (Ot bD 0)=some (OB s):=by simp[World.cell?,aI]
 have ai:=(aAh g cap H bs s bD w hrow Ou k E nq);have z:=Oq (∀{G}(h:G:=by
 go_enter func334,ntmps334;have z:=Oq (∀{G}(h:G:=by
 go_loopw [5,6] (fun i j wr=>∃ m:Nat,k<=m/\m+1<=N/\i=Ol m/\j=Ol ((m+1:Nat):Int)/\w.grownBy wr (some g)/\wr.ownsRow H 207 5 (.slice (some (Ot g 0)) N cap) N ((Lm bs k m).flatMap Pr.h)) (fun _ j _=>N+1 - (intOf j).toNat)
 case atStart=>exact⟨k,O6,cM,rfl,by go_num,ik,by rw[agy (by rw[<-dB.out];exact cM)];exact qZ⟩
 case round=>
  have z:=Oq (∀{G}(h:G:=by
  by_cases aQ:m+1<N
  ·have z:=Oq (∀{G}(h:G:=by
   obtain⟨g2,cap',hS,_,⟨bY,_,kl⟩,_⟩:=atP hown2 Ay;have z:=Oq (∀{G}(h:G:=by
   have aH:=pt.out (m+1) b Ou lh;have gH:wr.cell? (Ot g ((m+1) * 5))=some (OB b.name):=bY 0 _ rfl;have eq:wr.cell? (Ot g ((m+1) * 5+1))=some (Ol b.v.k):=bY 1 _ rfl;have hz:wr.cell? (Ot g ((m+1) * 5+2))=some (Ol b.v.n):=bY 2 _ rfl;have jJ:wr.cell? (Ot g ((m+1) * 5+3))=some (OB b.v.s):=bY 3 _ rfl;have lc:wr.cell? (Ot g ((m+1) * 5+4))=some (OC b.fixed):=bY 4 _ rfl;have nq:(wr.alloc (.cells #[OB b.name,Ol b.v.k,Ol b.v.n,OB b.v.s,OC b.fixed] 207)).cell? (Ot bD 0)=some (OB s):=by
    rw[World.cell?_alloc_past _ _ _ (lt_of_block jS)];simp[World.cell?,jS]
   have d4:=(aut s b bD _ nq);rw[show (b.name.toList==s.toList)=false from aH] at d4;have yP:=hide lh;have pn:=hide iu;have hget:∀ j,j<5->∃ u,wr.cell? (Ot g (m * 5+j))=some u:=fun j aN=>by
    have:=hown.cellAt (m * 5+j) Ou;rw[this];obtain⟨x,ae⟩:∃ x,(Lm bs k m)[m]? = some x:=⟨_,List.getElem?_eq_getElem Ou⟩;rw[XB (s:=5) (fun _=>rfl) _ m j aN,ae];exact⟨_,List.getElem?_eq_getElem (by simpa[Pr.h] using aN)⟩
   have z:=Oq (∀{G}(h:G:=by
   have z:=Oq (∀{G}(h:G:=by
   have f':Below (wr.heap.size+1) (wr.alloc (.cells #[OB b.name,Ol b.v.k,Ol b.v.n,OB b.v.s,OC b.fixed] 207)) ap:=br.mono O8;have hblk:ap.heap[wr.heap.size]? = some (O1 #[OB b.name,Ol b.v.k,Ol b.v.n,OB b.v.s,OC b.fixed] 207):=(f'.block _ (Nat.lt_succ_self _)).trans (heap_alloc_new wr _);have z:=Oq (∀{G}(h:G:=by
   have rG:ap.cell? (Ot wr.heap.size 4)=some (OC b.fixed):=by simp[World.cell?,hblk]
   have z:=Oq (∀{G}(h:G:=by
   have IU:∀ j,ap.frozen? (Ot g j)=false:=fun j=>by
    rw[World.frozen?_of_block (w:=wr.alloc (.cells #[OB b.name,Ol b.v.k,Ol b.v.n,OB b.v.s,OC b.fixed] 207)) (a:=(Ot g j)) (f'.block g Ou),World.frozen?_alloc_old _ _ _ (by show g≠_;omega)]
    exact kf.out j
   have aZ:ap.cell? (Ot g (m * 5))=some ho:=(db _).trans E8;have p1:ap.cell? (Ot g (m * 5+1))=some gW:=(db _).trans bH;have cK:ap.cell? (Ot g (m * 5+2))=some gC:=(db _).trans i6;have cX:ap.cell? (Ot g (m * 5+3))=some kC:=(db _).trans w3;have nr:ap.cell? (Ot g (m * 5+4))=some uG:=(db _).trans E9;have IX:g≠wr.heap.size:=Ou;have IS:g<ap.heap.size:=Ou
   have hown3:ap.ownsRow H 207 5 (.slice (some (Ot g 0)) N cap) N ((Lm bs k m).flatMap Pr.h):=hown.kept (OJ (World.grownBy_alloc _ _ none) ⟨br.os,br.tape,br.output,br.size,fun j aN _=>br.block j aN⟩) (by simp[Value.ownBlock]);obtain⟨bU,b4⟩:=hown3.stored (m * 5) (OB b.name);obtain⟨cg,bT⟩:=bU.stored (m * 5+1) (Ol b.v.k);obtain⟨eE,eg⟩:=cg.stored (m * 5+2) (Ol b.v.n);obtain⟨lA,lz⟩:=eE.stored (m * 5+3) (OB b.v.s);obtain⟨rI,s5⟩:=lA.stored (m * 5+4) (OC b.fixed)
   rw[agz (Lm bs k m) m b (by rw[pn.out];omega),aki rn (by rw[<-dB.out];exact aQ) yP.out] at rI
   have zc:w.grownBy _ (some g):=OJ dg (OJ (World.grownBy_alloc wr (.cells #[OB b.name,Ol b.v.k,Ol b.v.n,OB b.v.s,OC b.fixed] 207) (some g)) (OJ ⟨br.os,br.tape,br.output,br.size,fun j aN _=>br.block j aN⟩ (OJ (OJ (OJ (OJ (b4) bT) eg) lz) s5)));clear hblk db;go_wp2
   go_roundw
   case rel=>exact⟨m+1,by omega,by omega,by go_num,by go_num,zc,rI⟩
   case measure=>simp[intOf];omega),G);exact aAl),G);exact aAm),G);exact aAn),G);exact aAo),G);exact agA),G);exact aAp
  ·have z:=Oq (∀{G}(h:G:=by
   have uu:((Lm bs k m).flatMap Pr.h).length=(m+1) * 5:=by rw[aog (s:=5) (fun _=>rfl),iu]
   have rT:Hid (∀ j,j<5->(wr.cell? (Ot g (m * 5+j))).isSome=true):=fun j aN=>by
    have:=hown.cellAt (m * 5+j) Ou;rw[this,List.getElem?_eq_getElem (by rw[uu];omega)]
    rfl
   have jD:Hid (∀ j,wr.frozen? (Ot g j)=false):=hown.frozenAt;have aI:=alR (o:=m) hown Ou;rw[aeH (s:=5) (fun _=>rfl),aof hkl' (by rw[<-dB.out])] at aI;have vv:=hide aI;clear jS aI uu iu;go_wp2_with fail;rw[agB wr g (m * 5) _ rT.out jD.out];go_simp;go_wp2;go_ret;exact⟨rfl,OJ dg vv.out.2,vv.out.1⟩),G);exact aAq),G);exact aAr),G);exact aAs),G);exact aAt
def av3 (g cap H:Nat)(bs:List Ce)(s:OH)(bD:Nat)(w:Ov)(hrow:w.ownsRow H 262 6 (.slice (some (Ot g 0)) bs.length cap) bs.length (bs.flatMap Ce.h))(aS:bs.length<=1000000000)(k:Nat)(E:fC s bs=some k)(aT:∀ j b,k<j->bs[j]? = some b->Z7 s b.name=false)(aI:w.heap[bD]? = some (O1 #[OB s] 9)) :
  OE 316 #[.slice (some (Ot g 0)) bs.length cap,.func (.func 317) #[] #[OM bD 0]] w fun e w'=>e=OQ (.slice (some (Ot g 0)) ((bs.eraseIdx k).length:Nat) cap)/\w.grownBy w' (some g)/\w'.ownsRow H 262 6 (.slice (some (Ot g 0)) (bs.eraseIdx k).length cap) (bs.eraseIdx k).length ((bs.eraseIdx k).flatMap Ce.h):=by
 have nq:w.cell? (Ot bD 0)=some (OB s):=by simp[World.cell?,aI]
 have ai:=(aAk g cap H bs s bD w hrow Ou k E nq);have z:=Oq (∀{G}(h:G:=by
 go_enter func316,ntmps316;have z:=Oq (∀{G}(h:G:=by
 go_loopw [5,6] (fun i j wr=>∃ m:Nat,k<=m/\m+1<=N/\i=Ol m/\j=Ol ((m+1:Nat):Int)/\w.grownBy wr (some g)/\wr.ownsRow H 262 6 (.slice (some (Ot g 0)) N cap) N ((Lm bs k m).flatMap Ce.h)) (fun _ j _=>N+1 - (intOf j).toNat)
 case atStart=>exact⟨k,O6,cM,rfl,by go_num,ik,by rw[agy (by rw[<-dB.out];exact cM)];exact qZ⟩
 case round=>
  have z:=Oq (∀{G}(h:G:=by
  by_cases aQ:m+1<N
  ·have z:=Oq (∀{G}(h:G:=by
   obtain⟨g2,cap',hS,_,⟨bY,_,kl⟩,_⟩:=atC hown2 Ay;have z:=Oq (∀{G}(h:G:=by
   have aH:=pt.out (m+1) b Ou lh;have gH:wr.cell? (Ot g ((m+1) * 6))=some (OB b.name):=bY 0 _ rfl;have eq:wr.cell? (Ot g ((m+1) * 6+1))=some (Ol b.v.k):=bY 1 _ rfl;have hz:wr.cell? (Ot g ((m+1) * 6+2))=some (Ol b.v.n):=bY 2 _ rfl;have jJ:wr.cell? (Ot g ((m+1) * 6+3))=some (OB b.v.s):=bY 3 _ rfl;have lc:wr.cell? (Ot g ((m+1) * 6+4))=some (Ol b.kind):=bY 4 _ rfl;have nP:wr.cell? (Ot g ((m+1) * 6+5))=some (OC b.ready):=bY 5 _ rfl
   have nq:(wr.alloc (.cells #[OB b.name,Ol b.v.k,Ol b.v.n,OB b.v.s,Ol b.kind,OC b.ready] 262)).cell? (Ot bD 0)=some (OB s):=by
    rw[World.cell?_alloc_past _ _ _ (lt_of_block jS)];simp[World.cell?,jS]
   have d4:=(auu s b bD _ nq);rw[show (b.name.toList==s.toList)=false from aH] at d4;have yP:=hide lh;have pn:=hide iu;have hget:∀ j,j<6->∃ u,wr.cell? (Ot g (m * 6+j))=some u:=fun j aN=>by
    have:=hown.cellAt (m * 6+j) Ou;rw[this];obtain⟨x,ae⟩:∃ x,(Lm bs k m)[m]? = some x:=⟨_,List.getElem?_eq_getElem Ou⟩;rw[XB (s:=6) (fun _=>rfl) _ m j aN,ae];exact⟨_,List.getElem?_eq_getElem (by simpa[Ce.h] using aN)⟩
   have z:=Oq (∀{G}(h:G:=by
   obtain⟨xa,BN⟩:=hget 5 Oz;have z:=Oq (∀{G}(h:G:=by
   have f':Below (wr.heap.size+1) (wr.alloc (.cells #[OB b.name,Ol b.v.k,Ol b.v.n,OB b.v.s,Ol b.kind,OC b.ready] 262)) ap:=br.mono O8;have hblk:ap.heap[wr.heap.size]? = some (O1 #[OB b.name,Ol b.v.k,Ol b.v.n,OB b.v.s,Ol b.kind,OC b.ready] 262):=(f'.block _ (Nat.lt_succ_self _)).trans (heap_alloc_new wr _);have z:=Oq (∀{G}(h:G:=by
   have rG:ap.cell? (Ot wr.heap.size 4)=some (Ol b.kind):=by simp[World.cell?,hblk]
   have pa:ap.cell? (Ot wr.heap.size 5)=some (OC b.ready):=by simp[World.cell?,hblk]
   have z:=Oq (∀{G}(h:G:=by
   have IU:∀ j,ap.frozen? (Ot g j)=false:=fun j=>by
    rw[World.frozen?_of_block (w:=wr.alloc (.cells #[OB b.name,Ol b.v.k,Ol b.v.n,OB b.v.s,Ol b.kind,OC b.ready] 262)) (a:=(Ot g j)) (f'.block g Ou),World.frozen?_alloc_old _ _ _ (by show g≠_;omega)]
    exact kf.out j
   have aZ:ap.cell? (Ot g (m * 6))=some ho:=(db _).trans E8;have p1:ap.cell? (Ot g (m * 6+1))=some gW:=(db _).trans bH;have cK:ap.cell? (Ot g (m * 6+2))=some gC:=(db _).trans i6;have cX:ap.cell? (Ot g (m * 6+3))=some kC:=(db _).trans w3;have nr:ap.cell? (Ot g (m * 6+4))=some uG:=(db _).trans E9;have Fa:ap.cell? (Ot g (m * 6+5))=some xa:=(db _).trans BN;have IX:g≠wr.heap.size:=Ou;have IS:g<ap.heap.size:=Ou
   have hown3:ap.ownsRow H 262 6 (.slice (some (Ot g 0)) N cap) N ((Lm bs k m).flatMap Ce.h):=hown.kept (OJ (World.grownBy_alloc _ _ none) ⟨br.os,br.tape,br.output,br.size,fun j aN _=>br.block j aN⟩) (by simp[Value.ownBlock]);obtain⟨bU,b4⟩:=hown3.stored (m * 6) (OB b.name);obtain⟨cg,bT⟩:=bU.stored (m * 6+1) (Ol b.v.k);obtain⟨eE,eg⟩:=cg.stored (m * 6+2) (Ol b.v.n);obtain⟨lA,lz⟩:=eE.stored (m * 6+3) (OB b.v.s);obtain⟨rI,s5⟩:=lA.stored (m * 6+4) (Ol b.kind);obtain⟨yE,BR⟩:=rI.stored (m * 6+5) (OC b.ready)
   rw[agC (Lm bs k m) m b (by rw[pn.out];omega),aki rn (by rw[<-dB.out];exact aQ) yP.out] at yE
   have zc:w.grownBy _ (some g):=OJ dg (OJ (World.grownBy_alloc wr (.cells #[OB b.name,Ol b.v.k,Ol b.v.n,OB b.v.s,Ol b.kind,OC b.ready] 262) (some g)) (OJ ⟨br.os,br.tape,br.output,br.size,fun j aN _=>br.block j aN⟩ (OJ (OJ (OJ (OJ (OJ (b4) bT) eg) lz) s5) BR)));clear hblk db;go_wp2
   go_roundw
   case rel=>exact⟨m+1,by omega,by omega,by go_num,by go_num,zc,yE⟩
   case measure=>simp[intOf];omega),G);exact aAl),G);exact aAm),G);exact aAn),G);exact aAo),G);exact agA),G);exact aAp
  ·have z:=Oq (∀{G}(h:G:=by
   have uu:((Lm bs k m).flatMap Ce.h).length=(m+1) * 6:=by rw[aog (s:=6) (fun _=>rfl),iu]
   have rT:Hid (∀ j,j<6->(wr.cell? (Ot g (m * 6+j))).isSome=true):=fun j aN=>by
    have:=hown.cellAt (m * 6+j) Ou;rw[this,List.getElem?_eq_getElem (by rw[uu];omega)]
    rfl
   have jD:Hid (∀ j,wr.frozen? (Ot g j)=false):=hown.frozenAt;have aI:=alS (o:=m) hown Ou;rw[aeH (s:=6) (fun _=>rfl),aof hkl' (by rw[<-dB.out])] at aI;have vv:=hide aI;clear jS aI uu iu;go_wp2_with fail;rw[agD wr g (m * 6) _ rT.out jD.out];go_simp;go_wp2;go_ret;exact⟨rfl,OJ dg vv.out.2,vv.out.1⟩),G);exact aAq),G);exact aAr),G);exact aAs),G);exact aAt
def agE {w W:Ov}{nm:OH}(D:Below (w.heap.size+1) (w.alloc (.cells #[OB nm] 9)) W):W.heap[w.heap.size]? = some (O1 #[OB nm] 9):=(D.block _ (Nat.lt_succ_self _)).trans (heap_alloc_new w _)
section
variable (h:HP H R w M aA aC os cf) (ac:M.Small K) (A:K<=1000000000) (o:Int) (nm:OH)
include h ac A o nm
theorem av4 (al:M.prop o nm=none) :
  OE 315 #[OM H 0,Ol o,OB nm] w fun e w'=>e=OQ (OC true)/\OD w w':=by
 have z:=Oq (∀{G}(h:G:=by
 obtain⟨q,r,aO,eB,aa⟩:=aoh (h.later e2) ac A o nm;have d':r=none:=by
  rcases aa with ⟨h,_⟩|⟨_,_,_,_,_,_,_,_,_,_,ag,_⟩
  ·exact h
  ·rw[al] at ag;cases ag
 subst d';clear h aa al;go_enter func315,ntmps315;exact aAu),G);exact arX
theorem alT {p:Pr}(al:M.prop o nm=some p)(v7:p.fixed=true) :
  OE 315 #[OM H 0,Ol o,OB nm] w fun e w'=>e=OQ (OC false)/\OD w w':=by
 have z:=Oq (∀{G}(h:G:=by
 obtain⟨q,r,aO,eB,aa⟩:=aoh (h.later e2) ac A o nm
 rcases aa with ⟨_,ag⟩|⟨i,x,k,c,g,cap,rfl,_,_,_,ag,rfl,_,a1⟩
 ·rw[al] at ag;cases ag
 rw[al] at ag;cases ag;have fB:=hide a1;clear h al a1;go_enter func315,ntmps315;go_wp2_with fail;refine cm aO ?_;rintro e w' ⟨rfl,rfl⟩;go_wp2_with fail;refine cm eB ?_;rintro e w1 ⟨rfl,D⟩;obtain⟨bY,dI,kl⟩:=fB.out w1 D;have lc:=bY 4 _ rfl;rw[v7] at lc;have bL:=(((Below.refl _ w).alloc O6 _).trans (D.mono O8));clear bY;go_wp2;go_ret;exact⟨rfl,bL⟩),G);exact arX
end
def uniq {α:Type}(f:α->OH)(l:List α):Prop:=∀ (i j:Nat) a b,l[i]? = some a->l[j]? = some b->(f a).toList=(f b).toList->i=j
def abX {α:Type}{f:α->OH}{l:List α}(h:uniq f l){nm:OH}{k:Nat}(E:l.findIdx? (fun a=>Z7 nm (f a))=some k):∀ j b,k<j->l[j]? = some b->Z7 nm (f b)=false:=by
 intro j b aN D;obtain⟨cM,iO,_⟩:=List.findIdx?_eq_some_iff_getElem.1 E
 by_cases ag:Z7 nm (f b)=true
 ·have ay:(f b).toList=nm.toList:=by simpa[Z7] using ag
  have bz:(f l[k]).toList=nm.toList:=by simpa[Z7] using iO
  have:=h k j l[k] b (List.getElem?_eq_getElem cM) D (bz.trans ay.symm);omega
 ·simpa using ag
section
variable (h:HP H R w M aA aC os cf) (ac:M.Small K) (A:K<=1000000000)
include h ac A
theorem av5 (i:Nat)(x:Ob)(am:M.objs[i]? = some x)(nm:OH)(k:Nat)(c:Pr)(E:fP nm x.ps=some k)(aj:x.ps[k]? = some c)(v7:c.fixed=false)(aT:uniq Pr.name x.ps) :
  OE 315 #[OM H 0,Ol (i:Int),OB nm] w fun e w'=>e=OQ (OC true)/\(∃ pW,HP H R w' (M.TN i ⟨x.code,x.ps.eraseIdx k⟩) aA aC pW cf)/\Py Th H w w':=by
 have z:=Oq (∀{G}(h:G:=by
 obtain⟨g,cap,v,bz,aQ,av,dK,hrow,hg,a8,lj,_⟩:=fs.ob.at_ (i:=i) (e:=x.h) (by simp[am]);have ai:=(abY g cap _ i aQ ep);rw[<-bz] at ai;have hrow':ep.ownsRow H 207 5 v x.ps.length (x.ps.flatMap Pr.h):=hrow;have mE:=ac.ps x (List.mem_of_getElem? am);have d4:=(aeI g (i * 2) v x.ps H nm ep (dK 1 v rfl) hrow' Ou);obtain⟨iJ,m2,rfl,cM,_,_⟩:=atP hrow' aj;rw[E] at d4;simp only[aa0] at d4;have bJ:=hide av;have gD:=hide am;have gf:=hide aj;have jX:=hide bz;have f5:=hide E;have zK:=hide (abX (f:=Pr.name) aT E)
 have kc:=hide (dK 1 _ rfl);have gZ:=hide hg;have cY:=hide lj;have HLEN:=hide mE;clear dK E am aj h av bz mE hg lj;go_enter func315,ntmps315;have z:=Oq (∀{G}(h:G:=by
 obtain⟨g2,cap',hS,_,⟨bY,dI,kl⟩,_⟩:=atP (Pe hrow' D) gf.out;have z:=Oq (∀{G}(h:G:=by
 have z:=Oq (∀{G}(h:G:=by
 have dH:=(av2 iJ m2 H x.ps nm w.heap.size w1 (Pe hrow' D) (by have:=HLEN.out;omega) k f5.out zK.out jS)
 have jw:g<w1.heap.size:=Nat.lt_of_lt_of_le gZ.out D.size;have f0:w1.cell? (Ot g (i * 2+1))=some (.slice (some (Ot iJ 0)) x.ps.length m2):=(cell_below D (a:=(Ot g (i * 2+1))) gZ.out).trans kc.out;have hfz1:w1.frozen? (Ot g (i * 2+1))=false:=(World.frozen?_of_block (w:=ep) (a:=(Ot g (i * 2+1))) (D.block g gZ.out)).trans (cY.out _);clear bY jS kl;go_wp2_with fail;refine cm dH ?_;rintro e w2 ⟨rfl,dg,hown⟩;have aI:=gv.auw (x':=⟨x.code,x.ps.eraseIdx k⟩) gD.out bJ.out jX.out dg hown (fun q ag=>.inl ag) rfl;have dW:=hide aI
 have ky:w2.cell? (Ot g (i * 2+1))=some (.slice (some (Ot iJ 0)) x.ps.length m2)/\w2.frozen? (Ot g (i * 2+1))=false:=by
  have cl:some g≠some iJ:=fun e=>by
   obtain⟨_,_,he⟩:=gv.ob.nes bJ.out;exact(he g e.symm).2.2.1 (by rw[jX.out];rfl)
  have hbk:=dg.block g jw cl;exact⟨(World.cell?_of_block (w:=w1) (a:=(Ot g (i * 2+1))) hbk).trans f0,(World.frozen?_of_block (w:=w1) (a:=(Ot g (i * 2+1))) hbk).trans hfz1⟩
 exact aAv),G);exact aAw),G);exact agA),G);exact av6),G);exact aAx
theorem arY (i:Nat)(x:Ro)(am:M.OI[i]? = some x)(nm:OH)(k:Nat)(c:Ce)(E:fC nm x.cs=some k)(aj:x.cs[k]? = some c)(v7:c.kind=4)(aT:uniq Ce.name x.cs) :
  OE 297 #[OM H 0,Ol (i:Int),OB nm] w fun e w'=>e=OQ (OC true)/\(∃ mI,HP H R w' (M.RZ i ⟨x.outer,x.object,x.cs.eraseIdx k⟩) aA aC os mI)/\Py Th H w w':=by
 have z:=Oq (∀{G}(h:G:=by
 obtain⟨g,cap,v,bz,aQ,av,dK,hrow,hg,a8,lj,_⟩:=fs.ro.at_ (i:=i) (e:=x.h) (by simp[am]);have ai:=(aal g cap _ i aQ ep);rw[<-bz] at ai;have hrow':ep.ownsRow H 262 6 v x.cs.length (x.cs.flatMap Ce.h):=hrow;have mE:=ac.cs x (List.mem_of_getElem? am);have d4:=(aeJ g (i * 3) v x.cs H nm ep (dK 2 v rfl) hrow' Ou);obtain⟨iJ,m2,rfl,cM,_,_⟩:=atC hrow' aj;rw[E] at d4;simp only[aa0] at d4;have bJ:=hide av;have gD:=hide am;have gf:=hide aj;have jX:=hide bz;have f5:=hide E;have zK:=hide (abX (f:=Ce.name) aT E)
 have kc:=hide (dK 2 _ rfl);have gZ:=hide hg;have cY:=hide lj;have HLEN:=hide mE;clear dK E am aj h av bz mE hg lj;go_enter func297,ntmps297;have z:=Oq (∀{G}(h:G:=by
 obtain⟨g2,cap',hS,_,⟨bY,dI,kl⟩,_⟩:=atC (Pe hrow' D) gf.out;have z:=Oq (∀{G}(h:G:=by
 have z:=Oq (∀{G}(h:G:=by
 have dH:=(av3 iJ m2 H x.cs nm w.heap.size w1 (Pe hrow' D) (by have:=HLEN.out;omega) k f5.out zK.out jS)
 have jw:g<w1.heap.size:=Nat.lt_of_lt_of_le gZ.out D.size;have f0:w1.cell? (Ot g (i * 3+2))=some (.slice (some (Ot iJ 0)) x.cs.length m2):=(cell_below D (a:=(Ot g (i * 3+2))) gZ.out).trans kc.out;have hfz1:w1.frozen? (Ot g (i * 3+2))=false:=(World.frozen?_of_block (w:=ep) (a:=(Ot g (i * 3+2))) (D.block g gZ.out)).trans (cY.out _);clear bY jS kl;go_wp2_with fail;refine cm dH ?_;rintro e w2 ⟨rfl,dg,hown⟩;have aI:=gv.akk (x':=⟨x.outer,x.object,x.cs.eraseIdx k⟩) gD.out bJ.out jX.out dg hown (fun q ag=>.inl ag) ⟨rfl,rfl⟩
 have dW:=hide aI;have ky:w2.cell? (Ot g (i * 3+2))=some (.slice (some (Ot iJ 0)) x.cs.length m2)/\w2.frozen? (Ot g (i * 3+2))=false:=by
  have cl:some g≠some iJ:=fun e=>by
   obtain⟨_,_,he⟩:=gv.ro.nes bJ.out;exact(he g e.symm).2.2.1 (by rw[jX.out];rfl)
  have hbk:=dg.block g jw cl;exact⟨(World.cell?_of_block (w:=w1) (a:=(Ot g (i * 3+2))) hbk).trans f0,(World.frozen?_of_block (w:=w1) (a:=(Ot g (i * 3+2))) hbk).trans hfz1⟩
 exact aAv),G);exact aAw),G);exact agA),G);exact av6),G);exact aAx
theorem alU (o:Int)(nm:OH){p:Ce}(al:M.Y3 o nm=some p)(v7:p.kind≠4) :
  OE 297 #[OM H 0,Ol o,OB nm] w fun e w'=>e=OQ (OC false)/\OD w w':=by
 have z:=Oq (∀{G}(h:G:=by
 obtain⟨q,r,aO,eB,aa⟩:=YR (h.later e2) ac A o nm
 rcases aa with ⟨_,ag⟩|⟨i,x,k,c,g,cap,rfl,_,_,_,ag,rfl,_,a1⟩
 ·rw[al] at ag;cases ag
 rw[al] at ag;cases ag;have fB:=hide a1;clear h al a1;go_enter func297,ntmps297;go_wp2_with fail;refine cm aO ?_;rintro e w' ⟨rfl,rfl⟩;go_wp2_with fail;refine cm eB ?_;rintro e w1 ⟨rfl,D⟩;obtain⟨bY,dI,kl⟩:=fB.out w1 D;have lc:=bY 4 _ rfl;have bL:=(((Below.refl _ w).alloc O6 _).trans (D.mono O8));clear bY;go_wp2;go_ret;exact⟨rfl,bL⟩),G);exact arX
theorem alV (s:Int)(nm:OH)(al:M.Y3 s nm=none)(b:Bool)(oA:Mo)(cE:∀ W,OD w W->OE 315 #[OM H 0,Ol (M.RD s),OB nm] W fun e w'=>e=OQ (OC b)/\PS H R w' oA/\Py Th H W w') :
  OE 297 #[OM H 0,Ol s,OB nm] w fun e w'=>e=OQ (OC b)/\PS H R w' oA/\Py Th H w w':=by
 have z:=Oq (∀{G}(h:G:=by
 obtain⟨q,r,aO,eB,aa⟩:=YR (h.later e2) ac A s nm;have d':r=none:=by
  rcases aa with ⟨h,_⟩|⟨_,_,_,_,_,_,_,_,_,_,ag,_⟩
  ·exact h
  ·rw[al] at ag;cases ag
 subst d';have z:=Oq (∀{G}(h:G:=by
 rw[<-oZ] at cE;have dj:=hide cE;clear h aa al cE oZ;go_enter func297,ntmps297;have z:=Oq (∀{G}(h:G:=by
 have bL:=(((Below.refl _ w).alloc O6 _).trans (D.mono O8));have jS:w1.heap[w.heap.size]? = some (O1 #[OB nm] 9):=agE (D.mono O8);have dn:w1.cell? (Ot w.heap.size 0)=some (OB nm):=by simp[World.cell?,jS]
 have Hu:=hide jS;clear jS;go_wp2_with fail;refine wp_region_held (S:=fun W=>W.cell? (Ot w.heap.size 0)=some (OB nm)) PK ?_;change wpAnyH _ _ _ _ _ _ _ _ (World.drew _);have e8:Hid (w1.drew.cell? (Ot w.heap.size 0)=some (OB nm)):=dn;refine wh 0 (OM H 0) e8.out ?_;refine wh 1 (OM H 0) e8.out ?_;refine wh 2 (Ol s) e8.out ?_;refine wg 4 (OB nm) rfl (Or.inl ⟨by kernel_rfl,fun W a1=>by go_simp⟩) e8.out ?_;refine XY 3 fun K A=>?_;go_simp;refine cm (dw.out _ bL.drew) ?_;rintro e ap ⟨rfl,rfl⟩;refine A.out _ _ e8.out (fun _=>?_);clear A K
 refine XY 5 fun K A=>?_;go_simp;refine cm (dj.out _ bL.drew) ?_;rintro e bA ⟨rfl,lT,h4⟩;have hU:=((Py.of bL.drew (O0 hl)).trans h4);have k8:Hid (bA.cell? (Ot w.heap.size 0)=some (OB nm)):=by
  have aL:=h4.rest _ _ 9 Hu.out Oz;simp[Hid,World.cell?,aL]
 refine A.out _ _ k8.out (fun _=>?_);clear A K h4;refine wh 6 (OC b) k8.out ?_;refine wpAnyH_done PK ?_ _;go_simp;go_wp2;go_ret;exact⟨rfl,lT,hU⟩),G);exact aiK),G);exact av7),G);exact arX
end
def HP.akl (h:HP H R w M aA aC os cf)(c:Int){tv':OG}(dg:w.grownBy w1 aA.ownBlock)(hown:w1.ownsRow H 185 2 tv' (M.objs.length+1) (flat (M.objs.map Ob.h) os++[Ol c,QD])) :
  HP H R (w1.setCell (Ot H 0) tv') ⟨M.objs++[⟨c,[]⟩],M.OI⟩ tv' aC (os++[QD]) cf/\Py Th H w (w1.setCell (Ot H 0) tv'):=by
 obtain⟨nu,d5⟩:=h.ob.push (O0 (lt_of_block h.blk)) [Ol c] rfl dg (by rw[List.length_map];exact hown)
 have b6:=d5.rest H _ 84 h.blk Oz;have dX:Py [84] H w1 (w1.setCell (Ot H 0) tv'):=Py.setCell (Py.of QX (O0 (lt_of_block b6))) b6 O8 O6 _;refine⟨⟨?_,?_,(h.ro.keep d5 Oz Oz).keep dX Oz Oz⟩,(d5.mono Oz O6).trans (dX.mono Oz O6)⟩
 ·rw[heap_setCell_same w1 H 0 _ 84 _ b6];rfl
 ·have:=nu.keep dX Oz Oz;rw[List.map_append];exact this
def HP.akm (h:HP H R w M aA aC os cf)(a b:Int){tv':OG}(dg:w.grownBy w1 aC.ownBlock)(hown:w1.ownsRow H 198 3 tv' (M.OI.length+1) (flat (M.OI.map Ro.h) cf++[Ol a,Ol b,QD])) :
  HP H R (w1.setCell (Ot H 1) tv') ⟨M.objs,M.OI++[⟨a,b,[]⟩]⟩ aA tv' os (cf++[QD])/\Py Th H w (w1.setCell (Ot H 1) tv'):=by
 obtain⟨nu,d5⟩:=h.ro.push (O0 (lt_of_block h.blk)) [Ol a,Ol b] rfl dg (by rw[List.length_map];exact hown)
 have b6:=d5.rest H _ 84 h.blk Oz;have dX:Py [84] H w1 (w1.setCell (Ot H 1) tv'):=Py.setCell (Py.of QX (O0 (lt_of_block b6))) b6 O8 O6 _;refine⟨⟨?_,(h.ob.keep d5 Oz Oz).keep dX Oz Oz,?_⟩,(d5.mono Oz O6).trans (dX.mono Oz O6)⟩
 ·rw[heap_setCell_same w1 H 1 _ 84 _ b6];rfl
 ·have:=nu.keep dX Oz Oz;rw[List.map_append];exact this
def arZ:(prog.info? 185).map (fun i=>(i.zero,i.size,i.bytes))=some (some (.agg #[Ol 0,QD]),2,32):=by kernel_rfl
def ar0:(prog.info? 198).map (fun i=>(i.zero,i.size,i.bytes))=some (some (.agg #[Ol 0,Ol 0,QD]),3,40):=by kernel_rfl
def aiL (w:Ov)(H:Nat)(fs:w.heap.size=H)(a:Int)(j:Nat)(u:OG)(h:([Ol a,QD]:List OG)[j]? = some u) :
  (w.alloc (.cells #[Ol a,QD] 185)).cell? (Addr.add (Ot H 0) j)=some u:=by
 subst fs
 match j,h with
 | 0,h=>simp at h;subst h;simp[Addr.add]
 | 1,h=>simp at h;subst h;simp[Addr.add]
 | k+2,h=>simp at h
def aoi (a:Int):∀ u ∈ ([Ol a,QD]:List OG),u.oneCell'=true:=by
 intro u aT;simp at aT
 rcases aT with rfl|rfl <;> rfl
def XC (w:Ov)(H:Nat)(fs:w.heap.size=H)(a b:Int)(v:OG)(j:Nat)(u:OG)(h:([Ol a,Ol b,v]:List OG)[j]? = some u) :
  (w.alloc (.cells #[Ol a,Ol b,v] 198)).cell? (Addr.add (Ot H 0) j)=some u:=by
 subst fs
 match j,h with
 | 0,h=>simp at h;subst h;simp[Addr.add]
 | 1,h=>simp at h;subst h;simp[Addr.add]
 | 2,h=>simp at h;subst h;simp[Addr.add]
 | k+3,h=>simp at h
def ZB (a b:Int):∀ u ∈ ([Ol a,Ol b,QD]:List OG),u.oneCell'=true:=by
 intro u aT;simp at aT
 rcases aT with rfl|rfl|rfl <;> rfl
def alW (h:HP H R w M aA aC os cf)(ac:M.Small K)(A:K<=1000000000)(c:Int) :
  OE 49 #[OM H 0,Ol c] w fun e w'=>e=OQ (Ol M.objs.length)/\PS H R w' ⟨M.objs++[⟨c,[]⟩],M.OI⟩/\Py Th H w w':=by
 obtain⟨h0,h1,aH,hb,Al⟩:=h.c;have hl:=ac.o;have hrow:w.ownsRow H 185 2 aA M.objs.length (flat (M.objs.map Ob.h) os):=by have:=h.ob.row;rwa [List.length_map] at this
 obtain⟨m,hW⟩:=xH M.objs.length;rw[<-hW.out] at hrow hl ⊢;obtain⟨lv,dR,dA,b9,cn⟩:=info_parts arZ;go_enter func49,ntmps49
 go_wp2_with (at_builtin;refine wpList_append_lies _ rfl _ _ 76 rfl H 185 lv _ 2 32 underlying76 dR dA b9 cn rfl Oz _ _ _ rfl (hrow.alloc _) (Ot w.heap.size 0) 1 1 [Ol c,QD] rfl rfl (aiL w _ rfl c) (aoi c) Oz (by unfold maxLen;omega) Ou Rh (w.heap.size+1) O8 ?_)
 intro hJ hG ap hown3 eY db _;have dg:w.grownBy ap aA.ownBlock:=OJ (World.grownBy_alloc _ _ _) eY;have cl:aA.ownBlock≠some H:=fun e=>by
  obtain⟨cc,bY⟩:=Qc hrow e;exact QK bY h.blk Oz rfl
 have br:ap.heap[H]? = some (.cells (aA::aC::R).toArray 84 (0,0)):=by rw[dg.block H Al (fun e=>cl e.symm)];exact h.blk
 have ce:ap.cell? (Ot H 0)=some aA:=by simp[World.cell?,br]
 have Kf:ap.frozen? (Ot H 0)=false:=by simp[World.frozen?,br]
 have Ml:H<ap.heap.size:=lt_of_block br;have dW:=hide (h.akl c (tv':=.slice (some (Ot hJ 0)) (m+1) hG) dg (by rw[<-hW.out];exact hown3))
 clear cl br db h0 h1 aH hb;go_wp2;go_ret;exact⟨by simp,⟨_,_,_,_,dW.out.1⟩,dW.out.2⟩
def aAy (h:HP H R w M aA aC os cf)(i:Nat)(x:Ob)(am:M.objs[i]? = some x):∃ a:Addr,OE 126 #[aA,Ol (i:Int)] w fun e w'=>e=OQ (.pointer (some a))/\w'=w:=by
 obtain⟨g,cap,v,bz,aQ,av,aj,hrow,hg,a8,aH,_⟩:=h.ob.at_ (i:=i) (e:=x.h) (by simp[am]);have ai:=abY g cap _ i aQ w;rw[<-bz] at ai;exact⟨_,ai⟩
section
variable (h:HP H R w M aA aC os cf) (ac:M.Small K) (A:K<=1000000000)
include h ac A
theorem aoj :
  OE 105 #[OM H 0,Ol (-1),Ol (-1)] w fun e w'=>e=OQ (Ol (M.OI.length:Int))/\PS H R w' ⟨M.objs,M.OI++[⟨(-1),(-1),[]⟩]⟩/\Py Th H w w':=by
 have z:=Oq (∀{G}(h:G:=by
 have f':OD w (w.alloc (.cells #[Ol (-1),Ol (-1),QD] 198)):=PO;have ai:=(XD aC _ (Qs h.ro.row) (-1) (.inl Oz) (w.alloc (.cells #[Ol (-1),Ol (-1),QD] 198)));have d4:=(Yx aA _ (Qs h.ob.row) (-1) (.inl Oz) (w.alloc (.cells #[Ol (-1),Ol (-1),QD] 198)));go_enter func105,ntmps105;go_wp2_with fail;refine cm ai ?_;rintro e w1 ⟨rfl,hw⟩;rw[hw];clear hw;go_wp2_with fail;refine cm d4 ?_;have z:=Oq (∀{G}(h:G:=by
 obtain⟨ep,sF⟩:=xE (w.alloc (.cells #[Ol (-1),Ol (-1),QD] 198));have z:=Oq (∀{G}(h:G:=by
 refine wr2 4 5 (fun K A=>?ca) fun K A=>?cb
 case' ca=>
  go_simp;refine A _ _ ?_;clear A K;refine QV 5 fun K A=>?_;go_simp;refine A _ _ ?_;clear A K;refine QV 6 fun K A=>?_;go_simp;refine A _ _ ?_;clear A K
 case' cb=>
  go_simp;refine A _ _ ?_;clear A K;refine wr2 4 6 (fun K A=>?cc) fun K A=>?cd
 case' cc=>
  go_simp;refine A _ _ ?_;clear A K;refine QV 6 fun K A=>?_;go_simp;refine A _ _ ?_;clear A K
 case' cd=>
  go_simp;refine A _ _ ?_;clear A K;refine QV 4 fun K A=>?_;go_simp;refine A _ _ ?_;clear A K
 all_goals
  refine QV 7 fun K A=>?_;refine step_append_lies _ rfl _ _ 77 rfl H 198 lv _ 3 40 underlying77 dR dA b9 cn rfl Oz _ _ _ rfl (hrow.drew.alloc _) (Ot ep.heap.size 0) 1 1 [Ol (-1),Ol (-1),QD] rfl rfl (XC _ _ rfl _ _ _) (ZB _ _) Oz (by have:=HLEN.out;unfold maxLen;omega) (by have:=HLEN.out;omega) Rh (ep.heap.size+1) O8 ?_
  intro hJ hG ap hown3 eY db _;refine A _ _ ?_;clear A K;have dg:ep.grownBy ap aC.ownBlock:=OJ (OJ (b:=ep.drew) ⟨rfl,rfl,rfl,O6,fun _ _ _=>rfl⟩ (World.grownBy_alloc _ _ _)) eY;have dW:=hide (gv.akm (-1) (-1) (tv':=.slice (some (Ot hJ 0)) (M.OI.length+1) hG) dg hown3);have ky:ap.cell? (Ot H 1)=some aC/\ap.frozen? (Ot H 1)=false:=by
   have cl:some H≠aC.ownBlock:=fun e=>by
    obtain⟨c,aj⟩:=Qc gv.ro.row e.symm;exact QK aj gv.blk Oz rfl
   have hbk:=dg.block H oG cl;exact⟨(World.cell?_of_block (w:=ep) (a:=(Ot H 1)) hbk).trans eq,(World.frozen?_of_block (w:=ep) (a:=(Ot H 1)) hbk).trans px⟩
  obtain⟨rD,rE⟩:=ky;clear db eq px dn bR c7 fw;have kq:=HLEN.out;refine wt 8 (OM H 0) ?_;refine wt 9 (OM H 1) ?_;refine QV 10 fun K A=>?_;go_simp;refine A _ _ ?_;clear A K;refine wpAny_done PK ?_ _;go_simp;go_wp2;go_ret;exact⟨rfl,⟨_,_,_,_,dW.out.1⟩,(Py.of e2 (O0 qU.out)).trans dW.out.2⟩),G);exact ar1),G);exact ar2),G);exact aok
theorem aol (i:Nat)(x:Ro)(am:M.OI[i]? = some x) :
  OE 105 #[OM H 0,Ol (i:Int),Ol (-1)] w fun e w'=>e=OQ (Ol (M.OI.length:Int))/\PS H R w' ⟨M.objs,M.OI++[⟨(i:Int),(-1),[]⟩]⟩/\Py Th H w w':=by
 have z:=Oq (∀{G}(h:G:=by
 have f':OD w (w.alloc (.cells #[Ol (i:Int),Ol (-1),QD] 198)):=PO;obtain⟨C3,x2⟩:=aom (h.later f') i x am;clear am;have d4:=(Yx aA _ (Qs h.ob.row) (-1) (.inl Oz) (w.alloc (.cells #[Ol (i:Int),Ol (-1),QD] 198)));exact aAz),G);exact aok
theorem aon (j:Nat)(y:Ob)(aN:M.objs[j]? = some y) :
  OE 105 #[OM H 0,Ol (-1),Ol (j:Int)] w fun e w'=>e=OQ (Ol (M.OI.length:Int))/\PS H R w' ⟨M.objs,M.OI++[⟨(-1),(j:Int),[]⟩]⟩/\Py Th H w w':=by
 have z:=Oq (∀{G}(h:G:=by
 have f':OD w (w.alloc (.cells #[Ol (-1),Ol (j:Int),QD] 198)):=PO;have ai:=(XD aC _ (Qs h.ro.row) (-1) (.inl Oz) (w.alloc (.cells #[Ol (-1),Ol (j:Int),QD] 198)));obtain⟨kO,t1⟩:=aAy (h.later f') j y aN;clear aN;go_enter func105,ntmps105;go_wp2_with fail;refine cm ai ?_;rintro e w1 ⟨rfl,hw⟩;rw[hw];clear hw;go_wp2_with fail;refine cm t1 ?_;have z:=Oq (∀{G}(h:G:=by
 obtain⟨ep,sF⟩:=xE (w.alloc (.cells #[Ol (-1),Ol (j:Int),QD] 198));have z:=Oq (∀{G}(h:G:=by
 refine wr2 4 5 (fun K A=>?ca) fun K A=>?cb
 case' ca=>
  go_simp;refine A _ _ ?_;clear A K;refine QV 5 fun K A=>?_;go_simp;refine A _ _ ?_;clear A K;refine QV 6 fun K A=>?_;go_simp;refine A _ _ ?_;clear A K
 case' cb=>
  go_simp;refine A _ _ ?_;clear A K;refine wr2 4 6 (fun K A=>?cc) fun K A=>?cd
 case' cc=>
  go_simp;refine A _ _ ?_;clear A K;refine QV 6 fun K A=>?_;go_simp;refine A _ _ ?_;clear A K
 case' cd=>
  go_simp;refine A _ _ ?_;clear A K;refine QV 4 fun K A=>?_;go_simp;refine A _ _ ?_;clear A K
 all_goals
  refine QV 7 fun K A=>?_;refine step_append_lies _ rfl _ _ 77 rfl H 198 lv _ 3 40 underlying77 dR dA b9 cn rfl Oz _ _ _ rfl (hrow.drew.alloc _) (Ot ep.heap.size 0) 1 1 [Ol (-1),Ol (j:Int),QD] rfl rfl (XC _ _ rfl _ _ _) (ZB _ _) Oz (by have:=HLEN.out;unfold maxLen;omega) (by have:=HLEN.out;omega) Rh (ep.heap.size+1) O8 ?_
  intro hJ hG ap hown3 eY db _;refine A _ _ ?_;clear A K;have dg:ep.grownBy ap aC.ownBlock:=OJ (OJ (b:=ep.drew) ⟨rfl,rfl,rfl,O6,fun _ _ _=>rfl⟩ (World.grownBy_alloc _ _ _)) eY;have dW:=hide (gv.akm (-1) (j:Int) (tv':=.slice (some (Ot hJ 0)) (M.OI.length+1) hG) dg hown3);have ky:ap.cell? (Ot H 1)=some aC/\ap.frozen? (Ot H 1)=false:=by
   have cl:some H≠aC.ownBlock:=fun e=>by
    obtain⟨c,aj⟩:=Qc gv.ro.row e.symm;exact QK aj gv.blk Oz rfl
   have hbk:=dg.block H oG cl;exact⟨(World.cell?_of_block (w:=ep) (a:=(Ot H 1)) hbk).trans eq,(World.frozen?_of_block (w:=ep) (a:=(Ot H 1)) hbk).trans px⟩
  obtain⟨rD,rE⟩:=ky;clear db eq px dn bR c7 fw;have kq:=HLEN.out;refine wt 8 (OM H 0) ?_;refine wt 9 (OM H 1) ?_;refine QV 10 fun K A=>?_;go_simp;refine A _ _ ?_;clear A K;refine wpAny_done PK ?_ _;go_simp;go_wp2;go_ret;exact⟨rfl,⟨_,_,_,_,dW.out.1⟩,(Py.of e2 (O0 qU.out)).trans dW.out.2⟩),G);exact ar1),G);exact ar2),G);exact aok
theorem aoo (i:Nat)(x:Ro)(am:M.OI[i]? = some x)(j:Nat)(y:Ob)(aN:M.objs[j]? = some y) :
  OE 105 #[OM H 0,Ol (i:Int),Ol (j:Int)] w fun e w'=>e=OQ (Ol (M.OI.length:Int))/\PS H R w' ⟨M.objs,M.OI++[⟨(i:Int),(j:Int),[]⟩]⟩/\Py Th H w w':=by
 have z:=Oq (∀{G}(h:G:=by
 have f':OD w (w.alloc (.cells #[Ol (i:Int),Ol (j:Int),QD] 198)):=PO;obtain⟨C3,x2⟩:=aom (h.later f') i x am;clear am;obtain⟨kO,t1⟩:=aAy (h.later f') j y aN;clear aN;go_enter func105,ntmps105;go_wp2_with fail;refine cm x2 ?_;rintro e w1 ⟨rfl,hw⟩;rw[hw];clear hw;go_wp2_with fail;refine cm t1 ?_;have z:=Oq (∀{G}(h:G:=by
 obtain⟨ep,sF⟩:=xE (w.alloc (.cells #[Ol (i:Int),Ol (j:Int),QD] 198));have z:=Oq (∀{G}(h:G:=by
 refine wr2 4 5 (fun K A=>?ca) fun K A=>?cb
 case' ca=>
  go_simp;refine A _ _ ?_;clear A K;refine QV 5 fun K A=>?_;go_simp;refine A _ _ ?_;clear A K;refine QV 6 fun K A=>?_;go_simp;refine A _ _ ?_;clear A K
 case' cb=>
  go_simp;refine A _ _ ?_;clear A K;refine wr2 4 6 (fun K A=>?cc) fun K A=>?cd
 case' cc=>
  go_simp;refine A _ _ ?_;clear A K;refine QV 6 fun K A=>?_;go_simp;refine A _ _ ?_;clear A K
 case' cd=>
  go_simp;refine A _ _ ?_;clear A K;refine QV 4 fun K A=>?_;go_simp;refine A _ _ ?_;clear A K
 all_goals
  refine QV 7 fun K A=>?_;refine step_append_lies _ rfl _ _ 77 rfl H 198 lv _ 3 40 underlying77 dR dA b9 cn rfl Oz _ _ _ rfl (hrow.drew.alloc _) (Ot ep.heap.size 0) 1 1 [Ol (i:Int),Ol (j:Int),QD] rfl rfl (XC _ _ rfl _ _ _) (ZB _ _) Oz (by have:=HLEN.out;unfold maxLen;omega) (by have:=HLEN.out;omega) Rh (ep.heap.size+1) O8 ?_
  intro hJ hG ap hown3 eY db _;refine A _ _ ?_;clear A K;have dg:ep.grownBy ap aC.ownBlock:=OJ (OJ (b:=ep.drew) ⟨rfl,rfl,rfl,O6,fun _ _ _=>rfl⟩ (World.grownBy_alloc _ _ _)) eY;have dW:=hide (gv.akm (i:Int) (j:Int) (tv':=.slice (some (Ot hJ 0)) (M.OI.length+1) hG) dg hown3);have ky:ap.cell? (Ot H 1)=some aC/\ap.frozen? (Ot H 1)=false:=by
   have cl:some H≠aC.ownBlock:=fun e=>by
    obtain⟨c,aj⟩:=Qc gv.ro.row e.symm;exact QK aj gv.blk Oz rfl
   have hbk:=dg.block H oG cl;exact⟨(World.cell?_of_block (w:=ep) (a:=(Ot H 1)) hbk).trans eq,(World.frozen?_of_block (w:=ep) (a:=(Ot H 1)) hbk).trans px⟩
  obtain⟨rD,rE⟩:=ky;clear db eq px dn bR c7 fw;have kq:=HLEN.out;refine wt 8 (OM H 0) ?_;refine wt 9 (OM H 1) ?_;refine QV 10 fun K A=>?_;go_simp;refine A _ _ ?_;clear A K;refine wpAny_done PK ?_ _;go_simp;go_wp2;go_ret;exact⟨rfl,⟨_,_,_,_,dW.out.1⟩,(Py.of e2 (O0 qU.out)).trans dW.out.2⟩),G);exact ar1),G);exact ar2),G);exact aok
end
structure Mo.Ok (M:Mo):Prop where
 out:∀ (i:Nat) x,M.OI[i]? = some x->-1<=x.outer/\x.outer<i
 obj:∀ (i:Nat) x,M.OI[i]? = some x->x.object = -1\/∃ j:Nat,x.object=j/\j<M.objs.length
 up:∀ (i:Nat) x,M.objs[i]? = some x->uniq Pr.name x.ps
 uc:∀ (i:Nat) x,M.OI[i]? = some x->uniq Ce.name x.cs
def Mo.fnd (M:Mo)(nm:OH):Nat->Int->Int
 | 0,_=>-1
 | f+1,i=>match M.ro i with
  | none=>-1
  | some x=>if M.has i nm then i else M.fnd nm f x.outer
def Mo.find (M:Mo)(i:Int)(nm:OH):Int:=M.fnd nm (M.OI.length+1) i
def adR {M:Mo}(ok:M.Ok)(nm:OH):∀ (f:Nat) (i:Int),i<f->M.Finds nm i (M.fnd nm (f+1) i)
 | f,i,am=>by
  rw[Mo.fnd]
  rcases P7 M i with ⟨h0,_⟩|⟨k,x,rfl,ae,h1⟩
  ·rw[h0];exact .out i h0
  ·rw[h1]
   show M.Finds nm k (if M.has k nm=true then (k:Int) else M.fnd nm f x.outer)
   cases hh:M.has k nm with
   | true=>rw[if_pos rfl];exact .here k x ae hh
   | false=>
    rw[if_neg Oz];have aR:=ok.out k x ae;refine .on k x _ ae hh aR.2 ?_
    cases f with
    | zero=>omega
    | succ f=>exact adR ok nm f x.outer Ou
def aAO {M:Mo}{i:Int}{x:Ro}(h:M.ro i=some x):i<M.OI.length:=by
 rcases P7 M i with ⟨h0,_⟩|⟨k,y,rfl,hy,_⟩
 ·rw[h0] at h;cases h
 ·have:=(List.getElem?_eq_some_iff.1 hy).1;omega
def aoJ {M:Mo}(ok:M.Ok)(i:Int)(nm:OH):M.Finds nm i (M.find i nm):=by
 unfold Mo.find
 by_cases am:i<M.OI.length
 ·exact adR ok nm _ i am
 ·have h0:M.ro i=none:=by
   cases ae:M.ro i with
   | none=>rfl
   | some x=>exact absurd (aAO ae) am
  rw[Mo.fnd,h0];exact .out i h0
def Mo.put (M:Mo)(o:Int)(nm:OH)(v:Va)(fx:Bool):Int × Mo:=
 match M.ob o with
 | none=>(7,M)
 | some x=>match fP nm x.ps with
  | none=>(0,M.TN o.toNat ⟨x.code,x.ps++[⟨nm,v,fx⟩]⟩)
  | some k=>match x.ps[k]? with
   | none=>(0,M)
   | some c=>(0,M.TN o.toNat ⟨x.code,x.ps.set k ⟨c.name,v,c.fixed⟩⟩)
def Mo.cut (M:Mo)(o:Int)(nm:OH):Bool × Mo:=
 match M.ob o with
 | none=>(true,M)
 | some x=>match fP nm x.ps with
  | none=>(true,M)
  | some k=>match x.ps[k]? with
   | none=>(true,M)
   | some c=>if c.fixed then (false,M) else (true,M.TN o.toNat ⟨x.code,x.ps.eraseIdx k⟩)
def Mo.declare (M:Mo)(s:Int)(nm:OH)(kd:Int)(v:Va):Int × Mo:=
 match M.ro s with
 | none=>(7,M)
 | some x=>if x.object≠-1 then (1,M) else match fC nm x.cs with
  | some _=>(9,M)
  | none=>(0,M.RZ s.toNat ⟨x.outer,x.object,x.cs++[⟨nm,v,kd,!(kd==1||kd==2)⟩]⟩)
def Mo.start (M:Mo)(s:Int)(nm:OH)(v:Va):Int × Mo:=
 match M.ro s with
 | none=>(7,M)
 | some x=>match fC nm x.cs with
  | none=>(7,M)
  | some k=>match x.cs[k]? with
   | none=>(7,M)
   | some c=>(0,M.RZ s.toNat ⟨x.outer,x.object,x.cs.set k ⟨c.name,v,c.kind,true⟩⟩)
def Mo.read (M:Mo)(s:Int)(nm:OH):Va × Int:=
 match M.Y3 s nm with
 | some c=>if c.ready then (c.v,0) else (⟨0,0,⟨#[]⟩⟩,6)
 | none=>match M.prop (M.RD s) nm with
  | some p=>(p.v,0)
  | none=>(⟨0,0,⟨#[]⟩⟩,7)
def Mo.write (M:Mo)(s:Int)(nm:OH)(v:Va):Int × Mo:=
 if M.has s nm then
  match M.Y3 s nm with
  | none=>M.put (M.RD s) nm v false
  | some c=>if c.ready=false then (6,M) else if c.kind=2 then (1,M) else if c.kind=3 then (5,M) else
   match M.ro s with
   | none=>(7,M)
   | some x=>match fC nm x.cs with
    | none=>(7,M)
    | some k=>(0,M.RZ s.toNat ⟨x.outer,x.object,x.cs.set k ⟨c.name,v,c.kind,c.ready⟩⟩)
 else (7,M)
def Mo.drop (M:Mo)(s:Int)(nm:OH):Bool × Mo:=
 match M.Y3 s nm with
 | none=>M.cut (M.RD s) nm
 | some c=>if c.kind≠4 then (false,M) else
  match M.ro s with
  | none=>(false,M)
  | some x=>match fC nm x.cs with
   | none=>(false,M)
   | some k=>(true,M.RZ s.toNat ⟨x.outer,x.object,x.cs.eraseIdx k⟩)
def Mo.Pz (M:Mo)(c:Int):Mo:=⟨M.objs++[⟨c,[]⟩],M.OI⟩
def Mo.scope (M:Mo)(u o:Int):Mo:=⟨M.objs,M.OI++[⟨if (M.ro u).isSome then u else -1,if (M.ob o).isSome then o else -1,[]⟩]⟩
section
variable (h:PS H R w M)
include h
theorem PS.lt:H<w.heap.size:=by
 obtain⟨_,_,_,_,h⟩:=h;exact h.c.2.2.2.2
theorem PS.later (D:OD w w1):PS H R w1 M:=by
 obtain⟨aA,aC,os,cf,h⟩:=h;exact⟨aA,aC,os,cf,h.later D⟩
theorem PS.same (D:OD w w1):PS H R w1 M/\Py Th H w w1:=⟨h.later D,Py.of D (O0 h.lt)⟩
theorem aAP (ac:M.Small K)(A:K<=1000000000)(o:Int)(nm:OH)(v:Va)(fx:Bool) :
  OE 56 #[hP H,Ol o,OB nm,vA v,OC fx] w fun e w'=>e=OQ (Ur (M.put o nm v fx).1)/\PS H R w' (M.put o nm v fx).2/\Py Th H w w':=by
 have hh:=h;obtain⟨aA,aC,os,cf,h⟩:=h
 rcases Rn M o with ⟨h0,_⟩|⟨i,x,rfl,ae,h1⟩
 ·refine(ar7 h o nm v fx h0).mono ?_;rintro e w' ⟨rfl,D⟩;have ay:M.put o nm v fx=(7,M):=by unfold Mo.put;rw[h0]
  rw[ay];exact⟨rfl,hh.same D⟩
 ·
  cases E:fP nm x.ps with
  | none=>
   refine(ar8 h ac A i x ae nm v fx E).mono ?_;rintro e w' ⟨rfl,⟨pW,U⟩,aw⟩;have ay:M.put i nm v fx=(0,M.TN i ⟨x.code,x.ps++[⟨nm,v,fx⟩]⟩):=by unfold Mo.put;rw[h1];simp only[E,Int.toNat_natCast]
   rw[ay];exact⟨rfl,⟨aA,aC,pW,cf,U⟩,aw⟩
  | some k=>
   have cM:k<x.ps.length:=by
    obtain⟨U,_⟩:=List.findIdx?_eq_some_iff_getElem.1 E;exact U
   have aj:x.ps[k]? = some x.ps[k]:=List.getElem?_eq_getElem cM;refine(ako h ac A i x ae nm v fx k _ E aj).mono ?_;rintro e w' ⟨rfl,U,aw⟩;have ay:M.put i nm v fx=(0,M.TN i ⟨x.code,x.ps.set k ⟨(x.ps[k]).name,v,(x.ps[k]).fixed⟩⟩):=by unfold Mo.put;rw[h1];simp only[E,aj,Int.toNat_natCast]
   rw[ay];exact⟨rfl,⟨aA,aC,os,cf,U⟩,aw⟩
theorem aeK (ok:M.Ok)(ac:M.Small K)(A:K<=1000000000)(i:Int)(nm:OH) :
  OE 195 #[hP H,Ol i,OB nm] w fun e w'=>e=OQ (Ol (M.find i nm))/\OD w w':=by
 obtain⟨aA,aC,os,cf,h⟩:=h;exact aoy h ac A i _ nm (aoJ ok i nm)
end
section
variable (h:PS H R w M) (ac:M.Small K) (A:K<=1000000000) (s:Int) (nm:OH)
include h ac A s nm
theorem awe :
  OE 290 #[hP H,Ol s,OB nm] w fun e w'=>e=OQ (.tuple #[vA (M.read s nm).1,Ur (M.read s nm).2])/\OD w w':=by
 obtain⟨aA,aC,os,cf,h⟩:=h
 cases aj:M.Y3 s nm with
 | some c=>
  have U:=aoA h ac A s nm aj
  cases aa:c.ready with
  | true=>
   rw[aa,if_pos rfl] at U;have ay:M.read s nm=(c.v,0):=by unfold Mo.read;simp only[aj,aa,if_true]
   rw[ay];exact U
  | false=>
   rw[aa,if_neg Oz] at U;have ay:M.read s nm=(⟨0,0,⟨#[]⟩⟩,6):=by unfold Mo.read;simp only[aj,aa];rfl
   rw[ay];exact U
 | none=>
  cases al:M.prop (M.RD s) nm with
  | none=>
   have ay:M.read s nm=(⟨0,0,⟨#[]⟩⟩,7):=by unfold Mo.read;simp only[aj,al]
   rw[ay];exact adQ h ac A s nm aj _ 0 0 ⟨#[]⟩ rfl _ (fun W a1=>aoz (h.later a1) ac A _ nm al)
  | some p=>
   have ay:M.read s nm=(p.v,0):=by unfold Mo.read;simp only[aj,al]
   rw[ay];exact adQ h ac A s nm aj _ p.v.k p.v.n p.v.s rfl _ (fun W a1=>alY (h.later a1) ac A _ nm al)
theorem Xg (kd:Int)(v:Va) :
  OE 128 #[hP H,Ol s,OB nm,Ol kd,vA v] w fun e w'=>e=OQ (Ur (M.declare s nm kd v).1)/\PS H R w' (M.declare s nm kd v).2/\Py Th H w w':=by
 have hh:=h;obtain⟨aA,aC,os,cf,h⟩:=h
 rcases P7 M s with ⟨h0,_⟩|⟨i,x,rfl,ae,h1⟩
 ·refine(aoG h s nm kd v h0).mono ?_;rintro e w' ⟨rfl,D⟩;have ay:M.declare s nm kd v=(7,M):=by unfold Mo.declare;rw[h0]
  rw[ay];exact⟨rfl,hh.same D⟩
 ·by_cases aR:x.object = -1
  ·
   cases E:fC nm x.cs with
   | some k=>
    have cM:k<x.cs.length:=by
     obtain⟨U,_⟩:=List.findIdx?_eq_some_iff_getElem.1 E;exact U
    refine(aiS h ac A i x ae nm kd v aR k _ E (List.getElem?_eq_getElem cM)).mono ?_;rintro e w' ⟨rfl,D⟩;have ay:M.declare i nm kd v=(9,M):=by unfold Mo.declare;rw[h1];simp[aR,E]
    rw[ay];exact⟨rfl,hh.same D⟩
   | none=>
    have ay:M.declare i nm kd v=(0,M.RZ i ⟨x.outer,x.object,x.cs++[⟨nm,v,kd,!(kd==1||kd==2)⟩]⟩):=by unfold Mo.declare;rw[h1];simp[aR,E]
    rw[ay]
    by_cases b4:kd=1
    ·have bz:(!(kd==1||kd==2))=false:=by rw[b4];rfl
     rw[bz];refine(al1 h ac A i x ae nm kd v aR E b4).mono ?_;exact awf
    ·by_cases bT:kd=2
     ·have bz:(!(kd==1||kd==2))=false:=by rw[bT];rfl
      rw[bz];refine(aiT h ac A i x ae nm kd v aR E bT).mono ?_;exact awf
     ·have bz:(!(kd==1||kd==2))=true:=by simp[b4,bT]
      rw[bz];refine(aiU h ac A i x ae nm kd v aR E b4 bT).mono ?_;exact awf
  ·refine(aoH h ac A i x ae nm kd v aR).mono ?_;rintro e w' ⟨rfl,D⟩;have ay:M.declare i nm kd v=(1,M):=by unfold Mo.declare;rw[h1];simp[aR]
   rw[ay];exact⟨rfl,hh.same D⟩
end
def ab1 {s:Int}{nm:OH}:(M.Y3 s nm=none/\(M.ro s=none\/∃ (i:Nat) (x:Ro),s=i/\M.OI[i]? = some x/\M.ro s=some x/\fC nm x.cs=none)) \/
  ∃ (i:Nat) (x:Ro) (k:Nat) (c:Ce),s=i/\M.OI[i]? = some x/\M.ro s=some x/\fC nm x.cs=some k/\x.cs[k]? = some c/\M.Y3 s nm=some c:=by
 rcases P7 M s with ⟨h0,_⟩|⟨i,x,rfl,ae,h1⟩
 ·exact .inl ⟨by unfold Mo.Y3;rw[h0];rfl,.inl h0⟩
 ·rcases VW (fun c=>Z7 nm c.name) x.cs with ⟨d5,dX⟩|⟨k,c,d5,dX,fU,_⟩
  ·exact .inl ⟨by unfold Mo.Y3;rw[h1];exact dX,.inr ⟨i,x,rfl,ae,h1,d5⟩⟩
  ·exact .inr ⟨i,x,k,c,rfl,ae,h1,d5,dX,by unfold Mo.Y3;rw[h1];exact fU⟩
def akp {o:Int}{nm:OH}:(M.prop o nm=none/\(M.ob o=none\/∃ (i:Nat) (x:Ob),o=i/\M.objs[i]? = some x/\M.ob o=some x/\fP nm x.ps=none)) \/
  ∃ (i:Nat) (x:Ob) (k:Nat) (c:Pr),o=i/\M.objs[i]? = some x/\M.ob o=some x/\fP nm x.ps=some k/\x.ps[k]? = some c/\M.prop o nm=some c:=by
 rcases Rn M o with ⟨h0,_⟩|⟨i,x,rfl,ae,h1⟩
 ·exact .inl ⟨by unfold Mo.prop;rw[h0];rfl,.inl h0⟩
 ·rcases VW (fun c=>Z7 nm c.name) x.ps with ⟨d5,dX⟩|⟨k,c,d5,dX,fU,_⟩
  ·exact .inl ⟨by unfold Mo.prop;rw[h1];exact dX,.inr ⟨i,x,rfl,ae,h1,d5⟩⟩
  ·exact .inr ⟨i,x,k,c,rfl,ae,h1,d5,dX,by unfold Mo.prop;rw[h1];exact fU⟩
def asa (h:PS H R w M)(ac:M.Small K)(A:K<=1000000000)(s:Int)(nm:OH)(v:Va) :
  OE 198 #[hP H,Ol s,OB nm,vA v] w fun e w'=>e=OQ (Ur (M.start s nm v).1)/\PS H R w' (M.start s nm v).2/\Py Th H w w':=by
 have hh:=h;obtain⟨aA,aC,os,cf,h⟩:=h
 rcases ab1 (M:=M) (s:=s) (nm:=nm) with ⟨aj,aa⟩|⟨i,x,k,c,rfl,ae,h1,E,ej,_⟩
 ·refine(aiO h ac A s nm v aj).mono ?_;rintro e w' ⟨rfl,D⟩;have ay:M.start s nm v=(7,M):=by
   unfold Mo.start
   rcases aa with aa|⟨i,x,rfl,_,h1,E⟩
   ·rw[aa]
   ·rw[h1];simp only[E]
  rw[ay];exact⟨rfl,hh.same D⟩
 ·refine(aiP h ac A i x ae nm v k c E ej).mono ?_;rintro e w' ⟨rfl,U,aw⟩;have ay:M.start i nm v=(0,M.RZ i ⟨x.outer,x.object,x.cs.set k ⟨c.name,v,c.kind,true⟩⟩):=by unfold Mo.start;rw[h1];simp only[E,ej,Int.toNat_natCast]
  rw[ay];exact⟨rfl,⟨aA,aC,os,cf,U⟩,aw⟩
section
variable (h:PS H R w M) (ok:M.Ok) (ac:M.Small K) (A:K<=1000000000)
include h ok ac A
theorem auA (o:Int)(nm:OH) :
  OE 315 #[hP H,Ol o,OB nm] w fun e w'=>e=OQ (OC (M.cut o nm).1)/\PS H R w' (M.cut o nm).2/\Py Th H w w':=by
 have hh:=h;obtain⟨aA,aC,os,cf,h⟩:=h
 rcases akp (M:=M) (o:=o) (nm:=nm) with ⟨aj,aa⟩|⟨i,x,k,c,rfl,ae,h1,E,ej,al⟩
 ·refine(av4 h ac A o nm aj).mono ?_;rintro e w' ⟨rfl,D⟩;have ay:M.cut o nm=(true,M):=by
   unfold Mo.cut
   rcases aa with aa|⟨i,x,rfl,_,h1,E⟩
   ·rw[aa]
   ·rw[h1];simp only[E]
  rw[ay];exact⟨rfl,hh.same D⟩
 ·
  cases aH:c.fixed with
  | true=>
   refine(alT h ac A i nm al aH).mono ?_;rintro e w' ⟨rfl,D⟩;have ay:M.cut i nm=(false,M):=by unfold Mo.cut;rw[h1];simp only[E,ej,aH,if_true]
   rw[ay];exact⟨rfl,hh.same D⟩
  | false=>
   refine(av5 h ac A i x ae nm k c E ej aH (ok.up i x ae)).mono ?_;rintro e w' ⟨rfl,⟨pW,U⟩,aw⟩;have ay:M.cut i nm=(true,M.TN i ⟨x.code,x.ps.eraseIdx k⟩):=by unfold Mo.cut;rw[h1];simp[E,ej,aH]
   rw[ay];exact⟨rfl,⟨aA,aC,pW,cf,U⟩,aw⟩
theorem awg (s:Int)(nm:OH) :
  OE 297 #[hP H,Ol s,OB nm] w fun e w'=>e=OQ (OC (M.drop s nm).1)/\PS H R w' (M.drop s nm).2/\Py Th H w w':=by
 have hh:=h;obtain⟨aA,aC,os,cf,h⟩:=h
 rcases ab1 (M:=M) (s:=s) (nm:=nm) with ⟨aj,_⟩|⟨i,x,k,c,rfl,ae,h1,E,ej,aj⟩
 ·have ay:M.drop s nm=M.cut (M.RD s) nm:=by unfold Mo.drop;rw[aj]
  rw[ay];exact alV h ac A s nm aj _ _ (fun W a1=>auA (hh.later a1) ok ac A _ nm)
 ·by_cases aL:c.kind=4
  ·refine(arY h ac A i x ae nm k c E ej aL (ok.uc i x ae)).mono ?_;rintro e w' ⟨rfl,⟨mI,U⟩,aw⟩;have ay:M.drop i nm=(true,M.RZ i ⟨x.outer,x.object,x.cs.eraseIdx k⟩):=by unfold Mo.drop;rw[aj,h1];simp[E,aL]
   rw[ay];exact⟨rfl,⟨aA,aC,os,mI,U⟩,aw⟩
  ·refine(alU h ac A i nm aj aL).mono ?_;rintro e w' ⟨rfl,D⟩;have ay:M.drop i nm=(false,M):=by unfold Mo.drop;rw[aj];simp[aL]
   rw[ay];exact⟨rfl,hh.same D⟩
end
section
variable (h:PS H R w M) (ac:M.Small K) (A:K<=1000000000)
include h ac A
theorem aeL (s:Int)(nm:OH)(v:Va) :
  OE 267 #[hP H,Ol s,OB nm,vA v] w fun e w'=>e=OQ (Ur (M.write s nm v).1)/\PS H R w' (M.write s nm v).2/\Py Th H w w':=by
 have hh:=h;obtain⟨aA,aC,os,cf,h⟩:=h
 cases hhas:M.has s nm with
 | false=>
  refine(aoE h ac A s nm v hhas).mono ?_;rintro e w' ⟨rfl,D⟩;have ay:M.write s nm v=(7,M):=by unfold Mo.write;rw[hhas];rfl
  rw[ay];exact⟨rfl,hh.same D⟩
 | true=>
  rcases ab1 (M:=M) (s:=s) (nm:=nm) with ⟨aj,_⟩|⟨i,x,k,c,rfl,ae,h1,E,ej,aj⟩
  ·have al:(M.prop (M.RD s) nm).isSome=true:=by
    unfold Mo.has at hhas;rw[aj] at hhas;simpa using hhas
   rcases akp (M:=M) (o:=M.RD s) (nm:=nm) with ⟨az,_⟩|⟨j,y,k,p,aN,hy,h1,E,qz,_⟩
   ·rw[az] at al;cases al
   ·refine(aiR h ac A s nm v aj j y aN hy k p E qz).mono ?_;rintro e w' ⟨rfl,U,aw⟩;have ay:M.write s nm v=(0,M.TN j ⟨y.code,y.ps.set k ⟨p.name,v,p.fixed⟩⟩):=by
     unfold Mo.write Mo.put;rw[hhas,if_pos rfl,aj];simp only[h1,E,qz];rw[aN,Int.toNat_natCast]
    rw[ay];exact⟨rfl,⟨aA,aC,os,cf,U⟩,aw⟩
  ·
   cases aa:c.ready with
   | false=>
    refine(agG h ac A i x ae nm v k c E ej aa).mono ?_;rintro e w' ⟨rfl,D⟩;have ay:M.write i nm v=(6,M):=by unfold Mo.write;rw[hhas,if_pos rfl,aj];simp[aa]
    rw[ay];exact⟨rfl,hh.same D⟩
   | true=>
    by_cases U:c.kind=2
    ·refine(agH h ac A i x ae nm v k c E ej aa U).mono ?_;rintro e w' ⟨rfl,D⟩;have ay:M.write i nm v=(1,M):=by unfold Mo.write;rw[hhas,if_pos rfl,aj];simp[aa,U]
     rw[ay];exact⟨rfl,hh.same D⟩
    ·by_cases aw:c.kind=3
     ·refine(al0 h ac A i x ae nm v k c E ej aa aw).mono ?_;rintro e w' ⟨rfl,D⟩;have ay:M.write i nm v=(5,M):=by unfold Mo.write;rw[hhas,if_pos rfl,aj];simp[aa,aw]
      rw[ay];exact⟨rfl,hh.same D⟩
     ·refine(aoF h ac A i x ae nm v k c E ej aa U aw).mono ?_;rintro e w' ⟨rfl,bT,eg⟩;have ay:M.write i nm v=(0,M.RZ i ⟨x.outer,x.object,x.cs.set k ⟨c.name,v,c.kind,c.ready⟩⟩):=by unfold Mo.write;rw[hhas,if_pos rfl,aj];simp[aa,U,aw,h1,E]
      rw[ay];exact⟨rfl,⟨aA,aC,os,cf,bT⟩,eg⟩
theorem aeM (u o:Int)(aT:u = -1\/(M.ro u).isSome=true)(aR:o = -1\/(M.ob o).isSome=true) :
  OE 105 #[hP H,Ol u,Ol o] w fun e w'=>e=OQ (Ol (M.OI.length:Int))/\PS H R w' (M.scope u o)/\Py Th H w w':=by
 obtain⟨aA,aC,os,cf,h⟩:=h;have bU:M.ro (-1)=none:=rfl;have bH:M.ob (-1)=none:=rfl
 rcases P7 M u with ⟨Bu,_⟩|⟨i,x,rfl,ae,o4⟩
 ·have wI:u = -1:=aT.resolve_right (by rw[Bu];simp)
  subst wI
  rcases Rn M o with ⟨wq,_⟩|⟨j,y,rfl,hy,ws⟩
  ·have kt:o = -1:=aR.resolve_right (by rw[wq];simp)
   subst kt;exact aoj h ac A
  ·have ay:M.scope (-1) j=⟨M.objs,M.OI++[⟨-1,j,[]⟩]⟩:=by unfold Mo.scope;rw[bU,ws];rfl
   rw[ay];exact aon h ac A j y hy
 ·rcases Rn M o with ⟨wq,_⟩|⟨j,y,rfl,hy,ws⟩
  ·have kt:o = -1:=aR.resolve_right (by rw[wq];simp)
   subst kt;have ay:M.scope i (-1)=⟨M.objs,M.OI++[⟨i,-1,[]⟩]⟩:=by unfold Mo.scope;rw[o4,bH];rfl
   rw[ay];exact aol h ac A i x ae
  ·have ay:M.scope i j=⟨M.objs,M.OI++[⟨i,j,[]⟩]⟩:=by unfold Mo.scope;rw[o4,ws];rfl
   rw[ay];exact aoo h ac A i x ae j y hy
theorem auB (s:Int)(nm:OH):OE 55 #[hP H,Ol s,OB nm] w fun e w'=>e=OQ (OC (M.has s nm))/\OD w w':=by
 obtain⟨aA,aC,os,cf,h⟩:=h;exact Yz h ac A s nm
theorem aAQ (o:Int)(nm:OH):OE 124 #[hP H,Ol o,OB nm] w fun e w'=>e=OQ (.tuple #[aos (M.prop o nm),OC (M.prop o nm).isSome])/\OD w w':=by
 obtain⟨aA,aC,os,cf,h⟩:=h;exact get_any h ac A o nm
theorem awh (s:Int)(nm:OH):OE 353 #[hP H,Ol s,OB nm] w fun e w'=>e=OQ (Ol (M.kindOf s nm))/\OD w w':=by
 obtain⟨aA,aC,os,cf,h⟩:=h;exact ZC h ac A s nm
end
section
variable (h:PS H R w M)
include h
theorem aiV (s:Int):OE 209 #[hP H,Ol s] w fun e w'=>e=OQ (Ol (M.codeOf s))/\w'=w:=by
 obtain⟨aA,aC,os,cf,h⟩:=h;exact Yf h s
theorem akq (s:Int):OE 125 #[hP H,Ol s] w fun e w'=>e=OQ (Ol (M.RD s))/\w'=w:=by
 obtain⟨aA,aC,os,cf,h⟩:=h;exact aam h s
theorem asb (s:Int):OE 252 #[hP H,Ol s] w fun e w'=>e=OQ (Ol (M.outOf s))/\w'=w:=by
 obtain⟨aA,aC,os,cf,h⟩:=h;exact adP h s
theorem ZE (ac:M.Small K)(A:K<=1000000000)(c:Int) :
  OE 49 #[hP H,Ol c] w fun e w'=>e=OQ (Ol M.objs.length)/\PS H R w' (M.Pz c)/\Py Th H w w':=by
 obtain⟨aA,aC,os,cf,h⟩:=h;exact alW h ac A c
end
end
section
variable {α:Type} {f:α->OH} {l:List α}
include α f l
def ab2 {k:Nat}{a b:α}(h:uniq f l)(ax:l[k]? = some a)(D:f b=f a):uniq f (l.set k b):=by
 have key:∀ (i:Nat) c,(l.set k b)[i]? = some c->∃ en,l[i]? = some en/\f c=f en:=fun i c aj=>by
  by_cases x6:k=i
  ·subst x6;have hl:k<l.length:=(List.getElem?_eq_some_iff.1 ax).1;rw[List.getElem?_set_self hl] at aj;cases aj;exact⟨a,ax,D⟩
  ·rw[List.getElem?_set_ne x6] at aj;exact⟨c,aj,rfl⟩
 intro i j c d aj hd aq;obtain⟨en,sI,ay⟩:=key i c aj;obtain⟨oF,sK,bz⟩:=key j d hd;exact h i j en oF sI sK (by rw[<-ay,<-bz];exact aq)
def adS {b:α}(h:uniq f l)(az:∀ a ∈ l,(f a).toList≠(f b).toList):uniq f (l++[b]):=by
 have key:∀ (i:Nat) c,(l++[b])[i]? = some c->(i<l.length/\l[i]? = some c)\/(i=l.length/\c=b):=fun i c aj=>by
  by_cases am:i<l.length
  ·rw[List.getElem?_append_left am] at aj;exact .inl ⟨am,aj⟩
  ·rw[List.getElem?_append_right Ou] at aj;have h0:=(List.getElem?_eq_some_iff.1 aj).1;simp at h0;have:i=l.length:=Ou;subst this;simp at aj;exact .inr ⟨rfl,aj.symm⟩
 intro i j c d aj hd aq
 rcases key i c aj with ⟨_,h1⟩|⟨ay,rfl⟩ <;> rcases key j d hd with ⟨_,U⟩|⟨bz,rfl⟩
 ·exact h i j c d h1 U aq
 ·exact absurd aq (az c (List.mem_of_getElem? h1))
 ·exact absurd aq.symm (az d (List.mem_of_getElem? U))
 ·omega
def ab3 {k:Nat}(h:uniq f l):uniq f (l.eraseIdx k):=by
 intro i j c d aj hd aq;rw[List.getElem?_eraseIdx] at aj hd
 split at aj <;> split at hd
 all_goals
  have:=h _ _ c d aj hd aq;omega
end
def awi {nm:OH}{l:List Pr}(h:fP nm l=none):∀ a ∈ l,a.name.toList≠nm.toList:=fun a ax=>by
 have:=List.findIdx?_eq_none_iff.1 h a ax;simpa[Z7] using this
def awj {nm:OH}{l:List Ce}(h:fC nm l=none):∀ a ∈ l,a.name.toList≠nm.toList:=fun a ax=>by
 have:=List.findIdx?_eq_none_iff.1 h a ax;simpa[Z7] using this
def abn {α:Type}{l:List α}{i j:Nat}{x y:α}(h:(l.set i x)[j]? = some y):(i=j/\y=x/\i<l.length)\/l[j]? = some y:=by
 by_cases Ea:i=j
 ·subst Ea;have hl:i<l.length:=by have:=(List.getElem?_eq_some_iff.1 h).1;simpa using this
  rw[List.getElem?_set_self hl] at h;cases h;exact .inl ⟨rfl,rfl,hl⟩
 ·rw[List.getElem?_set_ne Ea] at h;exact .inr h
def Mo.Small.mono {M:Mo}{k lx:Nat}(h:M.Small k)(E:k<=lx):M.Small lx:=
 ⟨Nat.le_trans h.o E,Nat.le_trans h.r E,fun x ae=>Nat.le_trans (h.ps x ae) E,fun x ae=>Nat.le_trans (h.cs x ae) E⟩
structure Mo.Go (M:Mo)(k:Nat):Prop where
 ok:M.Ok
 sm:M.Small k
def Mo.Go.up {M:Mo}{k lx:Nat}(h:M.Go k)(E:k<=lx):M.Go lx:=⟨h.ok,h.sm.mono E⟩
def Mo.Go.TN {M:Mo}{k i:Nat}{x':Ob}(h:M.Go k)(aT:uniq Pr.name x'.ps)(hl:x'.ps.length<=k+1):(M.TN i x').Go (k+1):=by
 refine⟨⟨h.ok.out,fun j y aN=>?_,fun j y aN=>?_,h.ok.uc⟩,⟨?_,Nat.le_succ_of_le h.sm.r,fun y hy=>?_,fun y hy=>Nat.le_succ_of_le (h.sm.cs y hy)⟩⟩
 ·have:=h.ok.obj j y aN;simpa[Mo.TN] using this
 ·rcases abn aN with ⟨_,rfl,_⟩|aN
  ·exact aT
  ·exact h.ok.up j y aN
 ·have:=h.sm.o;simp[Mo.TN];omega
 ·rcases List.mem_or_eq_of_mem_set hy with hy|rfl
  ·exact Nat.le_succ_of_le (h.sm.ps y hy)
  ·exact hl
def Mo.Go.RZ {M:Mo}{k i:Nat}{x x':Ro}(h:M.Go k)(am:M.OI[i]? = some x)(aR:x'.outer=x.outer)(D:x'.object=x.object)(aT:uniq Ce.name x'.cs)(hl:x'.cs.length<=k+1):(M.RZ i x').Go (k+1):=by
 refine⟨⟨fun j y aN=>?_,fun j y aN=>?_,h.ok.up,fun j y aN=>?_⟩,⟨Nat.le_succ_of_le h.sm.o,?_,fun y hy=>Nat.le_succ_of_le (h.sm.ps y hy),fun y hy=>?_⟩⟩
 ·rcases abn aN with ⟨rfl,rfl,_⟩|aN
  ·rw[aR];exact h.ok.out i x am
  ·exact h.ok.out j y aN
 ·rcases abn aN with ⟨rfl,rfl,_⟩|aN
  ·rw[D];exact h.ok.obj i x am
  ·exact h.ok.obj j y aN
 ·rcases abn aN with ⟨_,rfl,_⟩|aN
  ·exact aT
  ·exact h.ok.uc j y aN
 ·have:=h.sm.r;simp[Mo.RZ];omega
 ·rcases List.mem_or_eq_of_mem_set hy with hy|rfl
  ·exact Nat.le_succ_of_le (h.sm.cs y hy)
  ·exact hl
section
variable {M:Mo} {k:Nat} (h:M.Go k) (o:Int) (nm:OH)
include M k h o nm
theorem Mo.Go.put (v:Va)(fx:Bool):(M.put o nm v fx).2.Go (k+1):=by
 unfold Mo.put
 rcases Rn M o with ⟨h0,_⟩|⟨i,x,rfl,ae,h1⟩
 ·rw[h0];exact h.up (Nat.le_succ _)
 ·rw[h1];have aS:=h.sm.ps x (List.mem_of_getElem? ae);have aT:=h.ok.up i x ae
  cases E:fP nm x.ps with
  | none=>
   simp only[E];exact h.TN (adS aT (awi E)) Rh
  | some j=>
   simp only[E]
   cases aj:x.ps[j]? with
   | none=>exact h.up (Nat.le_succ _)
   | some c=>exact h.TN (ab2 aT aj rfl) Rh
theorem Mo.Go.cut:(M.cut o nm).2.Go (k+1):=by
 unfold Mo.cut
 rcases Rn M o with ⟨h0,_⟩|⟨i,x,rfl,ae,h1⟩
 ·rw[h0];exact h.up (Nat.le_succ _)
 ·rw[h1];have aS:=h.sm.ps x (List.mem_of_getElem? ae);have aT:=h.ok.up i x ae
  cases E:fP nm x.ps with
  | none=>simp only[E];exact h.up (Nat.le_succ _)
  | some j=>
   simp only[E]
   cases aj:x.ps[j]? with
   | none=>exact h.up (Nat.le_succ _)
   | some c=>
    simp only
    split
    ·exact h.up (Nat.le_succ _)
    ·exact h.TN (ab3 aT) (by rw[List.length_eraseIdx];split <;> omega)
end
section
variable {M:Mo} {k:Nat} (h:M.Go k) (s:Int) (nm:OH)
include M k h s nm
theorem Mo.Go.declare (kd:Int)(v:Va):(M.declare s nm kd v).2.Go (k+1):=by
 unfold Mo.declare
 rcases P7 M s with ⟨h0,_⟩|⟨i,x,rfl,ae,h1⟩
 ·rw[h0];exact h.up (Nat.le_succ _)
 ·rw[h1];have aS:=h.sm.cs x (List.mem_of_getElem? ae);have aT:=h.ok.uc i x ae;simp only
  split
  ·exact h.up (Nat.le_succ _)
  ·
   cases E:fC nm x.cs with
   | some j=>exact h.up (Nat.le_succ _)
   | none=>
    simp only[Int.toNat_natCast];exact h.RZ ae rfl rfl (adS aT (awj E)) Rh
theorem Mo.Go.start (v:Va):(M.start s nm v).2.Go (k+1):=by
 unfold Mo.start
 rcases P7 M s with ⟨h0,_⟩|⟨i,x,rfl,ae,h1⟩
 ·rw[h0];exact h.up (Nat.le_succ _)
 ·rw[h1];have aS:=h.sm.cs x (List.mem_of_getElem? ae);have aT:=h.ok.uc i x ae
  cases E:fC nm x.cs with
  | none=>simp only[E];exact h.up (Nat.le_succ _)
  | some j=>
   simp only[E]
   cases aj:x.cs[j]? with
   | none=>exact h.up (Nat.le_succ _)
   | some c=>
    simp only[Int.toNat_natCast];exact h.RZ ae rfl rfl (ab2 aT aj rfl) Rh
theorem Mo.Go.write (v:Va):(M.write s nm v).2.Go (k+1):=by
 unfold Mo.write
 split
 ·rcases ab1 (M:=M) (s:=s) (nm:=nm) with ⟨aj,_⟩|⟨i,x,j,c,rfl,ae,h1,E,ej,aj⟩
  ·rw[aj];exact h.put _ nm v false
  ·have aS:=h.sm.cs x (List.mem_of_getElem? ae);have aT:=h.ok.uc i x ae;rw[aj];simp only[h1,E,Int.toNat_natCast]
   split
   ·exact h.up (Nat.le_succ _)
   ·split
    ·exact h.up (Nat.le_succ _)
    ·split
     ·exact h.up (Nat.le_succ _)
     ·exact h.RZ ae rfl rfl (ab2 aT ej rfl) Rh
 ·exact h.up (Nat.le_succ _)
theorem Mo.Go.drop:(M.drop s nm).2.Go (k+1):=by
 unfold Mo.drop
 rcases ab1 (M:=M) (s:=s) (nm:=nm) with ⟨aj,_⟩|⟨i,x,j,c,rfl,ae,h1,E,ej,aj⟩
 ·rw[aj];exact h.cut _ nm
 ·have aS:=h.sm.cs x (List.mem_of_getElem? ae);have aT:=h.ok.uc i x ae;rw[aj];simp only[h1,E,Int.toNat_natCast]
  split
  ·exact h.up (Nat.le_succ _)
  ·exact h.RZ ae rfl rfl (ab3 aT) (by show (x.cs.eraseIdx j).length<=_;rw[List.length_eraseIdx];split <;> omega)
end
def agI {α:Type}(f:α->OH):uniq f []:=fun i j a b h=>by simp at h
def Mo.Go.Pz {M:Mo}{k:Nat}(h:M.Go k)(c:Int):(M.Pz c).Go (k+1):=by
 refine⟨⟨h.ok.out,fun i x ae=>?_,fun i x ae=>?_,h.ok.uc⟩,⟨?_,Nat.le_succ_of_le h.sm.r,fun x ae=>?_,fun x ae=>Nat.le_succ_of_le (h.sm.cs x ae)⟩⟩
 ·rcases h.ok.obj i x ae with e|⟨j,e,aN⟩
  ·exact .inl e
  ·exact .inr ⟨j,e,by simp[Mo.Pz];omega⟩
 ·rcases Nat.lt_or_ge i M.objs.length with am|am
  ·have eJ:(M.objs++[(⟨c,[]⟩:Ob)])[i]? = some x:=ae;rw[List.getElem?_append_left am] at eJ;exact h.ok.up i x eJ
  ·have eJ:(M.objs++[(⟨c,[]⟩:Ob)])[i]? = some x:=ae;have aS:=List.mem_of_getElem? (by rw[List.getElem?_append_right am] at eJ;exact eJ)
   rw[List.mem_singleton.1 aS];exact agI _
 ·have:=h.sm.o;simp[Mo.Pz];omega
 ·rcases List.mem_append.1 ae with ae|ae
  ·exact Nat.le_succ_of_le (h.sm.ps x ae)
  ·rw[List.mem_singleton.1 ae];simp
def Mo.Go.scope {M:Mo}{k:Nat}(h:M.Go k)(u o:Int):(M.scope u o).Go (k+1):=by
 have key:∀ (i:Nat) (x:Ro),(M.scope u o).OI[i]? = some x->M.OI[i]? = some x\/(i=M.OI.length/\x=⟨if (M.ro u).isSome then u else -1,if (M.ob o).isSome then o else -1,[]⟩):=fun i x ae=>by
  have eJ:(M.OI++[(⟨if (M.ro u).isSome then u else -1,if (M.ob o).isSome then o else -1,[]⟩:Ro)])[i]? = some x:=ae
  rcases Nat.lt_or_ge i M.OI.length with am|am
  ·rw[List.getElem?_append_left am] at eJ;exact .inl eJ
  ·rw[List.getElem?_append_right am] at eJ;have hl:=(List.getElem?_eq_some_iff.1 eJ).1;simp at hl;exact .inr ⟨by omega,List.mem_singleton.1 (List.mem_of_getElem? eJ)⟩
 refine⟨⟨fun i x ae=>?_,fun i x ae=>?_,h.ok.up,fun i x ae=>?_⟩,⟨Nat.le_succ_of_le h.sm.o,?_,fun x ae=>Nat.le_succ_of_le (h.sm.ps x ae),fun x ae=>?_⟩⟩
 ·rcases key i x ae with ae|⟨rfl,rfl⟩
  ·exact h.ok.out i x ae
  ·show -1<=(if (M.ro u).isSome=true then u else -1)/\(if (M.ro u).isSome=true then u else -1)<(M.OI.length:Int)
   rcases P7 M u with ⟨h0,_⟩|⟨j,y,rfl,hy,h1⟩
   ·rw[h0];simp;omega
   ·rw[h1];have:=(List.getElem?_eq_some_iff.1 hy).1;simp;omega
 ·rcases key i x ae with ae|⟨rfl,rfl⟩
  ·exact h.ok.obj i x ae
  ·show (if (M.ob o).isSome=true then o else -1) = -1\/∃ j:Nat,(if (M.ob o).isSome=true then o else -1)=j/\j<M.objs.length
   rcases Rn M o with ⟨h0,_⟩|⟨j,y,rfl,hy,h1⟩
   ·rw[h0];exact .inl rfl
   ·rw[h1];exact .inr ⟨j,rfl,(List.getElem?_eq_some_iff.1 hy).1⟩
 ·rcases key i x ae with ae|⟨rfl,rfl⟩
  ·exact h.ok.uc i x ae
  ·exact agI _
 ·have:=h.sm.r;simp[Mo.scope];omega
 ·rcases List.mem_append.1 ae with ae|ae
  ·exact Nat.le_succ_of_le (h.sm.cs x ae)
  ·rw[List.mem_singleton.1 ae];simp
section
variable {H:Nat} {R:List OG} {w w1:Ov} {M:Mo} {aA aC:OG} {os cf:List OG} {K:Nat}
def aoK (h:HP H R w M aA aC os cf)(ac:M.Small K)(A:K<=1000000000)(i:Nat)(x:Ro)(am:M.OI[i]? = some x)(o:Int)(aR:o<0\/(M.objs.length:Int)<=o) :
  OE 105 #[OM H 0,Ol (i:Int),Ol o] w fun e w'=>e=OQ (Ol (M.OI.length:Int))/\PS H R w' ⟨M.objs,M.OI++[⟨(i:Int),(-1),[]⟩]⟩/\Py Th H w w':=by
 have z:=Oq (∀{G}(h:G:=by
 have f':OD w (w.alloc (.cells #[Ol (i:Int),Ol o,QD] 198)):=PO;obtain⟨C3,x2⟩:=aom (h.later f') i x am;clear am;have d4:=(Yx aA _ (Qs h.ob.row) o (by simpa using aR) (w.alloc (.cells #[Ol (i:Int),Ol o,QD] 198)));clear aR;exact aAz),G);exact aok
def asc (h:PS H R w M)(ac:M.Small K)(A:K<=1000000000)(u o:Int)(aT:(M.ro u).isSome=true) :
  OE 105 #[hP H,Ol u,Ol o] w fun e w'=>e=OQ (Ol (M.OI.length:Int))/\PS H R w' (M.scope u o)/\Py Th H w w':=by
 rcases P7 M u with ⟨Bu,_⟩|⟨i,x,rfl,ae,o4⟩
 ·rw[Bu] at aT;cases aT
 ·rcases Rn M o with ⟨wq,hout⟩|⟨j,y,rfl,hy,ws⟩
  ·have ay:M.scope i o=⟨M.objs,M.OI++[⟨i,-1,[]⟩]⟩:=by unfold Mo.scope;rw[o4,wq];rfl
   rw[ay];obtain⟨aA,aC,os,cf,h⟩:=h;exact aoK h ac A i x ae o hout
  ·exact aeM h ac A i j (Or.inr (by rw[o4];rfl)) (Or.inr (by rw[ws];rfl))
end
end Hp
inductive Ad where
 | mk (p:Nat) (kd:Int) (tx:OH) (n:Int) (ks:List Ad)
def Ad.p:Ad->Nat | .mk p _ _ _ _=>p
def Ad.kd:Ad->Int | .mk _ kd _ _ _=>kd
def Ad.tx:Ad->OH | .mk _ _ tx _ _=>tx
def Ad.ks:Ad->List Ad | .mk _ _ _ _ ks=>ks
mutual
def Ad.tr:Ad->Tr
 | .mk _ kd tx n ks=>.mk kd tx n (Ad.trs ks)
def Ad.trs:List Ad->List Tr
 | []=>[]
 | a::es=>a.tr::Ad.trs es
end
mutual
def Ad.Vb:Ad->List Nat
 | .mk p _ _ _ ks=>p::Ad.TQ ks
def Ad.TQ:List Ad->List Nat
 | []=>[]
 | a::es=>a.Vb++Ad.TQ es
end
mutual
def RV (I:Nat->Prop)(w:Ov):Ad->Prop
 | .mk p kd tx n ks=>Qb I w (.mk kd tx n (Ad.trs ks)) p/\I p/\(∃ v,w.heap[p]? = some (Px kd tx n v)/\anh I w v (ks.map Ad.p))/\Q5 I w ks
def Q5 (I:Nat->Prop)(w:Ov):List Ad->Prop
 | []=>True
 | a::es=>RV I w a/\Q5 I w es
end
def Q5.mem {I:Nat->Prop}{w:Ov}:∀ (es:List Ad),Q5 I w es->∀ a ∈ es,RV I w a
 | [],_,_,h=>absurd h O8
 | x::es,h,a,ax=>by
  rw[Q5] at h
  rcases List.mem_cons.1 ax with rfl|ax
  ·exact h.1
  ·exact Q5.mem es h.2 a ax
mutual
def RV.later {I:Nat->Prop}{w w':Ov}(ac:Vg I w w'):∀ a:Ad,RV I w a->RV I w' a
 | .mk p kd tx n ks,h=>by
  rw[RV] at h ⊢;obtain⟨az,al,⟨v,D,aa⟩,E⟩:=h;exact⟨Qb.later ac _ _ az,al,⟨v,by rw[ac p al (lt_of_heap D)];exact D,RF ac aa.2 aa.1,aa.2⟩,Q5.later ac ks E⟩
def Q5.later {I:Nat->Prop}{w w':Ov}(ac:Vg I w w'):∀ es:List Ad,Q5 I w es->Q5 I w' es
 | [],_=>by rw[Q5];trivial
 | a::es,h=>by
  rw[Q5] at h ⊢;exact⟨RV.later ac a h.1,Q5.later ac es h.2⟩
end
mutual
def RV.mono {I J:Nat->Prop}{w:Ov}(mq:∀ b,I b->b<w.heap.size->J b):∀ a:Ad,RV I w a->RV J w a
 | .mk p kd tx n ks,h=>by
  rw[RV] at h ⊢;obtain⟨az,al,⟨v,D,aa⟩,E⟩:=h;exact⟨Qb.mono mq _ _ az,mq p al (lt_of_heap D),⟨v,D,aa.1,fun g hg=>mq g (aa.2 g hg) (Qj aa.1 g hg).1⟩,Q5.mono mq ks E⟩
def Q5.mono {I J:Nat->Prop}{w:Ov}(mq:∀ b,I b->b<w.heap.size->J b):∀ es:List Ad,Q5 I w es->Q5 J w es
 | [],_=>by rw[Q5];trivial
 | a::es,h=>by
  rw[Q5] at h ⊢;exact⟨RV.mono mq a h.1,Q5.mono mq es h.2⟩
end
def abg:∀ es:List Ad,Ad.trs es=es.map Ad.tr
 | []=>by rw[Ad.trs];rfl
 | a::es=>by rw[Ad.trs,abg es];rfl
def Ad.aj2 (a:Ad):a.tr.kd=a.kd/\a.tr.tx=a.tx/\a.tr.kids=a.ks.map Ad.tr:=by
 cases a with
 | mk p kd tx n ks=>rw[Ad.tr,abg];exact⟨rfl,rfl,rfl⟩
def RV.parts {I:Nat->Prop}{w:Ov}{a:Ad}(h:RV I w a):∀ k ∈ a.ks,RV I w k:=by
 cases a with
 | mk p kd tx n ks=>rw[RV] at h;exact Q5.mem ks h.2.2.2
mutual
def Qb.ad {I:Nat->Prop}{w:Ov}:∀ (t:Tr) (p:Nat),Qb I w t p->∃ a:Ad,a.tr=t/\a.p=p/\RV I w a/\a.Vb.Nodup/\∀ b ∈ a.Vb,I b
 | .mk kd tx n ks,p,h=>by
  have az:=h;rw[Qb] at h;obtain⟨al,v,ps,D,aa,E⟩:=h;obtain⟨es,h1,U,aw,aL,bE⟩:=OL.Vb ks ps E;refine⟨.mk p kd tx n es,by rw[Ad.tr,abg,h1],rfl,?_,?_,?_⟩
  ·rw[RV,U,abg,h1];exact⟨az,al,⟨v,D,aa⟩,Q5.mono (fun b D _=>D.1) es aw⟩
  ·rw[Ad.Vb,List.nodup_cons];exact⟨fun aS=>(bE p aS).2 rfl,aL⟩
  ·rw[Ad.Vb];intro b D
   rcases List.mem_cons.1 D with rfl|D
   ·exact al
   ·exact(bE b D).1
def OL.Vb {I:Nat->Prop}{w:Ov}:∀ (ao:List Tr) (ps:List Nat),OL I w ao ps->∃ es:List Ad,es.map Ad.tr=ao/\es.map Ad.p=ps/\Q5 I w es/\(Ad.TQ es).Nodup/\∀ b ∈ Ad.TQ es,I b
 | [],ps,h=>by
  rw[OL] at h;subst h;exact⟨[],rfl,rfl,by rw[Q5];trivial,by rw[Ad.TQ];exact List.nodup_nil,by rw[Ad.TQ];intro b D;cases D⟩
 | t::ao,ps,h=>by
  rw[OL] at h;obtain⟨p,eQ,M,rfl,h1,U⟩:=h;obtain⟨a,j2,a2,a3,a4,a5⟩:=Qb.ad t p h1;obtain⟨es,dq,b2,em,oB,C5⟩:=OL.Vb ao eQ U;refine⟨a::es,by rw[List.map_cons,j2,dq],by rw[List.map_cons,a2,b2],?_,?_,?_⟩
  ·rw[Q5];exact⟨RV.mono (fun b D _=>D.1) a a3,Q5.mono (fun b D _=>D.1) es em⟩
  ·rw[Ad.TQ,List.nodup_append];refine⟨a4,oB,fun x ae y hy e=>?_⟩;have fQ:=(a5 x ae).2;have hL:=(C5 y hy).2;omega
  ·rw[Ad.TQ];intro b D
   rcases List.mem_append.1 D with D|D
   ·exact(a5 b D).1
   ·exact(C5 b D).1
end
section
variable {I:Nat->Prop} {w:Ov} {a:Ad} (h:RV I w a)
include I w a h
theorem RV.cells:I a.p/\a.p<w.heap.size/\w.cell? (Ot a.p 0)=some (Ol a.kd)/\w.cell? (Ot a.p 1)=some (OB a.tx) /\
  ∃ v,w.cell? (Ot a.p 3)=some v/\anh I w v (a.ks.map Ad.p):=by
 cases a with
 | mk p kd tx n ks=>
  rw[RV] at h;obtain⟨_,al,⟨v,D,aa⟩,_⟩:=h;obtain⟨c0,c1,_,c3,_⟩:=node_cells D;exact⟨al,lt_of_heap D,c0,c1,v,c3,aa⟩
theorem RV.nat:Qb I w a.tr a.p:=by
 cases a with
 | mk p kd tx n ks=>rw[RV] at h;rw[Ad.tr];exact h.1
end
mutual
def Ad.cnt:Ad->Nat
 | .mk _ _ _ _ ks=>1+Ad.cnts ks
def Ad.cnts:List Ad->Nat
 | []=>0
 | a::es=>a.cnt+Ad.cnts es
end
mutual
def Ad.ah8:∀ a:Ad,a.tr.count=a.cnt
 | .mk p kd tx n ks=>by rw[Ad.tr,count_mk,Ad.cnt,Ad.aj3 ks]
def Ad.aj3:∀ es:List Ad,Tr.counts (Ad.trs es)=Ad.cnts es
 | []=>by rw[Ad.trs,Ad.cnts,OZ]
 | a::es=>by rw[Ad.trs,OU,Ad.cnts,Ad.ah8 a,Ad.aj3 es]
end
mutual
def Ad.aj6:∀ a:Ad,a.Vb.length=a.cnt
 | .mk p kd tx n ks=>by rw[Ad.Vb,List.length_cons,Ad.afQ ks,Ad.cnt,Nat.add_comm]
def Ad.afQ:∀ es:List Ad,(Ad.TQ es).length=Ad.cnts es
 | []=>by rw[Ad.TQ,Ad.cnts];rfl
 | a::es=>by rw[Ad.TQ,List.length_append,Ad.aj6 a,Ad.afQ es,Ad.cnts]
end
def afR:∀ a b:List Ad,Ad.TQ (a++b)=Ad.TQ a++Ad.TQ b
 | [],b=>by rw[Ad.TQ];rfl
 | x::a,b=>by rw[List.cons_append,Ad.TQ,Ad.TQ,afR a b,List.append_assoc]
def aj7 (a:Ad):1<=a.cnt:=by cases a with|mk p kd tx n ks=>rw[Ad.cnt];omega
def afS:∀ es:List Ad,es.length<=Ad.cnts es
 | []=>Nat.zero_le _
 | a::es=>by
  have h1:=aj7 a;have U:=afS es;rw[Ad.cnts,List.length_cons];omega
def afT:∀ (es:List Ad) (a:Ad),a ∈ es->a.cnt<=Ad.cnts es
 | [],_,h=>absurd h O8
 | x::es,a,h=>by
  rw[Ad.cnts]
  rcases List.mem_cons.1 h with rfl|h
  ·omega
  ·have:=afT es a h;omega
def ani (a:Ad):a.cnt=1+Ad.cnts a.ks:=by cases a with|mk p kd tx n ks=>rw[Ad.cnt];rfl
def abv (a:Ad):a.Vb=a.p::Ad.TQ a.ks:=by cases a with|mk p kd tx n ks=>rw[Ad.Vb];rfl
mutual
def wk {α:Type}(f:α->Ad->α × Bool):α->Ad->α
 | a,.mk p kd tx n ks=>if (f a (.mk p kd tx n ks)).2 then wks f (f a (.mk p kd tx n ks)).1 ks else (f a (.mk p kd tx n ks)).1
def wks {α:Type}(f:α->Ad->α × Bool):α->List Ad->α
 | a,[]=>a
 | a,k::ks=>wks f (wk f a k) ks
end
def aFT {α:Type}(f:α->Ad->α × Bool)(a:α)(t:Ad):wk f a t=if (f a t).2 then wks f (f a t).1 t.ks else (f a t).1:=by
 cases t with
 | mk p kd tx n ks=>rw[wk];rfl
def ak6 {α:Type}(f:α->Ad->α × Bool):∀ (l m:List Ad) (a:α),wks f a (l++m)=wks f (wks f a l) m
 | [],m,a=>by rw[List.nil_append,wks]
 | k::l,m,a=>by rw[List.cons_append,wks,wks,ak6 f l m]
def aqV {α:Type}(f:α->Ad->α × Bool)(l:List Ad)(a:α)(k:Nat)(E:k<l.length):wks f a (l.take (k+1))=wk f (wks f a (l.take k)) l[k]:=by
 rw[List.take_succ_eq_append_getElem E,ak6,wks,wks]
def aFo {α:Type}(F:Nat)(x:OG)(I:Nat->Prop)(sp:Ov->Ov->Prop)(vy:α->Ov->Prop)(f:α->Ad->α × Bool)(P:α->List Ad->Prop)
  (jv:VR F) (hA:∀ W:Ov,(binOp .eql 47 (.func (.func F) #[] #[x]) .nilFunc).run prog W=.ok (OC false) W)
  (EO:∀ a b c,sp a b->sp b c->sp a c) (EL:∀ w w',sp w w'->Vg I w w'/\w.heap.size<=w'.heap.size)
  (hP:∀ a t ao,P a (t::ao)->P (f a t).1 ((if (f a t).2 then t.ks else [])++ao))
  (bI:∀ a t ao w,P a (t::ao)->vy a w->RV I w t->OE F #[Oo t.p,x] w fun e w'=>e=OQ (OC (f a t).2)/\vy (f a t).1 w'/\sp w w') :
  ∀ (m:Nat) (t:Ad),t.cnt<=m->m<=90000->∀ (ao:List Ad) (a:α) (w:Ov),P a (t::ao)->vy a w->RV I w t ->
   OE 36 #[Oo t.p,.func (.func F) #[] #[x]] w fun e w'=>e=OQ (.tuple #[])/\vy (wk f a t) w'/\P (wk f a t) ao/\sp w w':=by
 intro m
 induction m with
 | zero=>intro t bc;have:=aj7 t;omega
 | succ m bn=>
  intro t bc aS ao a w n6 am fo;obtain⟨Du,eP,_,_,v,fU,hrow,pQ⟩:=fo.cells;have hlen:(t.ks.map Ad.p).length=t.ks.length:=List.length_map _;obtain⟨cV,uc,aT⟩:=U3 hrow;subst aT;rw[hlen] at fU;have ai:=(bI a t ao w n6 am fo);have r5:=hide (hP a t ao n6);have fB:=hide (aFT f a t);have pm:=hide fo.parts;have vj:=hide pQ;have nB:=hide (bn);have uZ:=hide bc;have Gc:=hide aS;have cQ:=hide fU;have qa:=hide eP;have Co:=hide Du;have HLEN:=hide hlen;have Hf:=hide EO;have CP:=hide EL
  have rk:t.ks.length<=90000:=by have h1:=afS t.ks;have U:=ani t;omega
  clear bI hP am pQ bn bc aS fU eP Du hlen EO EL n6;obtain⟨p,al⟩:=xE t.p;rw[<-al] at ai cQ qa Co ⊢;clear al
  cases ae:(f a t).2 with
  | false=>
   rw[ae] at ai r5 fB;clear ae;have z:=Oq (∀{G}(h:G:=by
   have ik:=hide jw;have ew:=hide ha1;clear jw ha1;go_wp2_with fail;exact UU (v:=.tuple #[]) ⟨rfl,by rw[fB.out];exact ik.out,by rw[fB.out];exact r5.out,ew.out⟩),G);exact arV
  | true=>
   rw[ae] at ai r5 fB;clear ae;obtain⟨j2,ha1⟩:=xE ((f a t).1);rw[<-ha1] at ai r5 fB;clear ha1;have z:=Oq (∀{G}(h:G:=by
   obtain⟨np,b9⟩:=Om CP _ _ ha1;have d7:w1.cell? (Ot p 3)=some (.slice cV t.ks.length uc):=by rw[World.cell?_of_block (w:=w) (np p Co.out qa.out)];exact Om cQ
   have Jr:p<w1.heap.size:=Nat.lt_of_lt_of_le qa.out b9;have ik:=hide jw;have ew:=hide ha1;clear jw ha1 b9;go_wp2_with fail
   go_loopw [23] (fun i wr=>∃ k:Nat,k<=t.ks.length/\i=Ol k/\vy (wks f j2 (t.ks.take k)) wr/\P (wks f j2 (t.ks.take k)) (t.ks.drop k++ao)/\sp w wr) (fun i _=>t.ks.length - (intOf i).toNat)
   case atStart=>exact⟨0,Nat.zero_le _,rfl,by rw[List.take_zero,wks];exact ik.out,by rw[List.take_zero,wks];exact r5.out,ew.out⟩
   case round=>
    obtain⟨k,E,rfl,hg,qz,gA⟩:=hrel;have uY:=hide hg;have ma:=hide qz;have yI:=hide gA;clear hg gA qz
    by_cases aQ:k<t.ks.length
    ·have z:=Oq (∀{G}(h:G:=by
     have dc:k<(t.ks.map Ad.p).length:=by rw[HLEN.out];exact aQ
     have ub:=Om vj g rfl;have dI:=(Qj hrow g rfl).1;obtain⟨ll,cn⟩:=Om CP _ _ yI.out;obtain⟨q,ag⟩:=xE ((t.ks[k]).p);have ej:wr.cell? (Ot g k)=some (Oo q):=by
      rw[World.cell?_of_block (w:=w) (a:=(Ot g k)) (ll g ub dI),hcell k dc,List.getElem_map,ag]
     have mA:RV I wr t.ks[k]:=RV.later ll _ (Om pm _ (List.getElem_mem aQ));have AL:g<wr.heap.size:=Nat.lt_of_lt_of_le dI cn;have m6:(t.ks[k]).cnt<=m:=by
      have h1:=afT t.ks _ (List.getElem_mem aQ);have U:=ani t;have aw:=Om uZ;omega
     have qz:=Om ma;rw[List.drop_eq_getElem_cons aQ,List.cons_append] at qz;have ai:=(nB.out t.ks[k] m6 (by have:=Om Gc;omega) (t.ks.drop (k+1)++ao) _ wr qz uY.out mA)
     have tG:=hide (aqV f t.ks j2 k aQ);rw[<-ag] at ai;have h8:(k:Int)<(t.ks.length:Int):=Ou;clear hcell m6 qz cn ag;go_wp2_with fail;refine cm ai ?_;rintro e w2 ⟨rfl,eS,be,ha2⟩;have f4:=hide eS;have b8:=hide be;have ee:=hide (Om Hf _ _ _ yI.out ha2);clear eS ha2 be ej;go_wp2
     go_roundw
     case rel=>exact⟨k+1,by omega,by go_num,by rw[tG.out];exact f4.out,by rw[tG.out];exact b8.out,ee.out⟩
     case measure=>simp[intOf];omega),G);exact av1
    ·have eO:k=t.ks.length:=Ou;subst eO;go_wp2
     go_end0
     have h1:=Om uY;have U:=Om ma;rw[List.take_length] at h1 U;rw[List.drop_length,List.nil_append] at U;rw[fB.out];exact⟨rfl,h1,U,yI.out⟩),G);exact arV
def mkP (e:(Nat × OG) × Nat):MapEntry:={ key:=Oo e.1.1,val:=e.1.2,born:=e.2 }
def Xn (l:List (Nat × OG)):Array MapEntry:=((l.zipIdx).map mkP).toArray
def Cl (W:Ov)(p:Nat):Prop:=∃ cs t,W.heap[p]? = some (O1 cs t)
def aHk (W:Ov):(sizeOf 40).run prog W=.ok 4 W:=by kernel_rfl
def ayq {W:Ov}{p q:Nat}(al:Cl W p)(ag:Cl W q):(Op.equal 22 (Oo p) (Oo q)).run prog W=.ok (decide (p=q)) W:=by
 obtain⟨ca,ta,ax⟩:=al;obtain⟨cb,tb,D⟩:=ag;have rb:=underlying22
 show (Op.equalIn (9999+1) 22 (Oo p) (Oo q)).run prog W=_
 rw[Op.equalIn,Sem.run_bind,run_underlying rb W];simp only[Result.andThen_ok,Sem.run_bind,aHk]
 by_cases h:p=q
 ·subst h;rw[decide_eq_true rfl];exact run_sameAddr_same _ _
 ·rw[decide_eq_false h];exact run_sameAddr_other W (a:=(Ot p 0)) (b:=(Ot q 0)) (fun e=>h (by cases e;rfl)) ax D
def ahv {W:Ov}{p:Nat}(al:Cl W p):∀ (l:List (Nat × OG)) (n i:Nat),(∀ e ∈ l,Cl W e.1) ->
  ∃ o,(Instr.findAsking 22 (Oo p) ((l.zipIdx n).map mkP) i).run prog W=.ok o W/\o.map (·.2)=(l.find? (fun e=>decide (p=e.1))).map (·.2)
 | [],_,_,_=>⟨none,rfl,rfl⟩
 | e::l,n,i,h=>by
  have h1:=ayq al (h e O8);simp only[List.zipIdx_cons,List.map_cons,Instr.findAsking,mkP,Sem.run_bind,h1,Result.andThen_ok,List.find?_cons]
  cases hd:decide (p=e.1)
  ·simp only[Bool.false_eq_true,if_false];exact ahv al l (n+1) (i+1) (fun e aq=>h e (by simp[aq]))
  ·exact⟨some (i,e.2),rfl,rfl⟩
def akz {W:Ov}{p:Nat}(al:Cl W p)(l:List (Nat × OG))(h:∀ e ∈ l,Cl W e.1) :
  ∃ o,(Instr.findKey 22 (Oo p) (Xn l).toList).run prog W=.ok o W/\o.map (·.2)=(l.find? (fun e=>decide (p=e.1))).map (·.2):=by
 have rb:=underlying22
 cases l with
 | nil=>
  refine⟨none,?_,rfl⟩;unfold Instr.findKey;rw[Sem.run_bind,run_underlying rb W];rfl
 | cons e l=>
  obtain⟨o,h1,U⟩:=ahv al (e::l) 0 0 h;refine⟨o,?_,U⟩;unfold Instr.findKey;rw[Sem.run_bind,run_underlying rb W];simp only[Result.andThen_ok,Xn];exact h1
def amN (l:List (Nat × OG))(k:Nat)(v:OG):(Xn l).push { key:=Oo k,val:=v,born:=l.length }=Xn (l++[(k,v)]):=by
 unfold Xn;rw[List.zipIdx_append,List.map_append];simp[mkP,List.zipIdx]
def ajF (m:Nat)(l:List (Nat × OG))(p:Nat)(v:OG)(W:Ov)(aS:W.heap[m]? = some (.map (Xn l) l.length))(al:Cl W p)(hl:∀ e ∈ l,Cl W e.1)(az:l.find? (fun e=>decide (p=e.1))=none) :
  (Instr.mapUpdate 80 (.map (some m)) (Oo p) v).run prog W=.ok () (QJ W m (.map (Xn (l++[(p,v)])) (l.length+1))):=by
 obtain⟨o,aw,U⟩:=akz al l hl;have rb:=underlying22;have Ag:=underlying80;have aR:o=none:=by
  rw[az] at U
  cases o with
  | none=>rfl
  | some y=>simp at U
 subst aR;have ej:∀ b,(Instr.checkKey b 10000 22 (Oo p)).run prog W=.ok () W:=by
  intro b;rw[Instr.checkKey,Sem.run_bind,run_underlying rb W];rfl
 have hg:(getObj m).run prog W=.ok (.map (Xn l) l.length) W:=by simp[getObj,Sem.run,aS]
 unfold Instr.mapUpdate;rw[Sem.run_bind,run_underlying Ag W];simp only[Result.andThen_ok,Sem.run_bind,hg,ej,aw];rw[amN];simp[setObj,Sem.run,aS,QJ]
def atL (l:List (Nat × OG)):(Xn l).size=l.length:=by simp[Xn]
def WC (l:List Nat):List (Nat × OG):=l.zipIdx.map fun e=>(e.1,Ol (e.2:Int))
def acO (l:List Nat):(WC l).length=l.length:=by simp[WC]
def amO (l:List Nat)(p:Nat):WC (l++[p])=WC l++[(p,Ol (l.length:Int))]:=by
 simp[WC,List.zipIdx_append,List.zipIdx]
def acy {l:List Nat}{e:Nat × OG}(h:e ∈ WC l):e.1 ∈ l:=by
 unfold WC at h;obtain⟨x,ae,rfl⟩:=List.mem_map.1 h;obtain⟨cp,dG⟩:=x;have:=List.mem_zipIdx ae;simp only;rw[this.2.2];exact List.getElem_mem _
def ad2 {p:Nat}{l:List Nat}(h:p ∉ l):(WC l).find? (fun e=>decide (p=e.1))=none:=by
 rw[List.find?_eq_none];intro e aq;have:=acy aq;simp only[decide_eq_true_eq];rintro rfl;exact h this
structure Nms (mb nb:Nat)(l:List Nat)(w:Ov):Prop where
 word:w.heap[nb]? = some (O1 #[.map (some mb)] 80)
 map:w.heap[mb]? = some (.map (Xn (WC l)) l.length)
 old:∀ p ∈ l,Cl w p
def nmF (l:List Nat)(t:Ad):List Nat × Bool:=(l++[t.p],true)
mutual
def ave:∀ (t:Ad) (l:List Nat),wk nmF l t=l++t.Vb
 | .mk p kd tx n ks,l=>by
  rw[wk,Ad.Vb];simp only[nmF,if_true];rw[show (Ad.mk p kd tx n ks).p=p from rfl,aqd ks,List.append_assoc];rfl
def aqd:∀ (ao:List Ad) (l:List Nat),wks nmF l ao=l++Ad.TQ ao
 | [],l=>by rw[wks,Ad.TQ,List.append_nil]
 | t::ao,l=>by rw[wks,ave t,aqd ao,Ad.TQ,List.append_assoc]
end
def RV.cl {I:Nat->Prop}{w:Ov}{a:Ad}(h:RV I w a):Cl w a.p:=by
 cases a with
 | mk p kd tx n ks=>
  rw[RV] at h;obtain⟨_,_,⟨v,D,_⟩,_⟩:=h;exact⟨_,_,D⟩
def ahw {mb nb:Nat}{l:List Nat}{t:Ad}{I:Nat->Prop}{w:Ov}(hN:Nms mb nb l w)(bc:RV I w t)(al:t.p ∉ l) :
  OE 73 #[Oo t.p,OM nb 0] w fun e w'=>e=OQ (OC true)/\w'=QJ w mb (.map (Xn (WC (l++[t.p]))) (l.length+1)):=by
 have hw:w.cell? (Ot nb 0)=some (.map (some mb)):=by rw[cell_of hN.word];rfl
 have aT:=ajF mb (WC l) t.p (Ol (l.length:Int)) w (by rw[acO];exact hN.map) bc.cl (fun e aq=>hN.old _ (acy aq)) (ad2 al)
 rw[acO,<-amO] at aT;have hl:(Builtin.len_ #[80] 3 #[.map (some mb)]).run prog w=.ok (Ol (l.length:Int)) w:=by
  simp[Builtin.len_,getObj,Sem.run,hN.map,atL,acO,goInt]
 obtain⟨p,be⟩:=xE t.p;rw[<-be] at aT ⊢;clear al be;go_enter func73,ntmps73;go_wp2;go_ret;exact⟨rfl,rfl⟩
def Cl.set {w:Ov}{m p:Nat}{o:Obj}{es:Array MapEntry}{k:Nat}(h:Cl w p)(aS:w.heap[m]? = some (.map es k)):Cl (QJ w m o) p:=by
 obtain⟨cs,t,aj⟩:=h;refine⟨cs,t,?_⟩;rw[QB (fun e=>by rw[e,aS] at aj;cases aj)]
 exact aj
def Nms.next {mb nb:Nat}{l:List Nat}{p:Nat}{w:Ov}(h:Nms mb nb l w)(al:Cl w p)(cl:nb≠mb):Nms mb nb (l++[p]) (QJ w mb (.map (Xn (WC (l++[p]))) (l.length+1))):=by
 refine⟨by rw[QB cl];exact h.word,by rw[Xt (lt_of_heap h.map),List.length_append];rfl,fun q ag=>?_⟩
 rcases List.mem_append.1 ag with ag|ag
 ·exact(h.old q ag).set h.map
 ·rw[List.mem_singleton.1 ag];exact al.set h.map
def amP {m B:Nat}(w:Ov)(o:Obj):Ap m B w (QJ w m o):=⟨rfl,rfl,rfl,by rw[VH];exact O6,fun k _ E=>QB E⟩
def aHl:VR 73:=fun _ _=>by kernel_rfl
def ajq {I:Nat->Prop}(t:Ad)(w:Ov)(bc:RV I w t)(hd:t.Vb.Nodup)(aj:t.cnt<=90000) :
  OE 38 #[Oo t.p] w fun e w'=>(∃ mb,e=OQ (.map (some mb))/\w.heap.size<=mb/\w'.heap[mb]? = some (.map (Xn (WC t.Vb)) t.Vb.length))/\OD w w':=by
 obtain⟨w2,da⟩:=xE ((w.alloc (.map #[] 0)).alloc (.cells #[.map (some w.heap.size)] 80));have aF:OD w w2:=by
  rw[da];exact PO.alloc O8 _
 have ll:w2.heap.size=w.heap.size+2:=by rw[da];simp
 have ay:(w.alloc (.map #[] 0)).heap.size=w.heap.size+1:=by simp
 have hN:Nms w.heap.size (w.heap.size+1) [] w2:=by
  refine⟨?_,?_,fun p al=>absurd al O8⟩
  ·rw[da,<-ay];exact OA _ _
  ·rw[da,Below.heap_alloc _ _ _ O8];exact OA _ _
 have ai:=(aFo 73 (OM (w.heap.size+1) 0) (fun b=>b<w.heap.size+2/\b≠w.heap.size) (Ap w.heap.size (w.heap.size+2)) (Nms w.heap.size (w.heap.size+1)) nmF (fun l ao=>(l++Ad.TQ ao).Nodup) aHl (fun W=>by kernel_rfl)
  (fun _ _ _ h k=>h.trans k) (fun w w' h=>⟨fun b D _=>h.block b D.1 D.2,h.size⟩)
  (fun l t ao h=>by
   simp only[nmF,if_true];rw[Ad.TQ,abv] at h;rw[afR];simpa using h)
  (fun l t ao w' h oK aO=>by
   have al:t.p ∉ l:=by
    rw[Ad.TQ,abv,List.nodup_append] at h;exact fun aS=>h.2.2 _ aS _ O8 rfl
   refine(ahw oK aO al).mono ?_;rintro e ap ⟨rfl,rfl⟩;exact⟨rfl,oK.next aO.cl Ou,amP _ _⟩)
  t.cnt t O6 aj [] [] w2 (by rw[List.nil_append,Ad.TQ,Ad.TQ,List.append_nil];exact hd) hN
  (RV.later (I:=fun b=>b<w.heap.size+2/\b≠w.heap.size) (fun b D hl=>aF.block b hl) _ (RV.mono (fun b _ hl=>⟨by omega,by omega⟩) _ bc)))
 rw[ave,List.nil_append] at ai;obtain⟨p,al⟩:=xE t.p;rw[<-al] at ai ⊢;rw[da] at ai;have bu:=hide da;have ui:=mkMap 80;clear ll ay hd aj al da;go_enter func38,ntmps38;go_wp2_with fail;refine cm ai ?_;rintro e ap ⟨rfl,oW,_,ha3⟩;have hw:ap.cell? (Ot (w.heap.size+1) 0)=some (.map (some w.heap.size)):=by rw[cell_of oW.word];rfl
 have hW:=hide oW.map;rw[<-bu.out] at ha3;have d3:OD w ap:=aF.trans ((ha3.mono Ou).below O6);go_wp2;go_ret;exact⟨⟨_,rfl,O6,hW.out⟩,d3⟩
def aiJ {w:Ov}{B B' e sz:Nat}{v:OG}{n:Nat}{xs:List OG}(h:w.ownsRow B e sz v n xs)(a8:B'<=B):w.ownsRow B' e sz v n xs:=by
 obtain⟨h1,U|⟨g,cap,cj,aw,aL,bE⟩⟩:=h
 ·exact⟨h1,Or.inl U⟩
 ·exact⟨h1,Or.inr ⟨g,cap,cj,aw,Nat.le_trans a8 aL,bE⟩⟩
