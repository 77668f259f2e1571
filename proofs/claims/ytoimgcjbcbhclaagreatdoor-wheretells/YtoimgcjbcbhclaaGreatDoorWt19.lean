/-
  What is found in the reader's maps.
-/
import Derived.Test.YtoimgcjbcbhclaaGreatDoorWt18
import Derived.Deep.DrawnRows
import Derived.Deep.AppendLies
set_option maxRecDepth 100000
set_option maxHeartbeats 16000000
namespace Go.Proofs.YtoimgcjbcbhclaaGreatDoor
open Go.RowKit
theorem beq_bytes (a b:ByteArray):(a==b)=decide (a=b):=by
 by_cases h:a=b
 ·subst h;rw[decide_eq_true rfl]
  cases a with
  | mk a=>
   show (a==a)=true
   exact beq_self_eq_true _
 ·rw[decide_eq_false h]
  cases a with
  | mk a=>cases b with
   | mk b=>
    show (a==b)=false
    rw[beq_eq_false_iff_ne];exact fun e=>h (by rw[e])
theorem find_ents (s:ByteArray):∀ (l:List (ByteArray × Value)) (n i:Nat),
  ∃ o,Instr.findNow .string (.string s) ((l.zipIdx n).map mkE) i=some o∧o.map (·.2)=(l.find? (fun e=>decide (s=e.1))).map (·.2)
 | [],n,i=>⟨none,rfl,rfl⟩
 | e::l,n,i=>by
  simp only[List.zipIdx_cons,List.map_cons,Instr.findNow,mkE,Instr.sameNow,beq_bytes,List.find?_cons]
  cases h:decide (s=e.1)
  ·simp only;exact find_ents s l (n+1) (i+1)
  ·exact⟨some (i,e.2),rfl,rfl⟩
theorem lookup_map (T E:TypeId)(m k:Nat)(l:List (ByteArray × Value))(s:ByteArray)(z:Value)(W:World)(hT:Tryz.prog.underlying T=some (.map 9 E))(hm:W.heap[m]? = some (.map (mapOf l) k))(hz:(zeroValue E).run Tryz.prog W=.ok z W) :
  (Instr.lookup T (.map (some m)) (.string s) true).run Tryz.prog W=.ok (.tuple #[((l.find? (fun e=>decide (s=e.1))).map (·.2)).getD z,.bool (l.find? (fun e=>decide (s=e.1))).isSome]) W:=by
 exact zbca
def noSg:Value:=.agg #[.string ⟨#[]⟩,.int .i64 0,.int .i64 0,.int .i64 0]
def sgVO (o:Option Sg):Value:=match o with|some s=>sgV s|none=>noSg
theorem look_signs (c:Ctx)(s:ByteArray)(W:World)(h:W.heap[c.mS]? = some (.map sgMap 14)) :
  (Instr.lookup 199 (.map (some c.mS)) (.string s) true).run Tryz.prog W=.ok (.tuple #[sgVO (sgOf s),.bool (sgOf s).isSome]) W:=by
 rw[lookup_map 199 189 c.mS 14 _ s noSg W Tryz.underlying199 h (by kernel_rfl)]
 unfold sgOf
 rw[List.find?_map]
 simp only[Function.comp_def]
 cases sgs.find? (fun e=>decide (s=e.tx)) <;> rfl
def stVO (R:Nat)(o:Option Nat):Value:=match o with|some q=>boundV R (stFn q)|none=>.nilFunc
def vlVO (R:Nat)(o:Option Nat):Value:=match o with|some q=>boundV R (vlFn q)|none=>.nilFunc
section
variable (c:Ctx) (s:ByteArray) (W:World)
include c s W
theorem look_stms (h:W.heap[c.mT]? = some (.map (stMap c.R) 12)) :
  (Instr.lookup 201 (.map (some c.mT)) (.string s) true).run Tryz.prog W=.ok (.tuple #[stVO c.R (look2 stKeys s),.bool (look2 stKeys s).isSome]) W:=by
 rw[lookup_map 201 261 c.mT 12 _ s .nilFunc W Tryz.underlying201 h (by kernel_rfl)]
 unfold look2
 rw[List.find?_map]
 simp only[Function.comp_def]
 cases stKeys.find? (fun e=>decide (s=e.1)) <;> rfl
theorem look_vals (h:W.heap[c.mV]? = some (.map (vlMap c.R) 3)) :
  (Instr.lookup 201 (.map (some c.mV)) (.string s) true).run Tryz.prog W=.ok (.tuple #[vlVO c.R (look2 vlKeys s),.bool (look2 vlKeys s).isSome]) W:=by
 rw[lookup_map 201 261 c.mV 3 _ s .nilFunc W Tryz.underlying201 h (by kernel_rfl)]
 unfold look2
 rw[List.find?_map]
 simp only[Function.comp_def]
 cases vlKeys.find? (fun e=>decide (s=e.1)) <;> rfl
end
theorem hdSize:hdCells.size=16:=by decide +kernel
theorem hdIdx (k:Nat)(hk:k<8)(W:World):(Instr.index 194 (.agg hdCells) (.int .i64 (k:Int))).run Tryz.prog W=.ok (.agg #[.string (hds.getD k (noText,0)).1,.int .i64 (hds.getD k (noText,0)).2]) W:=by
 have h:k=0∨k=1∨k=2∨k=3∨k=4∨k=5∨k=6∨k=7:=by omega
 rcases h with rfl|rfl|rfl|rfl|rfl|rfl|rfl|rfl <;> (show _=_;kernel_rfl)
theorem hd_hit {s:ByteArray}{j:Nat}(hj:j<8)(h0:∀ q,q<j→s≠(hds.getD q (noText,0)).1)(h:s=(hds.getD j (noText,0)).1):hdKind s=(hds.getD j (noText,0)).2:=by
 have key:∀ (l:List (ByteArray × Int)) (j:Nat),j<l.length→(∀ q,q<j→s≠(l.getD q (noText,0)).1)→s=(l.getD j (noText,0)).1→(look2 l s).getD 0=(l.getD j (noText,0)).2:=by
  intro l
  induction l with
  | nil=>intro j hj;exact absurd hj (by simp)
  | cons e l ih=>
   intro j hj h0 h;unfold look2;rw[List.find?_cons]
   cases j with
   | zero=>
    simp only[List.getD_cons_zero] at h ⊢;rw[decide_eq_true h];rfl
   | succ j=>
    have:=h0 0 (by omega);simp only[List.getD_cons_zero] at this;rw[decide_eq_false this];exact ih j (by simpa using hj) (fun q hq=>by simpa using h0 (q+1) (by omega)) (by simpa using h)
 exact key hds j (by simpa[hds] using hj) h0 h
theorem hd_none {s:ByteArray}(h0:∀ q,q<8→s≠(hds.getD q (noText,0)).1):hdKind s=0:=by
 unfold hdKind look2
 have:hds.find? (fun e=>decide (s=e.1))=none:=by
  rw[List.find?_eq_none];intro e he;obtain⟨q,hq,rfl⟩:=List.getElem_of_mem he;have hq8:q<8:=by simpa[hds] using hq
  have:=h0 q hq8;rw[List.getD_eq_getElem?_getD,List.getElem?_eq_getElem hq] at this;simpa using this
 rw[this]
 rfl
theorem headKind_any (s:ByteArray)(w:World)(t:TypeId)(fr:Nat × Nat)(hg:w.heap[3]? = some (.cells hdCells t fr)) :
  Calls Tryz.prog 279 #[.string s] w fun e w'=>e=.returned (.int .i64 (hdKind s))∧Below w.heap.size w w':=by
 have HG:=hide hg
 obtain⟨cs,hcs⟩:∃ cs,cs=hdCells:=⟨_,rfl⟩
 have hix:∀ k:Nat,k<8→∀ W,(Instr.index 194 (.agg cs) (.int .i64 (k:Int))).run Tryz.prog W=.ok (.agg #[.string (hds.getD k (noText,0)).1,.int .i64 (hds.getD k (noText,0)).2]) W:=by rw[hcs];exact hdIdx
 have hsz:cs.size=16:=by rw[hcs];exact hdSize
 rw[←hcs] at HG
 have HIX:=hide hix
 have Hsz:=hide hsz
 clear hg hix hcs hsz
 go_enter Tryz.func279,Tryz.ntmps279
 go_wp2_with (refine wpList_load_row rfl 194 _ rfl 3 rfl t cs fr _ HG.out Tryz.underlying194 rfl (by rw[Hsz.out];kernel_rfl) ?_)
 go_loopw [6] (fun i wr=>∃ j:Nat,j≤8∧i=.int .i64 j∧(∀ q,q<j→s≠(hds.getD q (noText,0)).1)∧Below w.heap.size w wr) (fun i _=>8 - (intOf i).toNat)
 case atStart=>exact⟨0,Nat.zero_le _,rfl,fun q hq=>absurd hq (Nat.not_lt_zero _),Below.refl _ _⟩
 case round=>
  obtain⟨j,hj,rfl,he,hbel⟩:=hrel;have HE:=hide he;have HB:=hide hbel;clear he hbel
  by_cases hlt:j<8
  ·have hck:=unhide HIX j hlt;obtain⟨g,hg⟩:∃ g,g=(hds.getD j (noText,0)).1:=⟨_,rfl⟩;obtain⟨n,hn⟩:∃ n,n=(hds.getD j (noText,0)).2:=⟨_,rfl⟩;rw[←hg,←hn] at hck;have HGJ:=hide hg
   have HNJ:=hide hn;clear hg hn
   by_cases hp:g=s
   ·have hb:=tl_eq hp;have HP:=hide hp;clear hp;go_wp2_with fail;go_ret;refine⟨ret_int ?_,HB.out.alloc HB.out.size _⟩;rw[hd_hit hlt HE.out (by rw[←HGJ.out];exact HP.out.symm),HNJ.out]
   ·have hb:=tl_ne hp;have HP:=hide hp;clear hp;go_wp2_with fail
    go_roundw
    case rel=>exact⟨j+1,by omega,by go_num,fun q hq=>by (by_cases hqj:q=j);(rw[hqj,←HGJ.out];exact fun e=>unhide HP e.symm);exact unhide HE q (by omega),HB.out.alloc HB.out.size _⟩
    case measure=>simp[intOf];omega
  ·go_wp2_with fail;go_ret;exact⟨ret_int (hd_none (fun q hq=>unhide HE q (by omega))).symm,HB.out⟩
theorem kind_any (c:Ctx)(w:World)(i d:Nat)(h:Rdr c w i d)(hk:(tkA c.l i).kd≠6) :
  Calls Tryz.prog 238 #[rPtr c] w fun e w'=>e=.returned (.int .i64 (hdKind (tkA c.l i).tx))∧Rdr c w' (i+1) d∧Ap c.R w.heap.size w w':=by
 have HT:=hide (token_any c w i d h)
 have hi:i+1<c.l.length:=next_lt h.base.ends h.lt hk
 have hL:=h.base.len
 have HR:=hide h
 clear h hk
 go_enter Tryz.func238,Tryz.ntmps238
 go_wp2_with fail
 refine cm HT.out ?_
 rintro e w1 ⟨rfl,hb⟩
 have HB:=hide hb
 have HR1:=hide (HR.out.later hb)
 obtain⟨t,fr,h4⟩:=HR1.out.base.heads
 have HK:=hide (headKind_any (tkA c.l i).tx w1 t fr h4)
 have hfl:=fldText (tkA c.l i)
 clear hb h4
 unfold tkV
 go_wp2_with fail
 refine cm HK.out ?_
 rintro e w2 ⟨rfl,hb⟩
 have HB2:=hide (HB.out.trans (hb.mono HB.out.size))
 have HR2:=hide (HR1.out.later hb)
 have h1:=HR2.out.c1
 have hz:=HR2.out.fz
 clear hb
 go_wp2_with fail
 go_ret
 exact⟨rfl,HR2.out.go2 (i+1) hi (by omega),ap_next HB2.out _ _⟩
def Does (c:Ctx)(f:Nat)(V:Nat→World→Tr→Value→Prop)(sp:Nat→Nat→PR Tr):Prop:=
 ∀ w d i r,sp d i=r→r≠.out→Rdr c w i d→Calls Tryz.prog f #[rPtr c] w (PPost c w d (V w.heap.size) r)
theorem mf_bound (R f:Nat)(W:World):(Instr.makeFunc (.func f) #[.pointer (some ⟨R,0,none⟩)] #[]).run Tryz.prog W=.ok (boundV R f) W:=rfl
theorem Rdr.dive2 {c:Ctx}{w:World}{i d:Nat}(h:Rdr c w i d)(e:Nat)(he:e≤30){v:Int}(hv:v=(e:Int)):Rdr c (w.setCell ⟨c.R,2,none⟩ (.int .i64 v)) i e:=by
 subst hv;exact h.dive e he
theorem deeper_any (c:Ctx)(f:Nat)(sp:Nat→Nat→PR Tr)(hf:Does c f NV sp)(hen:∀ args W,(callFunc f args).run Tryz.prog W=.ok (.enter f args) W)
  (w:World) (d i:Nat) (r:PR Tr) (hr:deepP c.l sp d i=r) (ho:r≠.out) (h:Rdr c w i d):Calls Tryz.prog 175 #[rPtr c,boundV c.R f] w (PPost c w d (NV w.heap.size) r):=by
 have HR:=hide h
 have h2:=h.c2
 have hz:=h.fz
 have hd:=h.deep
 by_cases h30:d=30
 ·have HF:=hide (fault_any c 4 w i d h);subst h30;unfold deepP at hr;rw[if_pos rfl] at hr;have HS:=hide hr;clear hr h ho hf hen hd;go_enter Tryz.func175,Tryz.ntmps175;go_wp2_with fail;refine cm HF.out ?_
  rintro e w1 ⟨rfl,hb⟩;exact⟨rfl,ppBad HS.out.symm (Ap.of hb)⟩
 ·unfold deepP at hr;rw[if_neg h30] at hr;have h30':((d:Int)==30)=false:=beq_eq_false_iff_ne.2 (by omega)
  have HC:Hid _:=hf (w.setCell ⟨c.R,2,none⟩ (.int .i64 ((d:Int)+1))) (d+1) i r hr ho (h.dive2 (d+1) (by omega) (by omega));have HO:=hide ho;have HZ:=hide hz;clear hr h ho hf;unfold boundV
  go_enter Tryz.func175,Tryz.ntmps175;go_wp2_with fail;refine cm HC.out ?_;clear HC;intro e w1 hp
  cases r with
  | out=>exact absurd rfl HO.out
  | bad er p=>
   obtain⟨rfl,ha⟩:=hp;refine⟨rfl,ppBad rfl ?_⟩;exact(ap_next (c:=c) (Below.refl _ w) _ 2).trans (by simpa using ha)
  | ok x j=>
   obtain⟨⟨v,rfl,hv⟩,hrd,ha⟩:=hp;have HV:=hide hv;have HR1:=hide hrd;have HA:=hide ((ap_next (c:=c) (Below.refl _ w) (.int .i64 ((d:Int)+1)) 2).trans (by simpa using ha));have g2:=hrd.c2
   have gz:=hrd.fz;clear hv hrd ha hz h2 HO;go_wp2_with fail;go_ret;have HA2:=fun v=>HA.out.trans (Ap.setCell (R:=c.R) (B:=w.heap.size) (Ap.refl _ _ _) (p:=⟨c.R,2,none⟩) (Or.inr rfl) v)
   have hlt:=HR.out.rlt;refine ppOk rfl ?_ (HR1.out.dive2 d hd (by omega)) (HA2 _);exact NV.later (R:=c.R) (by simpa using HV.out) (Ap.setCell (R:=c.R) (Ap.refl _ _ _) (p:=⟨c.R,2,none⟩) (Or.inr rfl) _) hlt
theorem row_open {w:World}{B:Nat}{u:Value}{ps:List Nat}(h:w.ownsRow B 22 1 u ps.length (ps.map nPtr))(hne:0<ps.length) :
  ∃ g cap,u=.slice (some ⟨g,0,none⟩) ps.length cap∧∀ j,(hj:j<ps.length)→w.cell? ⟨g,j,none⟩=some (nPtr ps[j]):=by
 rcases h.2 with hn|⟨g,cap,cur,hv,hb,hg,h1,h2,h3,h4⟩
 ·omega
 ·refine⟨g,cap,hv,fun j hj=>?_⟩;rw[cell_of hg,←Array.getElem?_toList];have:(cur.toList.take (ps.length * 1))[j]? =(ps.map nPtr)[j]?:=by rw[h4]
  rw[List.getElem?_take_of_lt (by omega)] at this;rw[this,List.getElem?_map,List.getElem?_eq_getElem hj];rfl
theorem row_shut {w:World}{B:Nat}{u:Value}{n:Nat}{xs:List Value}(h:w.ownsRow B 22 1 u n xs):∃ a cap,u=.slice a n cap:=by
 rcases h.2 with hn|⟨g,cap,cur,hv,_⟩
 ·exact⟨none,0,by rw[hn.1,hn.2]⟩
 ·exact⟨_,cap,hv⟩
theorem codeT_same {t:Tr}(h:∀ k1 r k2 r1,t.kids=k1::r→k1.kids=k2::r1→k1.kd=15→k2.kd=18→k2.tx≠tUse):codeT t=t:=by
 unfold codeT
 split
 ·rename_i kd tx n k1 t1 n1 k2 t2 n2 l2 r1 r
  rw[if_neg];rintro⟨a,b,e⟩;exact h _ _ _ _ rfl rfl a b e
 ·rfl
theorem codeT_strict {t k1 k2:Tr}{r r1:List Tr}(h1:t.kids=k1::r)(h2:k1.kids=k2::r1)(h3:k1.kd=15)(h4:k2.kd=18)(h5:k2.tx=tUse):codeT t=.mk t.kd tStrict t.n t.kids:=by
 cases t with
 | mk kd tx n ks=>
  simp only[Tr.kids] at h1;subst h1
  cases k1 with
  | mk a b c ds=>
   simp only[Tr.kids] at h2;subst h2
   cases k2 with
   | mk a2 b2 c2 d2=>
    simp only[Tr.kd,Tr.tx] at h3 h4 h5;simp only[codeT,Tr.kd,Tr.n,Tr.kids];rw[if_pos ⟨h3,h4,h5⟩]
theorem EV.text {B:Nat}{w:World}{t:Tr}{p:Nat}(h:EV B w t (nPtr p))(s:ByteArray):EV B (w.setCell ⟨p,1,none⟩ (.string s)) (.mk t.kd s t.n t.kids) (nPtr p):=by
 obtain⟨p',u,ps,he,hp,hb,hr,hu,hk⟩:=h
 have:p'=p:=by simpa[nPtr] using he.symm
 subst this
 have hs:∀ b,b≠p'→(w.setCell ⟨p',1,none⟩ (.string s)).heap[b]? = w.heap[b]?:=fun b hb=>Below.heap_setCell w ⟨p',1,none⟩ _ b hb
 refine⟨p',u,ps,rfl,hp,by rw[heap_set hb];rfl,?_,hu,NAts.later (fun b h _=>hs b h.2.1) _ _ hk⟩
 exact owns_stay (I:=fun b=>b≠p') (fun b h _=>hs b h) (fun g hg e=>hu (by rw[hg,e])) hr
theorem node_cells {w:World}{p:Nat}{kd n:Int}{tx:ByteArray}{u:Value}(h:w.heap[p]? = some (nodeObj kd tx n u)) :
  w.cell? ⟨p,0,none⟩=some (.int .i64 kd)∧w.cell? ⟨p,1,none⟩=some (.string tx)∧w.cell? ⟨p,2,none⟩=some (.int .i64 n)∧w.cell? ⟨p,3,none⟩=some u∧(∀ o,w.frozen? ⟨p,o,none⟩=false):=
 ⟨by rw[cell_of h];rfl,by rw[cell_of h];rfl,by rw[cell_of h];rfl,by rw[cell_of h];rfl,frozen_of h⟩
section
variable {I:Nat→Prop} {w:World} {t:Tr}
include I w t
theorem NAt.opens {p:Nat}(h:NAt I w t p):∃ u ps,w.heap[p]? = some (nodeObj t.kd t.tx t.n u)∧w.ownsRow 0 22 1 u ps.length (ps.map nPtr)∧NAts I w t.kids ps:=by
 cases t with
 | mk kd tx n ks=>
  rw[NAt] at h;obtain⟨_,u,ps,h1,h2,h3⟩:=h;exact⟨u,ps,h1,h2.1,NAts.mono (fun b hb _=>hb.1) _ _ h3⟩
theorem NAts.head {ts:List Tr}{ps:List Nat}(h:NAts I w (t::ts) ps):∃ p ps',ps=p::ps'∧NAt I w t p:=by
 obtain⟨p,ps',e,h1,_⟩:=h.parts
 exact⟨p,ps',e,h1⟩
end
def ExprOk (t:Tr):Prop:=∀ k1 r,t.kids=k1::r→k1.kd=15→∃ k2 r1,k1.kids=k2::r1
theorem code_any (B:Nat)(t:Tr)(v:Value)(w:World)(h:EV B w t v)(he:ExprOk t) :
  Calls Tryz.prog 177 #[v] w fun e w'=>e=.returned v∧EV B w' (codeT t) v∧Below B w w':=by
 have HE:=hide h
 obtain⟨p,u,ps,rfl,hp,hb,hr,hu,hk⟩:=h
 obtain⟨_,_,_,f3,fz⟩:=node_cells hb
 have HP:=hide hp
 have hlen:=NAts.length _ _ hk
 cases hks:t.kids with
 | nil=>
  rw[hks] at hlen;have h0:ps.length=0:=hlen;obtain⟨a,cap,hus⟩:=row_shut hr;rw[h0] at hus;subst hus;have HC:=hide (codeT_same (t:=t) (fun k1 r k2 r1 e=>by rw[hks] at e;cases e))
  clear hb hr hu hk hlen he hks h0 hp fz;exact zbdw
 | cons k1 r=>
  rw[hks] at hlen hk;have h0:0<ps.length:=by rw[hlen];simp
  obtain⟨g,cap,hus,hcell⟩:=row_open hr h0;subst hus;obtain⟨p1,ps1,hps,hn1⟩:=NAts.head hk;have c0:w.cell? ⟨g,0,none⟩=some (nPtr p1):=by
   rw[hcell 0 h0];simp[hps]
  obtain⟨u1,qs,hb1,hr1,hk1⟩:=hn1.opens;obtain⟨f10,_,_,f13,_⟩:=node_cells hb1;have h0i:(0:Int)<(ps.length:Int):=by omega
  by_cases h15:k1.kd=15
  ·obtain⟨k2,r1,hk2⟩:=he k1 r hks h15;rw[hk2] at hk1;have hlen1:=NAts.length _ _ hk1;have h01:0<qs.length:=by rw[hlen1];simp
   obtain⟨g1,cap1,hus1,hcell1⟩:=row_open hr1 h01;subst hus1;obtain⟨p2,ps2,hps2,hn2⟩:=NAts.head hk1;have d0:w.cell? ⟨g1,0,none⟩=some (nPtr p2):=by
    rw[hcell1 0 h01];simp[hps2]
   obtain⟨u2,qs2,hb2,_,_⟩:=hn2.opens;obtain⟨f20,f21,_,_,_⟩:=node_cells hb2;have h01i:(0:Int)<(qs.length:Int):=by omega
   have b15:(k1.kd==15)=true:=beq_iff_eq.2 h15
   by_cases h18:k2.kd=18
   ·have b18:(k2.kd==18)=true:=beq_iff_eq.2 h18
    by_cases hus:k2.tx=tUse
    ·have HC:=hide (codeT_strict hks hk2 h15 h18 hus);have bu:(k2.tx.toList==[117,115,101,32,115,116,114,105,99,116])=true:=tl_eqL (b:=tUse) rfl hus
     clear hb hr hu hk hlen he hks hp hb1 hr1 hk1 hb2 hn1 hn2 hcell hcell1 hlen1 hk2 h15 h18 hus hps hps2;go_enter Tryz.func177,Tryz.ntmps177;go_wp2_with fail;go_ret
     exact⟨rfl,by rw[HC.out];exact HE.out.text _,(Below.refl _ _).setCell (p:=⟨p,1,none⟩) HP.out _⟩
    ·have HC:=hide (codeT_same (t:=t) (fun a1 r' a2 r1' e1 e2 _ _ e=>by rw[hks] at e1;cases e1;rw[hk2] at e2;cases e2;exact hus e))
     have bu:(k2.tx.toList==[117,115,101,32,115,116,114,105,99,116])=false:=tl_neL (b:=tUse) rfl hus;clear hb hr hu hk hlen he hks hp hb1 hr1 hk1 hb2 hn1 hn2 hcell hcell1 hlen1 hk2 h15 h18 hus hps hps2
     exact zbdw
   ·have b18:(k2.kd==18)=false:=beq_eq_false_iff_ne.2 h18;have HC:=hide (codeT_same (t:=t) (fun a1 r' a2 r1' e1 e2 _ e=>by rw[hks] at e1;cases e1;rw[hk2] at e2;cases e2;exact absurd e h18))
    clear hb hr hu hk hlen he hks hp hb1 hr1 hk1 hb2 hn1 hn2 hcell hcell1 hlen1 hk2 h15 h18 hps hps2;exact zbdw
  ·have b15:(k1.kd==15)=false:=beq_eq_false_iff_ne.2 h15;have HC:=hide (codeT_same (t:=t) (fun a1 r' a2 r1' e1 _ e=>by rw[hks] at e1;cases e1;exact absurd e h15))
   clear hb hr hu hk hlen he hks hp hb1 hr1 hk1 hn1 hcell h15 hps;exact zbdw
section
variable {c:Ctx} {w:World} {i d:Nat} (h:Rdr c w i d)
include c w i d h
theorem Rdr.drew:Rdr c w.drew i d:=h.later (Below.refl _ _).drew
theorem Rdr.alloc (o:Obj):Rdr c (w.alloc o) i d:=h.later ((Below.refl _ _).alloc (Nat.le_refl _) _)
end
abbrev O160:Obj:=.cells #[.string ⟨#[]⟩,.int .i64 0,.int .i64 0,.int .i64 0] 189
theorem set4 {w:World}{b:Nat}{a0 a1 a2 a3:Value}{t:TypeId}{fr:Nat × Nat}(h:w.heap[b]? = some (.cells #[a0,a1,a2,a3] t fr))(v0 v1 v2 v3:Value) :
  ((((w.setCell ⟨b,0,none⟩ v0).setCell ⟨b,1,none⟩ v1).setCell ⟨b,2,none⟩ v2).setCell ⟨b,3,none⟩ v3).heap[b]? = some (.cells #[v0,v1,v2,v3] t fr):=by
 rw[heap_set (heap_set (heap_set (heap_set h v0) v1) v2) v3]
 rfl
def C160 (b:Nat)(w1:World)(v0 v1 v2 v3:Value):Prop:=
 w1.cell? ⟨b,0,none⟩=some v0∧w1.cell? ⟨b,1,none⟩=some v1∧w1.cell? ⟨b,2,none⟩=some v2∧w1.cell? ⟨b,3,none⟩=some v3∧(∀ o,w1.frozen? ⟨b,o,none⟩=false)∧b<w1.heap.size
theorem c160 {b:Nat}{w1:World}{v0 v1 v2 v3:Value}(p0:w1.heap[b]? = some (.cells #[v0,v1,v2,v3] 189)):C160 b w1 v0 v1 v2 v3:=
 ⟨by rw[cell_of p0];rfl,by rw[cell_of p0];rfl,by rw[cell_of p0];rfl,by rw[cell_of p0];rfl,frozen_of p0,lt_of_heap p0⟩
section
variable {c:Ctx} {w w1:World} {i d:Nat} (h:Rdr c w i d)
include c w w1 i d h
theorem sf_one (hb:Below (w.alloc O160).drew.heap.size (w.alloc O160).drew w1) :
  Rdr c w1 i d∧Below w.heap.size w w1∧w1.heap[w.heap.size]? = some O160:=
 ⟨(h.alloc O160).drew.later hb,(((Below.refl _ _).alloc (Nat.le_refl _) O160).drew).trans (hb.mono (by simp)),(hb.block _ (by simp)).trans (heap_new w O160)⟩
theorem sf_two (hb:Below ((w.alloc O160).alloc O160).drew.heap.size ((w.alloc O160).alloc O160).drew w1) :
  Rdr c w1 i d∧Below w.heap.size w w1∧w1.heap[w.heap.size]? = some O160∧w1.heap[w.heap.size+1]? = some O160:=by
 refine⟨((h.alloc O160).alloc O160).drew.later hb,((((Below.refl _ _).alloc (Nat.le_refl _) O160).alloc (by simp) O160).drew).trans (hb.mono (by simp;omega)),(hb.block _ (by simp;omega)).trans ((Below.heap_alloc (w.alloc O160) O160 w.heap.size (by simp)).trans (heap_new w O160)),?_⟩
 have:=heap_new (w.alloc O160) O160
 simp only[World.size_alloc] at this
 exact(hb.block _ (by simp)).trans this
end
section
variable {c:Ctx} {w w1 W2:World} {i d:Nat} {v0 v1 v2 v3:Value} (h:Rdr c w1 i d)
include c w w1 W2 i d v0 v1 v2 v3 h
theorem w2_any (hlo:c.lo≤w.heap.size)(p0:w1.heap[w.heap.size]? = some O160)(p1:w1.heap[w.heap.size+1]? = some O160)(hb:Below w.heap.size w w1)(hW:W2=(((w1.setCell ⟨w.heap.size+1,0,none⟩ v0).setCell ⟨w.heap.size+1,1,none⟩ v1).setCell ⟨w.heap.size+1,2,none⟩ v2).setCell ⟨w.heap.size+1,3,none⟩ v3) :
  Rdr c W2 i d∧Below w.heap.size w W2∧C160 w.heap.size W2 (.string ⟨#[]⟩) (.int .i64 0) (.int .i64 0) (.int .i64 0)∧C160 (w.heap.size+1) W2 v0 v1 v2 v3:=by
 have hB:Below (w.heap.size+1) w1 W2:=by
  rw[hW]
  exact((((Below.refl _ w1).setCell (p:=⟨w.heap.size+1,0,none⟩) (Nat.le_refl _) v0).setCell (p:=⟨w.heap.size+1,1,none⟩) (Nat.le_refl _) v1).setCell (p:=⟨w.heap.size+1,2,none⟩) (Nat.le_refl _) v2).setCell (p:=⟨w.heap.size+1,3,none⟩) (Nat.le_refl _) v3
 refine⟨h.ap hB (by omega),hb.trans (hB.mono (by omega)),c160 ((hB.block _ (by omega)).trans p0),c160 ?_⟩
 rw[hW]
 exact set4 p1 v0 v1 v2 v3
theorem w1_any (p0:w1.heap[w.heap.size]? = some O160)(hb:Below w.heap.size w w1)(hW:W2=w1.alloc (.cells #[v0,v1,v2,v3] 189)) :
  Rdr c W2 i d∧Below w.heap.size w W2∧C160 w.heap.size W2 (.string ⟨#[]⟩) (.int .i64 0) (.int .i64 0) (.int .i64 0)∧C160 w1.heap.size W2 v0 v1 v2 v3:=by
 subst hW
 exact⟨h.alloc _,hb.alloc hb.size _,c160 ((Below.heap_alloc _ _ _ (lt_of_heap p0)).trans p0),c160 (heap_new _ _)⟩
end
theorem below4 {w W2:World}{b:Nat}(hb:Below w.heap.size w W2)(h:w.heap.size≤b)(v0 v1 v2 v3:Value) :
  Below w.heap.size w ((((W2.setCell ⟨b,0,none⟩ v0).setCell ⟨b,1,none⟩ v1).setCell ⟨b,2,none⟩ v2).setCell ⟨b,3,none⟩ v3):=
 (((hb.setCell (p:=⟨b,0,none⟩) h _).setCell (p:=⟨b,1,none⟩) h _).setCell (p:=⟨b,2,none⟩) h _).setCell (p:=⟨b,3,none⟩) h _
open zrqbw in
theorem sign_none (c:Ctx)(k:Int)(s:ByteArray)(w:World)(i d:Nat)(h:Rdr c w i d)(hs:s=fx c.l i)(ho:sgOf s=none) :
  Calls Tryz.prog 293 #[rPtr c,.int .i64 k] w fun e w'=>e=.returned (.tuple #[noSg,.bool false])∧Below w.heap.size w w':=by
 have HR0:=hide h
 have HR:=hide ((h.alloc O160).drew)
 have HR':=hide (((h.alloc O160).alloc O160).drew)
 have HL:Hid (∀ W:World,Rdr c W i d→(Instr.lookup 199 (.map (some c.mS)) (.string s) true).run Tryz.prog W=.ok (.tuple #[.agg #[.string ⟨#[]⟩,.int .i64 0,.int .i64 0,.int .i64 0],.bool false]) W):=fun W hW=>by
  have:=look_signs c s W hW.base.signs;rw[ho] at this;exact this
 exact zrcb
section
variable (c:Ctx) (k:Int) (s:ByteArray) (x:Sg) (w:World) (i d:Nat) (h:Rdr c w i d) (hs:s=fx c.l i) (ho:sgOf s=some x)
include c k s x w i d h hs ho
open zrqbu in
theorem sign_other (hk:(x.parts==k)=false) :
  Calls Tryz.prog 293 #[rPtr c,.int .i64 k] w fun e w'=>e=.returned (.tuple #[noSg,.bool false])∧Below w.heap.size w w':=by
 exact zrdu
open zrqbv in
theorem sign_some (hk:(x.parts==k)=true) :
  Calls Tryz.prog 293 #[rPtr c,.int .i64 k] w fun e w'=>e=.returned (.tuple #[sgV x,.bool true])∧Below w.heap.size w w':=by
 exact zrdu
end
theorem sign_any (c:Ctx)(k:Int)(w:World)(i d:Nat)(h:Rdr c w i d) :
  Calls Tryz.prog 293 #[rPtr c,.int .i64 k] w fun e w'=>e=.returned (.tuple #[sgVO (sgP k (fx c.l i)),.bool (sgP k (fx c.l i)).isSome])∧Below w.heap.size w w':=by
 cases ho:sgOf (fx c.l i) with
 | none=>
  have:sgP k (fx c.l i)=none:=by simp[sgP,ho]
  rw[this];exact sign_none c k _ w i d h rfl ho
 | some x=>
  cases hk:x.parts==k with
  | false=>
   have:sgP k (fx c.l i)=none:=by simp[sgP,ho,Option.filter,hk]
   rw[this];exact sign_other c k _ x w i d h rfl ho hk
  | true=>
   have:sgP k (fx c.l i)=some x:=by simp[sgP,ho,Option.filter,hk]
   rw[this];exact sign_some c k _ x w i d h rfl ho hk
structure FC (c:Ctx)(F:Fns):Prop where
 st:Does c 176 NV F.st
 vl:Does c 243 NV F.vl
 pr:∀ b:Int,2≤b→b≤8→∀ w d i r,F.pr b d i=r→r≠.out→Rdr c w i d→Calls Tryz.prog 281 #[rPtr c,.int .i64 b] w (PPost c w d (NV w.heap.size) r)
 sg:Does c 292 NV F.sg
theorem en140:∀ args W,(callFunc 176 args).run Tryz.prog W=.ok (.enter 176 args) W:=fun _ _=>by kernel_rfl
theorem en179:∀ args W,(callFunc 243 args).run Tryz.prog W=.ok (.enter 243 args) W:=fun _ _=>by kernel_rfl
theorem en232:∀ args W,(callFunc 292 args).run Tryz.prog W=.ok (.enter 292 args) W:=fun _ _=>by kernel_rfl
section
variable {c:Ctx} {F:Fns} (hF:FC c F) (w:World) (d i:Nat) (h:Rdr c w i d)
include c F hF w d i h
theorem deepV (ho:deepP c.l F.vl d i≠.out):Calls Tryz.prog 175 #[rPtr c,boundV c.R 243] w (PPost c w d (NV w.heap.size) (deepP c.l F.vl d i)):=
 deeper_any c 243 F.vl hF.vl en179 w d i _ rfl ho h
theorem deepS (ho:deepP c.l F.st d i≠.out):Calls Tryz.prog 175 #[rPtr c,boundV c.R 176] w (PPost c w d (NV w.heap.size) (deepP c.l F.st d i)):=
 deeper_any c 176 F.st hF.st en140 w d i _ rfl ho h
theorem deepG (ho:deepP c.l F.sg d i≠.out):Calls Tryz.prog 175 #[rPtr c,boundV c.R 292] w (PPost c w d (NV w.heap.size) (deepP c.l F.sg d i)):=
 deeper_any c 292 F.sg hF.sg en232 w d i _ rfl ho h
end
theorem bind_ok {α β:Type}(x:α)(i:Nat)(f:α→Nat→PR β):(PR.ok x i).bind f=f x i:=rfl
theorem bind_bad {α β:Type}(er:Int)(p:Nat)(f:α→Nat→PR β):(PR.bad er p:PR α).bind f=.bad er p:=rfl
theorem bind_out {α β:Type}(f:α→Nat→PR β):(PR.out:PR α).bind f=.out:=rfl
abbrev From (B:Nat):Nat→Prop:=fun b=>B≤b
theorem nat_later {c:Ctx}{B:Nat}{w w':World}{t:Tr}{p:Nat}(h:NAt (From B) w t p)(ha:Ap c.R w.heap.size w w')(hB:c.R<B):NAt (From B) w' t p:=
 NAt.later (Stay.of_ap ha hB fun _ h=>h) _ _ h
theorem nat_mono {B B':Nat}{w:World}{t:Tr}{p:Nat}(h:NAt (From B) w t p)(hB:B'≤B):NAt (From B') w t p:=NAt.mono (fun _ h _=>Nat.le_trans hB h) _ _ h
theorem nats_pair {c:Ctx}{B:Nat}{w w':World}{t u:Tr}{p q:Nat}(h:NAt (From B) w t p)(ha:Ap c.R w.heap.size w w')(hR:c.R<B)(hB:B≤w.heap.size)(h2:NAt (From w.heap.size) w' u q):NAts (From B) w' [t,u] [p,q]:=
 NAts.pair (M:=w.heap.size) (NAt.later (I:=fun b=>From B b∧b<w.heap.size) (Stay.of_ap ha hR fun _ h=>h.1) _ _ (NAt.mono (fun _ hb hl=>⟨hb,hl⟩) _ _ h)) (NAt.mono (fun _ hb _=>⟨Nat.le_trans hB hb,hb⟩) _ _ h2)
section
variable {c:Ctx} {w W:World} {j d:Nat} {ts:List Tr}
include c w W j d ts
theorem made {ps:List Nat}(hR:Rdr c W j d)(hA:Ap c.R w.heap.size w W)(hn:NAts (From w.heap.size) W ts ps)(hl:ps.length≤maxLen)(cs:Array Value)(hc:cs.toList=ps.map nPtr)(n:Nat)(hlen:ps.length=n)(kd:Int)(tx:ByteArray)(q:Nat)(hq:q=W.heap.size+1) :
  EV w.heap.size ((W.alloc (.cells cs 22)).alloc (nodeObj kd tx 0 (.slice (some ⟨W.heap.size,0,none⟩) n n))) (.mk kd tx 0 ts) (nPtr q) ∧
  Rdr c ((W.alloc (.cells cs 22)).alloc (nodeObj kd tx 0 (.slice (some ⟨W.heap.size,0,none⟩) n n))) j d ∧
  Ap c.R w.heap.size w ((W.alloc (.cells cs 22)).alloc (nodeObj kd tx 0 (.slice (some ⟨W.heap.size,0,none⟩) n n))):=by
 subst hlen
 have hs:q=(W.alloc (.cells cs 22)).heap.size:=by rw[hq];simp
 rw[hs]
 exact⟨EV.new (KV.row hn hA.size hl cs hc) (by simp;have:=hA.size;omega) kd tx 0,(hR.alloc _).alloc _,(hA.alloc hA.size _).alloc (by simp;have:=hA.size;omega) _⟩
theorem made0 {v:Value}(hR:Rdr c W j d)(hA:Ap c.R w.heap.size w W)(hn:KV w.heap.size W ts v)(kd:Int)(tx:ByteArray)(q:Nat)(hq:q=W.heap.size) :
  EV w.heap.size (W.alloc (nodeObj kd tx 0 v)) (.mk kd tx 0 ts) (nPtr q)∧Rdr c (W.alloc (nodeObj kd tx 0 v)) j d∧Ap c.R w.heap.size w (W.alloc (nodeObj kd tx 0 v)):=by
 subst hq
 exact⟨EV.new hn hA.size kd tx 0,hR.alloc _,hA.alloc hA.size _⟩
end
open zrqbx in
theorem inPar_any {c:Ctx}{F:Fns}(hF:FC c F):Does c 171 NV (inParP c.l F):=by
 have hmf:=mf_bound c.R 243
 intro w d i r hs ho h
 have HR0:=hide h
 have HA0:=hide (Ap.refl c.R w.heap.size w)
 have HLT:=hide h.rlt
 unfold inParP at hs
 have HS:=hide hs
 have HO:=hide ho
 clear h hs ho
 go_enter Tryz.func171,Tryz.ntmps171
 cases hr:mustP c.l tOpen i with
 | out=>
  exact zbal
 | bad er p=>
  have HC:=hide (must_any c tOpen w i d HR0.out (by decide));exact zbax
 | ok x1 j1=>
  have HC:=hide (must_any c tOpen w i d HR0.out (by decide));exact zrcf
theorem info22:(Tryz.prog.info? 22).map (fun i=>(i.zero,i.size,i.bytes))=some (some (.pointer none),1,8):=by kernel_rfl
section
variable {B:Nat} {w:World} {ts:List Tr} {v:Value} (h:KV B w ts v)
include B w ts v h
theorem KV.shape:∃ a cap,v=.slice a ts.length cap:=by
 obtain⟨ps,hr,hk⟩:=h
 rw[←NAts.length _ _ hk]
 exact row_shut hr
theorem KV.own (g:Nat)(hg:v.ownBlock=some g):g<w.heap.size∧B≤g:=by
 obtain⟨ps,hr,_⟩:=h
 exact own_lt hr g hg
end
theorem KV.mono {B B':Nat}{w:World}{ts:List Tr}{v:Value}(h:KV B w ts v)(hB:B'≤B):KV B' w ts v:=by
 obtain⟨ps,hr,hk⟩:=h
 refine⟨ps,⟨hr.1,?_⟩,NAts.mono (fun b h _=>⟨by omega,h.2⟩) _ _ hk⟩
 exact zbhb
theorem kv_push {B:Nat}{w1 w3:World}{ts us:List Tr}{v:Value}{ps qs:List Nat}{g cap n:Nat}{o:Obj}(hk:NAts (fun b=>B≤b∧v.ownBlock≠some b) w1 (ts++us) (ps++qs))
  (hown:w3.ownsRow B 22 1 (.slice (some ⟨g,0,none⟩) n cap) n ((ps++qs).map nPtr)) (hn:n=(ps++qs).length) (hgr:(w1.alloc o).grownBy w3 v.ownBlock)
  (hg:v.ownBlock=some g∨g=w1.heap.size+1):KV B w3 (ts++us) (.slice (some ⟨g,0,none⟩) n cap):=by
 subst hn
 refine⟨ps++qs,hown,?_⟩
 have hs:Stay (fun b=>B≤b∧b≠g∧v.ownBlock≠some b) w1 w3:=by
  intro b hb hl;have h1:Below w1.heap.size w1 (w1.alloc o):=(Below.refl _ _).alloc (Nat.le_refl _) _;rw[←h1.block b hl];exact hgr.block b (by simp;omega) (fun e=>hb.2.2 e.symm)
 have h0:=NAts.mono (J:=fun b=>B≤b∧b≠g∧v.ownBlock≠some b) (fun b hb hl=>⟨hb.1,fun e=>by (rcases hg with hg|hg);(exact hb.2 (by rw[hg,e]));omega,hb.2⟩) _ _ hk
 exact NAts.mono (fun b hb _=>⟨hb.1,fun e=>by simp only[Value.ownBlock,Option.some.injEq] at e;exact hb.2.1 e.symm⟩) _ _ (NAts.later hs _ _ h0)
def nxt (c:Ctx)(w:World):Nat:=match w.cell? ⟨c.R,1,none⟩ with|some (.int _ v)=>v.toNat|_=>0
theorem nxt_eq {c:Ctx}{w:World}{i d:Nat}(h:Rdr c w i d):nxt c w=i:=by unfold nxt;rw[h.c1];rfl
theorem one_cells (w:World)(p H:Nat)(h:w.heap.size=H):∀ j u,[nPtr p][j]? = some u→(w.alloc (.cells #[nPtr p] 22)).cell? ((⟨H,0,none⟩:Addr).add j)=some u:=by
 intro j u hj
 match j,hj with
 | 0,hj=>
  simp only[List.getElem?_cons_zero,Option.some.injEq] at hj;subst hj;subst h;rw[show (⟨w.heap.size,0,none⟩:Addr).add 0=⟨w.heap.size,0,none⟩ from rfl,cell_of (heap_new _ _)];rfl
 | j+1,hj=>simp at hj
theorem one_one (p:Nat):∀ u ∈ [nPtr p],u.oneCell'=true:=by
 intro u hu
 simp only[List.mem_singleton] at hu
 subst hu;rfl
theorem apart_own {c:Ctx}{B:Nat}{w w1:World}{ts:List Tr}{v:Value}{t:Tr}{p:Nat}(hk:KV B w ts v)(hB:B≤w.heap.size)(ha:Ap c.R w.heap.size w w1)(hR:c.R<B)(hn:NAt (From w.heap.size) w1 t p) :
  ∃ ps,w1.ownsRow B 22 1 v ps.length (ps.map nPtr)∧NAts (fun b=>B≤b∧v.ownBlock≠some b) w1 ts ps∧NAts (fun b=>B≤b∧v.ownBlock≠some b) w1 (ts++[t]) (ps++[p]):=by
 have hown:=hk.own
 obtain⟨ps,hr,hs⟩:=hk
 have h1:=NAts.later (I:=fun b=>(B≤b∧v.ownBlock≠some b)∧b<w.heap.size) (Stay.of_ap ha hR fun _ h=>h.1.1) _ _ (NAts.mono (fun _ hb hl=>⟨hb,hl⟩) _ _ hs)
 exact zbdv
open zrqby in
theorem block_any {c:Ctx}{F:Fns}(hF:FC c F)(hN:∃ k,FNx c.l k F):Does c 165 EV (blockP c.l F):=by
 have hmf:=mf_bound c.R 176
 intro w d i r hs ho h
 have HR0:=hide h
 have HE:=hide h.base.ends
 have HL:=hide h.base.len
 have HLO:=hide h.base.size
 obtain⟨i0,hi0,hz0,hz1,hz2⟩:=info_parts info22
 have HA0:=hide (Ap.refl c.R w.heap.size w)
 have HLT:=hide h.rlt
 have HFC:=hide hF
 have HNX:=hide hN
 unfold blockP at hs
 have HS:=hide hs
 have HO:=hide ho
 clear h hs ho hF hN
 go_enter Tryz.func165,Tryz.ntmps165
 cases hr:mustP c.l tLBrace i with
 | out=>
  exact zbal
 | bad er p=>
  have HC:=hide (must_any c tLBrace w i d HR0.out (by decide));exact zbax
 | ok x1 j1=>
  have HC:=hide (must_any c tLBrace w i d HR0.out (by decide));rw[hr] at HC HS;simp only[bind_ok] at HS;clear hr;go_wp2_with fail;refine cm HC.out ?_;intro e w1 hp;obtain⟨⟨v1,rfl,rfl⟩,hrd,ha⟩:=hp
  have HA1:=hide (HA0.out.next ha);have HR1:=hide hrd;clear hrd ha HC HA0 HR0;go_wp2_with fail
  go_loopw [3] (fun v wr=>∃ k acc j,(blockLoop c.l F d k acc j).bind (fun ts i2=>PR.ok (.mk 6 noText 0 ts) i2)=r∧Rdr c wr j d∧Ap c.R w.heap.size w wr∧KV w.heap.size wr acc v∧acc.length≤j) (fun _ wr=>c.l.length - nxt c wr)
  case atStart=>exact⟨F.fuel,[],j1,HS.out,HR1.out,HA1.out,KV.nil _ _,Nat.zero_le _⟩
  case round=>
   obtain⟨k,acc,j,hq,hrd,hap,hkv,hle⟩:=hrel
   cases k with
   | zero=>exact absurd hq.symm HO.out
   | succ k=>
    have hL:=unhide HL;have hjl:=hrd.lt;have HR2:=hide hrd;have HRM:=hide hrd;have HA2:=hide hap;have HK2:=hide hkv;have HLE:=hide hle
    by_cases hx:fx c.l j=tRBrace
    ·have HQ:Hid (PR.ok (.mk 6 noText 0 acc) (j+1)=r):=by
      unfold blockLoop at hq;rw[if_pos hx,bind_ok] at hq;exact hq
     have HC:=hide (take_yes c tRBrace wr j d hrd hx (by decide));obtain⟨va,vc,rfl⟩:=hkv.shape;clear hq hrd hap hkv hle hx;go_wp2_with fail;refine cm HC.out ?_;rintro e w3 ⟨rfl,hr3,ha3⟩
     have HA3:=hide (HA2.out.next ha3);have HR3:=hide hr3;have HK3:=hide (KV.later HK2.out ha3 HLT.out);clear hr3 ha3 HC HA2 HR2 HK2;have HC:=hide (node_any 6 noText (.slice va acc.length vc) w3 ⟨_,_,_,rfl⟩)
     go_wp2_with fail;refine cm HC.out ?_;rintro e wn ⟨rfl,rfl⟩;clear HC;go_wp2_with fail;go_ret;obtain⟨m1,m2,m3⟩:=made0 HR3.out HA3.out HK3.out 6 noText _ rfl;exact ppOk HQ.out.symm m1 m2 m3
    ·have HQ:Hid ((deepP c.l F.st d j).bind (fun t i1=>(blockLoop c.l F d k (acc++[t]) i1).bind fun ts i2=>PR.ok (.mk 6 noText 0 ts) i2)=r):=by
      unfold blockLoop at hq;rw[if_neg hx] at hq;rw[←hq]
      cases deepP c.l F.st d j <;> rfl
     have HC:=hide (take_not c tRBrace wr j d hrd hx);clear hq hrd hap hkv hle hx
     cases hr:deepP c.l F.st d j with
     | out=>
      exact zbgo
     | bad er p=>
      have HRR:=hide hr;rw[hr] at HQ;simp only[bind_bad] at HQ;clear hr;go_wp2_with fail;refine cm HC.out ?_;rintro e w3 ⟨rfl,hb3⟩;have HA3:=hide (HA2.out.next (Ap.of hb3))
      have HR3:=hide (HR2.out.later hb3);clear hb3 HC HA2 HR2;have HC:=hide (deepS HFC.out w3 d j HR3.out (by rw[HRR.out];nofun))
      exact zbgf
     | ok t j2=>
      have HRR:=hide hr;rw[hr] at HQ;simp only[bind_ok] at HQ;clear hr;exact zrdw
def Asks (c:Ctx)(f:Nat)(b:Nat→Bool):Prop:=
 ∀ w d i,Rdr c w i d→Calls Tryz.prog f #[rPtr c] w fun e w'=>e=.returned (.bool (b i))∧Below w.heap.size w w'
def LV (B:Nat)(w:World)(ts:List Tr)(v:Value):Prop:=KV B w ts v∧(ts=[]→v=.slice none 0 0)∧ts.length≤3001
open zrqbz in
theorem list_any {c:Ctx}(fb fp:Nat)(begins:Nat→Bool)(sp:Nat→Nat→PR Tr)(opn shut:ByteArray)(hb:Asks c fb begins)(hp:Does c fp NV sp)
  (enb:∀ args W,(callFunc fb args).run Tryz.prog W=.ok (.enter fb args) W) (enp:∀ args W,(callFunc fp args).run Tryz.prog W=.ok (.enter fp args) W)
  (hno:opn≠noText) (hns:shut≠noText) (hgo:∀ d i t j,i<c.l.length→sp d i=.ok t j→i<j)
  (k:Nat) (w:World) (d i:Nat) (r:PR (List Tr)) (hs:listP c.l opn shut begins (sp d) k i=r) (ho:r≠.out) (h:Rdr c w i d) :
  Calls Tryz.prog 246 #[rPtr c,.string opn,.string shut,boundV c.R fb,boundV c.R fp] w (PPost c w d (LV w.heap.size) r):=by
 have HR0:=hide h
 have HL:=hide h.base.len
 have HLO:=hide h.base.size
 obtain⟨i0,hi0,hz0,hz1,hz2⟩:=info_parts info22
 have HA0:=hide (Ap.refl c.R w.heap.size w)
 have HLT:=hide h.rlt
 have HB:=hide hb
 have HP:=hide hp
 have HNO:=hide hno
 have HNS:=hide hns
 have HGO:=hide hgo
 unfold listP at hs
 have HS:=hide hs
 have HO:=hide ho
 clear h hs ho hb hp hno hns hgo
 unfold boundV
 go_enter Tryz.func246,Tryz.ntmps246
 cases hr:mustP c.l opn i with
 | out=>
  exact zbal
 | bad er p=>
  have HC:=hide (must_any c opn w i d HR0.out HNO.out);exact zbax
 | ok x1 j1=>
  have HC:=hide (must_any c opn w i d HR0.out HNO.out);rw[hr] at HC HS;simp only[bind_ok] at HS;clear hr;go_wp2_with fail;refine cm HC.out ?_;intro e w1 hp;obtain⟨⟨v1,rfl,rfl⟩,hrd,ha⟩:=hp
  have HA1:=hide (HA0.out.next ha);have HR1:=hide hrd;clear hrd ha HC HA0 HR0
  by_cases hx:fx c.l j1=shut
  ·have HC:=hide (take_yes c shut w1 j1 d HR1.out hx HNS.out);rw[if_pos hx] at HS;clear hx;go_wp2_with fail;refine cm HC.out ?_;rintro e w2 ⟨rfl,hr2,ha2⟩;have HA2:=hide (HA1.out.next ha2);have HR2:=hide hr2
   clear hr2 ha2;go_wp2_with fail;go_ret;exact ppOk HS.out.symm ⟨KV.nil _ _,fun _=>rfl,by simp⟩ HR2.out HA2.out
  ·have HC:=hide (take_not c shut w1 j1 d HR1.out hx);rw[if_neg hx] at HS;clear hx;go_wp2_with fail;refine cm HC.out ?_;rintro e w2 ⟨rfl,hb2⟩;have HA2:=hide (HA1.out.next (Ap.of hb2))
   have HR2:=hide (HR1.out.later hb2);clear hb2 HC HA1 HR1;go_wp2_with fail
   go_loopw [11] (fun v wr=>∃ k acc j,listLoop c.l shut begins (sp d) k acc j=r∧Rdr c wr j d∧Ap c.R w.heap.size w wr∧KV w.heap.size wr acc v∧acc.length≤j) (fun _ wr=>c.l.length - nxt c wr)
   case atStart=>exact⟨k,[],j1,HS.out,HR2.out,HA2.out,KV.nil _ _,Nat.zero_le _⟩
   case round=>
    obtain⟨k,acc,j,hq,hrd,hap,hkv,hle⟩:=hrel;clear HS HR2 HA2
    cases k with
    | zero=>exact absurd hq.symm HO.out
    | succ k=>
     have hL:=unhide HL;have hjl:=hrd.lt;have HR2:=hide hrd;have HRM:=hide hrd;have HA2:=hide hap;have HK2:=hide hkv;have HLE:=hide hle;unfold listLoop at hq;have HQ:=hide hq;clear hq hrd hap hle
     obtain⟨va,vc,rfl⟩:=hkv.shape;clear hkv
     by_cases h8:acc.length=8
     ·
      cases hbg:begins j with
      | true=>
       rw[if_pos ⟨h8,hbg⟩] at HQ;have HC:Hid _:=unhide HB wr d j HR2.out;rw[hbg] at HC;clear hbg;have h8i:((acc.length:Int)==8)=true:=beq_iff_eq.2 (by omega);have H8:=hide h8;clear h8
       go_wp2_with fail;refine cm HC.out ?_;rintro e w3 ⟨rfl,hb3⟩;have HA3:=hide (HA2.out.next (Ap.of hb3));have HC:=hide (fault_any c 4 w3 j d (HR2.out.later hb3));clear hb3;go_wp2_with fail
       refine cm HC.out ?_;rintro e w4 ⟨rfl,hb4⟩;exact⟨rfl,ppBad HQ.out.symm (HA3.out.next (Ap.of hb4))⟩
      | false=>
       rw[if_neg (by rw[hbg];rintro⟨_,hh⟩;cases hh)] at HQ
       have HC:Hid _:=unhide HB wr d j HR2.out;rw[hbg] at HC;clear hbg;have h8i:((acc.length:Int)==8)=true:=beq_iff_eq.2 (by omega);have H8:=hide h8;clear h8;exact zrdw
     ·rw[if_neg (fun hh=>h8 hh.1)] at HQ;have h8i:((acc.length:Int)==8)=false:=beq_eq_false_iff_ne.2 (by omega);clear h8
      have HQ2:Hid ((sp d j).bind (fun t i1=>if fx c.l i1=shut then PR.ok (acc++[t]) (i1+1) else (mustP c.l tComma i1).bind fun _ i2=>listLoop c.l shut begins (sp d) k (acc++[t]) i2)=r):=unhide HQ
      clear HQ
      cases hr:sp d j with
      | out=>
       exact zccj
      | bad er p=>
       have HC:Hid _:=unhide HP wr d j _ rfl (by rw[hr];nofun) HR2.out
       rw[hr] at HC HQ2;simp only[bind_bad] at HQ2;clear hr;go_wp2_with fail;refine cm HC.out ?_;intro e w' hp;obtain⟨rfl,ha⟩:=hp;exact⟨rfl,ppBad HQ2.out.symm (HA2.out.next ha)⟩
      | ok t j2=>
       have HC:Hid _:=unhide HP wr d j _ rfl (by rw[hr];nofun) HR2.out
       have hgt:j<j2:=unhide HGO d j t j2 hjl hr;rw[hr] at HC HQ2;simp only[bind_ok] at HQ2;clear hr;go_wp2_with fail;refine cm HC.out ?_;intro e w4 hp;obtain⟨⟨v4,rfl,p4,rfl,hn4⟩,hrd,ha⟩:=hp
       have HA4:=hide (HA2.out.next ha);have HR4:=hide hrd;have HN4:=hide (apart_own HK2.out HA2.out.size ha HLT.out hn4);have HK4:=hide (KV.later HK2.out ha HLT.out);exact zbaq
end Go.Proofs.YtoimgcjbcbhclaaGreatDoor
