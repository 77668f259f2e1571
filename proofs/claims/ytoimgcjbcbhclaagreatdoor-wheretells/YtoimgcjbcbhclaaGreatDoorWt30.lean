/-
  tell, of every node.
-/
import Derived.Test.YtoimgcjbcbhclaaGreatDoorWt29
import Derived.Laws.EntriesVeiled
set_option maxRecDepth 100000
set_option maxHeartbeats 16000000
namespace Go.Proofs.YtoimgcjbcbhclaaGreatDoor
open Go.RowKit
theorem kidsCell {I:Nat→Prop}{w:World}{a:Ad}(h:AAt I w a):∃ ka kc,w.cell? ⟨a.p,3,none⟩=some (.slice ka a.ks.length kc)∧w.ownsRow 0 22 1 (.slice ka a.ks.length kc) (a.ks.map Ad.p).length ((a.ks.map Ad.p).map nPtr)∧∀ g,(Value.slice ka a.ks.length kc).ownBlock=some g→I g:=by
 obtain⟨_,_,_,_,v,c3,hr,hi⟩:=h.cells
 obtain⟨ka,kc,hv⟩:=srow_form hr
 rw[List.length_map] at hv
 subst hv
 exact⟨ka,kc,c3,hr,hi⟩
theorem low_of {I:Nat→Prop}{w:World}{l:List Sc}{oa:Option Addr}(h:Chn I w (.pointer oa) l):∀ b',Value.pointer oa=sPtr b'→b'<w.heap.size:=by
 intro b' e
 rcases h.form with h|⟨b2,h,hl⟩
 ·rw[h] at e;cases e
 ·rw[h] at e;cases e;exact hl
theorem two_parts {t:Ad}(h:t.tr.ill=0)(hk:need t.kd=2):∃ k0 k1 ks,t.ks=k0::k1::ks:=by
 have h1:=(ill_of _ h).1
 obtain⟨e1,_,e3⟩:=t.tr_eq
 rw[e1,e3,hk,List.length_map] at h1
 match hks:t.ks with
 | []=>rw[hks] at h1;exact absurd h1 (by decide)
 | [x]=>rw[hks] at h1;simp at h1
 | k0::k1::ks=>exact⟨k0,k1,ks,rfl⟩
theorem scope_in {m:Nat}(ih:TellC m){a:Ad}(hm:a.cnt≤m+1){I:Nat→Prop}{tb mb:Nat}{A pre post:List Nat}{L:List Us}{oa:Option Addr}{ch:List Sc}{w:World}(hA:A=pre++(a.ads++post))(hW:TW I tb mb A L w)(hN:AAt I w a)(hi:a.tr.ill=0)(hC:Chn I w (.pointer oa) ch)(hl:L.length+a.cnt≤20000){ka:Option Addr}{kc:Nat}
  (hrow:w.ownsRow 0 22 1 (.slice ka a.ks.length kc) (a.ks.map Ad.p).length ((a.ks.map Ad.p).map nPtr)) (hri:∀ g,(Value.slice ka a.ks.length kc).ownBlock=some g→I g) {s:Bool} {N:List ByteArray} (hNl:N.length≤100000) {X:World} {b:Nat} {nv:Value} (hX:Below w.heap.size w X) (hb:w.heap.size≤b) (hk:X.heap[b]? = some (scObj (pre.length:Nat) nv false (.pointer oa))) (hr:SRow w.heap.size X nv N) :
  Calls Tryz.prog 127 #[sPtr tb,.slice ka a.ks.length kc,plV2 (sPtr b) s] X fun e w'=>e=.returned (.tuple #[])∧TW I tb mb A (L++tls (tl m) a.tr.kids (pre.length+1) (⟨(pre.length:Nat),N,false⟩::ch) s) w'∧Fm I w w':=by
 have hJ:=hW.more hX
 have hst:∀ J:Nat→Prop,Stay J w X:=fun J b _ hl=>hX.block b hl
 have hca:=cnt_eq a
 have h:=tellAll_any ih a.ks (fun k hk=>by have:=cnts_mem a.ks k hk;omega) _ tb mb A (pre++[a.p]) post L (sPtr b) (⟨(pre.length:Nat),N,false⟩::ch) s _ X
  (by rw[hA,ads_eq];simp) hJ (fun k hk=>AAt.later (hst _) _ (AAt.mono (fun b hb _=>Or.inl hb) _ (hN.parts k hk))) (ill_parts hi)
  ⟨b,nv,.pointer oa,rfl,Or.inr ⟨hb,lt_of_heap hk⟩,hk,owns_zero hr,fun g hg=>Or.inr ⟨(own_lt hr g hg).2,(own_lt hr g hg).1⟩,hNl,fun b' e=>by have:=low_of hC b' e;omega,Chn.later (hst _) _ _ (Chn.mono (fun b hb _=>Or.inl hb) _ _ hC)⟩
  (owns_stay (I:=fun _=>True) (hst _) (fun _ _=>trivial) hrow) (fun g hg=>Or.inl (hri g hg)) (by omega)
 rw[List.length_append,List.length_singleton,←a.tr_eq.2.2] at h
 refine h.mono ?_
 rintro e w' ⟨rfl,h1,h2⟩
 exact⟨rfl,h1.less hW (fun b hb=>Or.inl hb),(Fm.of hX).trans (h2.less fun b hb=>Or.inl hb)⟩
theorem kind_ne {kd:Int}{k:Int}(h:¬ kd=k):(kd==k)=false:=beq_eq_false_iff_ne.2 h
theorem tell_all:∀ m,TellC m
 | 0=>fun a ha=>by have:=cnt_pos a;omega
 | m+1=>by
  have ih:=tell_all m;intro a hm I tb mb A pre post L v ch st w hA hW hN hi hC hl;obtain⟨oa,rfl⟩:=hC.ptr;obtain⟨hIp,hpl,c0,c1,_⟩:=hN.cells;obtain⟨ka,kc,c3,hrow,hri⟩:=kidsCell hN
  obtain⟨t1,t2,t3⟩:=a.tr_eq;have hca:=cnt_eq a;have hkm:∀ k ∈ a.ks,k.cnt≤m:=fun k hk=>by have:=cnts_mem a.ks k hk;omega
  have hst:∀ X,Below w.heap.size w X→Calls Tryz.prog 118 #[nPtr a.p] X fun e w'=>e=.returned (.bool (strictT a.tr))∧w'=X:=fun X hX=>strictE_any a.tr a.p X (NTr.later (NAt.nt hN.nat) hX)
  have hnum:∀ X,Below w.heap.size w X→(Instr.lookup 44 (.map (some mb)) (nPtr a.p) false).run Tryz.prog X=.ok (.int .i64 (pre.length:Int)) X:=fun X hX=>hW.num hA (Fm.of hX)
  have hA1:A=(pre++[a.p])++(Ad.adss a.ks++post):=by rw[hA,ads_eq];simp
  have kids:∀ (X:World) (L':List Us) (s:Bool),TW I tb mb A L' X→Fm I w X→L'.length+Ad.cnts a.ks≤20000→Calls Tryz.prog 127 #[sPtr tb,.slice ka a.ks.length kc,plV2 (.pointer oa) s] X fun e w'=>e=.returned (.tuple #[])∧TW I tb mb A (L'++tls (tl m) a.tr.kids (pre.length+1) ch s) w'∧Fm I w w':=by
   intro X L' s hT hF hl'
   have h:=tellAll_any ih a.ks hkm I tb mb A (pre++[a.p]) post L' (.pointer oa) ch s _ X hA1 hT (fun k hk=>AAt.later hF.stay _ (hN.parts k hk)) (ill_parts hi) (Chn.later hF.stay _ _ hC) (owns_stay hF.stay hri hrow) hri hl'
   rw[List.length_append,List.length_singleton,←t3] at h;refine h.mono ?_;rintro e w' ⟨rfl,h1,h2⟩;exact⟨rfl,h1,hF.trans h2⟩
  rw[tl,t1,t2]
  by_cases k23:a.kd=23
  ·rw[if_pos k23];rw[k23] at c0
   refine tl23 w a.p tb mb pre.length oa st (strictT a.tr) ka a.ks.length kc a.tx _ _ I A L _ c0 c1 c3 hIp (by omega) hW (fun X hX=>hW.num hA hX) hst (fun X hX=>find_any ch a.tx (.pointer oa) X (Chn.later (fun b _ hl=>hX.block b hl) _ _ hC)) (fun X hT hF=>?_)
   have h:=kids X _ (st||strictT a.tr) hT hF (by rw[List.length_append,List.length_singleton];omega)
   rw[List.append_assoc] at h;exact h
  rw[if_neg k23]
  by_cases k1:a.kd=1
  ·rw[if_pos k1];rw[k1] at c0;have hcc:=Ad.cnt_tr a;have hkk:=counts_len a.tr.kids;have hkc:=count_kids a.tr
   refine tl1 w a.p tb mb pre.length oa st (strictT a.tr) ka a.ks.length kc ((letsT a.tr).map Tr.tx) _ c0 c3 hW.word.1 hnum (fun X hX=>?_) hst (fun X b nv hX hb hk hr=>scope_in ih hm hA hW hN hi hC hl hrow hri (by have:=lets_len a.tr;rw[List.length_map];omega) hX hb hk hr)
   refine(lets_any a.tr a.p X (NTr.later (NAt.nt hN.nat) hX) (by omega)).mono ?_;rintro e w' ⟨⟨u,rfl,hu⟩,hb⟩;exact⟨⟨u,rfl,wtexts_any (letsT a.tr) u w' hu (by have:=lets_len a.tr;omega)⟩,hb⟩
  rw[if_neg k1]
  by_cases k6:a.kd=6
  ·rw[if_pos k6];rw[k6] at c0;have hcc:=Ad.cnt_tr a
   exact tl6 w a.p tb mb pre.length oa st (strictT a.tr) ka a.ks.length kc (namesT a.tr false) _ c0 c3 hW.word.1 hnum (fun X hX=>names_any a.tr a.p false X (NTr.later (NAt.nt hN.nat) hX) (by omega)) hst (fun X b nv hX hb hk hr=>scope_in ih hm hA hW hN hi hC hl hrow hri (by have:=names_len a.tr false (by omega);omega) hX hb hk hr)
  rw[if_neg k6]
  by_cases k13:a.kd=13
  ·rw[if_pos k13];rw[k13] at c0
   exact tl13 w a.p tb mb pre.length oa st (strictT a.tr) ka a.ks.length kc a.tx _ c0 c3 hW.word.1 hnum c1 hst (fun X b nv hX hb hk hr=>scope_in ih hm hA hW hN hi hC hl hrow hri (by simp) hX hb hk hr)
  rw[if_neg k13]
  by_cases k9:a.kd=9
  ·rw[if_pos k9];obtain⟨q0,q1,ks,hks⟩:=two_parts hi (by rw[k9];decide)
   rw[k9] at c0;obtain⟨g,cap,e3,_,d0,d1,hIg⟩:=hN.two hks;have m0:q0 ∈ a.ks:=by rw[hks];simp
   have m1:q1 ∈ a.ks:=by rw[hks];simp
   have hc2:Ad.cnts a.ks=q0.cnt+(q1.cnt+Ad.cnts ks):=by rw[hks,Ad.cnts,Ad.cnts]
   have hkt:a.tr.kids=q0.tr::q1.tr::ks.map Ad.tr:=by rw[t3,hks];rfl
   rw[hkt];have hA0:A=(pre++[a.p])++(q0.ads++(Ad.adss (q1::ks)++post)):=by rw[hA1,hks,Ad.adss];simp
   have hA2:A=(pre++[a.p]++q0.ads)++(q1.ads++(Ad.adss ks++post)):=by rw[hA0,Ad.adss];simp
   have hl2:(pre++[a.p]++q0.ads).length=pre.length+1+q0.tr.count:=by rw[List.length_append,List.length_append,Ad.ads_len,Ad.cnt_tr];rfl
   have htl:=tl_len m q0.tr (pre.length+1) ch (st||strictT a.tr);have hcq:=Ad.cnt_tr q0
   refine tl9 w a.p tb q0.p q1.p oa st (strictT a.tr) g _ cap I (fun w'=>TW I tb mb A (L++tl m q0.tr (pre.length+1) ch (st||strictT a.tr)) w'∧Fm I w w') _ c0 e3 d0 d1 (by omega) hIp hIg hst (fun X hX=>?_) (fun X Y b hQ hXY hb hk=>?_)
   ·have hs:∀ J:Nat→Prop,Stay J w X:=fun J b _ hl=>hX.block b hl
    have h:=ih q0 (hkm q0 m0) _ tb mb A (pre++[a.p]) _ L (.pointer oa) ch (st||strictT a.tr) X hA0 (hW.more hX) (AAt.later (hs _) _ (AAt.mono (fun b hb _=>Or.inl hb) _ (hN.parts q0 m0))) (ill_parts hi q0 m0) (Chn.later (hs _) _ _ (Chn.mono (fun b hb _=>Or.inl hb) _ _ hC)) (by omega)
    rw[List.length_append,List.length_singleton] at h;refine h.mono ?_;rintro e w' ⟨rfl,h1,h2⟩;exact⟨rfl,h2,h1.less hW (fun b hb=>Or.inl hb),(Fm.of hX).trans (h2.less fun b hb=>Or.inl hb)⟩
   ·obtain⟨hT,hF⟩:=hQ;have hs:∀ J:Nat→Prop,Stay J X Y:=fun J b _ hl=>hXY.block b hl;have hCX:=Chn.later hF.stay _ _ hC
    have h:=ih q1 (hkm q1 m1) _ tb mb A (pre++[a.p]++q0.ads) _ _ (sPtr b) (⟨0,[],true⟩::ch) (st||strictT a.tr) Y hA2 (hT.more hXY) (AAt.later (hs _) _ (AAt.mono (fun b hb _=>Or.inl hb) _ (AAt.later hF.stay _ (hN.parts q1 m1)))) (ill_parts hi q1 m1)
     ⟨b,.slice none 0 0,.pointer oa,rfl,Or.inr ⟨hb,lt_of_heap hk⟩,hk,srow_nil _ _,fun g hg=>(by cases hg),Nat.zero_le _,fun b' e=>by have:=low_of hCX b' e;omega,Chn.later (hs _) _ _ (Chn.mono (fun b hb _=>Or.inl hb) _ _ hCX)⟩ (by rw[List.length_append];omega)
    rw[hl2,List.append_assoc] at h;refine h.mono ?_;rintro e w' ⟨rfl,h1,h2⟩;exact⟨rfl,h1.less hW (fun b hb=>Or.inl hb),hF.trans ((Fm.of hXY).trans (h2.less fun b hb=>Or.inl hb))⟩
  rw[if_neg k9]
  by_cases kf:a.kd=5∨a.kd=37
  ·rw[if_pos kf];obtain⟨pr,bl,ks,hks⟩:=two_parts hi (by rcases kf with k|k <;> rw[k] <;> decide);obtain⟨g,cap,e3,_,d0,d1,hIg⟩:=hN.two hks;have m0:pr ∈ a.ks:=by rw[hks];simp
   have m1:bl ∈ a.ks:=by rw[hks];simp
   have hB:=hN.parts bl m1;obtain⟨ba,bc,f3,hbr,hbi⟩:=kidsCell hB;have hc2:Ad.cnts a.ks=pr.cnt+(bl.cnt+Ad.cnts ks):=by rw[hks,Ad.cnts,Ad.cnts]
   have hcb:=cnt_eq bl;have hkt:a.tr.kids=pr.tr::bl.tr::ks.map Ad.tr:=by rw[t3,hks];rfl
   rw[hkt];have hA2:A=(pre++[a.p]++pr.ads++[bl.p])++(Ad.adss bl.ks++(Ad.adss ks++post)):=by rw[hA1,hks,Ad.adss,Ad.adss,ads_eq bl];simp
   have hl2:(pre++[a.p]++pr.ads++[bl.p]).length=pre.length+1+pr.tr.count+1:=by rw[List.length_append,List.length_append,List.length_append,Ad.ads_len,Ad.cnt_tr];rfl
   refine tlF w a.p tb bl.p oa st (strictT a.tr) (st||strictT a.tr||strictT bl.tr) g _ cap a.kd ba bl.ks.length bc (fun X Y v'=>Chn (fun b=>I b∨(X.heap.size≤b∧b<Y.heap.size)) Y v' (fnSc a.tr pr.tr bl.tr pre.length ch (st||strictT a.tr))) _ c0 e3 d1 f3 (by omega) kf hst (fun X hX=>?_) (fun X Y v' hX hR hXY=>?_)
   ·exact fn_any a pr bl ks hks kf I tb mb A pre post L (.pointer oa) ch (st||strictT a.tr) X hA (hW.later hX) (AAt.later (fun b _ hl=>hX.block b hl) _ hN) hi (Chn.later (fun b _ hl=>hX.block b hl) _ _ hC) (by omega)
   ·have hs:∀ J:Nat→Prop,Stay J w Y:=fun J b _ hl=>(hXY.block b (Nat.lt_of_lt_of_le hl hX.size)).trans (hX.block b hl)
    have h:=tellAll_any ih bl.ks (fun k hk=>by have:=cnts_mem bl.ks k hk;omega) _ tb mb A (pre++[a.p]++pr.ads++[bl.p]) _ L v' _ (st||strictT a.tr||strictT bl.tr) _ Y hA2 ((hW.later hX).more hXY) (fun k hk=>AAt.later (hs _) _ (AAt.mono (fun b hb _=>Or.inl hb) _ (hB.parts k hk))) (ill_parts (ill_parts hi bl m1)) hR (owns_stay (I:=fun _=>True) (hs _) (fun _ _=>trivial) hbr) (fun g hg=>Or.inl (hbi g hg)) (by omega)
    rw[hl2,←bl.tr_eq.2.2] at h;refine h.mono ?_;rintro e w' ⟨rfl,h1,h2⟩;exact⟨rfl,h1.less hW (fun b hb=>Or.inl hb),(Fm.of hX).trans ((Fm.of hXY).trans (h2.less fun b hb=>Or.inl hb))⟩
  rw[if_neg kf]
  by_cases k40:a.kd=40
  ·rw[if_pos k40];rw[k40] at c0;exact tl40 w a.p tb oa st (strictT a.tr) _ c0 hst (fun X hX=>by rw[List.append_nil];exact⟨hW.later hX,Fm.of hX⟩)
  rw[if_neg k40]
  exact tlD w a.p tb oa st (strictT a.tr) a.kd ka a.ks.length kc _ c0 c3 (kind_ne k23) (kind_ne k1) (kind_ne k6) (kind_ne k13) (kind_ne k9) (kind_ne fun h=>kf (Or.inl h)) (kind_ne fun h=>kf (Or.inr h)) (kind_ne k40) hst (fun X hX=>kids X L _ (hW.later hX) (Fm.of hX) (by omega))
mutual
theorem all_ads {I:Nat→Prop}{w:World}:∀ {a:Ad},AAt I w a→∀ p ∈ a.ads,I p∧Cl w p
 | .mk q kd tx n ks,h=>by
  have hq:=h.cl;rw[AAt] at h;rw[Ad.ads];intro p hp
  rcases List.mem_cons.1 hp with rfl|hp
  ·exact⟨h.2.1,hq⟩
  ·exact all_adss h.2.2.2 p hp
theorem all_adss {I:Nat→Prop}{w:World}:∀ {es:List Ad},AAts I w es→∀ p ∈ Ad.adss es,I p∧Cl w p
 | [],_=>by rw[Ad.adss];intro p hp;cases hp
 | a::es,h=>by
  rw[AAts] at h;rw[Ad.adss];intro p hp
  rcases List.mem_append.1 hp with hp|hp
  ·exact all_ads h.1 p hp
  ·exact all_adss h.2 p hp
end
theorem of_any {I:Nat→Prop}(t:Ad)(w:World)(ht:AAt I w t)(hd:t.ads.Nodup)(hi:t.tr.ill=0)(hc:t.cnt≤20000) :
  Calls Tryz.prog 26 #[nPtr t.p] w fun e w'=>(∃ v,e=.returned v∧w'.ownsRow 0 56 3 v (tl t.cnt t.tr 0 [] false).length (usCells (tl t.cnt t.tr 0 [] false)))∧Below w.heap.size w w':=by
 have HN:=hide (number_any t w ht hd (by omega))
 have key:∀ (w1:World) (mb:Nat),w.heap.size≤mb→Below w.heap.size w w1→w1.heap[mb]? = some (.map (mapP (nodL t.ads)) t.ads.length) →
   Calls Tryz.prog 68 #[sPtr w1.heap.size,nPtr t.p,plV2 (.pointer none) false] (w1.alloc (.cells #[.map (some mb),.slice none 0 0] 108)) fun e w'=>e=.returned (.tuple #[]) ∧
    (∃ v,w'.heap[w1.heap.size]? = some (.cells #[.map (some mb),v] 108 (0,0))∧w'.ownsRow 0 56 3 v (tl t.cnt t.tr 0 [] false).length (usCells (tl t.cnt t.tr 0 [] false)))∧Below w.heap.size w w':=by
  intro w1 mb hmb hb1 hm1;have hb2:Below w1.heap.size w1 (w1.alloc (.cells #[.map (some mb),.slice none 0 0] 108)):=(Below.refl _ _).alloc (Nat.le_refl _) _
  have hs:∀ J:Nat→Prop,Stay J w (w1.alloc (.cells #[.map (some mb),.slice none 0 0] 108)):=fun J b _ hl=>(hb2.block b (Nat.lt_of_lt_of_le hl hb1.size)).trans (hb1.block b hl)
  have hA2:AAt (fun b=>b<w1.heap.size) (w1.alloc (.cells #[.map (some mb),.slice none 0 0] 108)) t:=AAt.later (hs _) _ (AAt.mono (fun b _ hl=>Nat.lt_of_lt_of_le hl hb1.size) _ ht)
  have hall:∀ p ∈ t.ads,p<w1.heap.size∧Cl (w1.alloc (.cells #[.map (some mb),.slice none 0 0] 108)) p:=all_ads hA2
  have hT:TW (fun b=>b<w1.heap.size) w1.heap.size mb t.ads [] (w1.alloc (.cells #[.map (some mb),.slice none 0 0] 108)):=
   ⟨⟨.slice none 0 0,heap_new _ _,⟨rfl,Or.inl ⟨rfl,rfl⟩⟩,fun b _ e=>(by cases e),fun e=>(by cases e)⟩,by rw[hb2.block mb (lt_of_heap hm1)];exact hm1,lt_of_heap hm1,fun b hb=>⟨Nat.lt_of_lt_of_le hb hb2.size,Nat.ne_of_lt hb⟩,hall,hd⟩
  refine(tell_all t.cnt t (Nat.le_refl _) _ w1.heap.size mb t.ads [] [] [] (.pointer none) [] false _ (by simp) hT hA2 hi rfl (by simp;omega)).mono ?_
  rintro e w' ⟨rfl,h1,h2⟩;obtain⟨⟨v,k1,k2,_⟩,_⟩:=h1;rw[List.nil_append,List.length_nil] at k2
  refine⟨rfl,⟨v,k1,k2⟩,⟨h2.os.trans (hb2.os.trans hb1.os),h2.tape.trans (hb2.tape.trans hb1.tape),h2.output.trans (hb2.output.trans hb1.output),Nat.le_trans hb1.size (Nat.le_trans hb2.size h2.size),fun k hk=>?_⟩⟩
  have hk1:k<w1.heap.size:=Nat.lt_of_lt_of_le hk hb1.size;exact(h2.stay k hk1 (Nat.lt_of_lt_of_le hk1 hb2.size)).trans ((hb2.block k hk1).trans (hb1.block k hk))
 have HK:=hide key
 generalize tl t.cnt t.tr 0 [] false=L at HK
 generalize t.p=p at HN HK
 clear ht hd hi hc key
 go_enter Tryz.func26,Tryz.ntmps26
 go_wp2_with fail
 refine cm HN.out ?_
 rintro e w1 ⟨⟨mb,rfl,hmb,hm1⟩,hb1⟩
 have HC:=hide (unhide HK w1 mb hmb hb1 hm1)
 clear HN HK hmb hm1 hb1
 go_wp2_with fail
 refine cm HC.out ?_
 rintro e w2 ⟨rfl,⟨v,hv,hr⟩,hb⟩
 have HR:=hide hr
 have HB:=hide hb
 have c1:w2.cell? ⟨w1.heap.size,1,none⟩=some v:=by rw[cell_of hv];rfl
 have hl:=lt_of_heap hv
 obtain⟨va,vc,rfl⟩:=srow_form hr
 clear HC hv hr hb
 go_wp2_with fail
 go_ret
 exact⟨⟨_,rfl,HR.out⟩,HB.out⟩
theorem rwhere_any (hT:∀ m,WalkC m){I:Nat→Prop}(t:Ad)(w:World)(ht:AAt I w t)(hd:t.ads.Nodup)(hi:t.tr.ill=0)(hws:WS t.tr)(hc:t.cnt≤9000) :
  Calls Tryz.prog 27 #[nPtr t.p] w fun e w'=>(∃ v,e=.returned v∧w'.ownsRow 0 57 3 v (tls (rl t.cnt) t.tr.kids 1 [⟨0,(letsT t.tr).map Tr.tx,false⟩] (decide (t.tr.tx=tStrict))).length (usCells (tls (rl t.cnt) t.tr.kids 1 [⟨0,(letsT t.tr).map Tr.tx,false⟩] (decide (t.tr.tx=tStrict)))))∧Below w.heap.size w w':=by
 obtain⟨i0,hi0,hz0,hz1,hz2⟩:=info_parts info9
 obtain⟨_,hpl,_,_,kv,c3,hrow⟩:=ht.cells
 obtain⟨ka,kc,hkv⟩:=row_shut hrow.1
 rw[List.length_map] at hkv
 subst hkv
 have hall:∀ q ∈ t.ads,Cl w q:=fun q hq=>((fun {a:Ad} (h:AAt I w a)=>all_ads (a:=a) h) ht q hq).2
 have HN:=hide (rnumbers_any t w ht hd (by omega) hall)
 have htc:=t.cnt_tr
 have hcn:=cnt_eq t
 have hkl:t.tr.kids.length≤20000:=by
  have h1:=counts_len t.tr.kids;have h3:=count_kids t.tr;omega
 have HLT:=hide (fun W (hW:Below w.heap.size w W)=>rlets_any t.tr t.p w W ht.nat.nt hW hkl)
 have hll:=lets_len t.tr
 have hks:t.ks.length≤20000:=by have:=cnts_len t.ks;omega
 have HST:=hide (fun W (hW:Below w.heap.size w W)=>rstrict_any t.tr t.p W (NAt.nt (NAt.later (fun b _ hl=>hW.block b hl) _ _ ht.nat)))
 have HNR0:Hid (∀ W,(∀ b,b<w.heap.size→W.heap[b]? = w.heap[b]?)→NTr W t.tr t.p):=fun W h=>(AAt.later (I:=fun b=>b<w.heap.size) (fun b hb _=>h b hb) _ (AAt.mono (fun b _ hl=>hl) _ ht)).nat.nt
 have hen:=en70
 have HTT:=hide ht
 have HDD:=hide hd
 have HII:=hide hi
 have HWS:=hide hws
 have HROW:=hide hrow
 have HCW:=hide hT
 have HCN:=hide hcn
 have HTC:=hide htc
 have HC3:=hide c3
 clear ht hd hi hws hrow hT hall c3 hcn htc
 generalize t.p=p at *
 go_enter Tryz.func27,Tryz.ntmps27
 go_wp2_with fail
 refine cm HN.out ?_
 rintro e w1 ⟨⟨mb,rfl,hmb,hm1⟩,hb1⟩
 have HM1:=hide hm1
 have HB1:=hide hb1
 clear HN hm1 hb1 hmb
 go_wp2_with fail
 obtain⟨wA,hwA⟩:∃ wA,wA=((w1.alloc (.cells #[.map (some mb)] 44)).alloc (.cells #[.slice none 0 0] 52)).alloc (.cells #[wkV w1.heap.size (w1.heap.size+1) (w1.heap.size+1+1)] 113):=⟨_,rfl⟩
 have hbA:Below w1.heap.size w1 wA:=by rw[hwA];exact(((Below.refl _ _).alloc (Nat.le_refl _) _).alloc (by simp) _).alloc (by simp;omega) _
 have HA:Hid (wA.heap[w1.heap.size]? = some (.cells #[.map (some mb)] 44 (0,0))∧wA.heap[w1.heap.size+1]? = some (.cells #[.slice none 0 0] 52 (0,0))∧wA.heap[w1.heap.size+1+1]? = some (.cells #[wkV w1.heap.size (w1.heap.size+1) (w1.heap.size+1+1)] 113 (0,0))∧wA.heap.size=w1.heap.size+3):=by
  have h0:=heap_new w1 (.cells #[.map (some mb)] 44);have h1:=heap_new (w1.alloc (.cells #[.map (some mb)] 44)) (.cells #[.slice none 0 0] 52)
  have h2:=heap_new ((w1.alloc (.cells #[.map (some mb)] 44)).alloc (.cells #[.slice none 0 0] 52)) (.cells #[wkV w1.heap.size (w1.heap.size+1) (w1.heap.size+1+1)] 113)
  have s1:(w1.alloc (.cells #[.map (some mb)] 44)).heap.size=w1.heap.size+1:=by simp
  have s2:((w1.alloc (.cells #[.map (some mb)] 44)).alloc (.cells #[.slice none 0 0] 52)).heap.size=w1.heap.size+1+1:=by simp
  rw[s1] at h1;rw[s2] at h2;refine⟨?_,?_,?_,by rw[hwA];simp⟩
  ·rw[hwA,Below.heap_alloc _ _ _ (by rw[s2];omega),Below.heap_alloc _ _ _ (by rw[s1];omega)];exact h0
  ·rw[hwA,Below.heap_alloc _ _ _ (by rw[s2];omega)];exact h1
  ·rw[hwA];exact h2
 rw[←hwA]
 have HBA:=hide (HB1.out.trans (hbA.mono HB1.out.size))
 have HB1A:=hide hbA
 clear hwA hbA
 refine cm (unhide HLT wA HBA.out) ?_
 rintro e w2 ⟨⟨u,rfl,hr2⟩,hb2⟩
 obtain⟨ua,ucc,rfl⟩:=hr2.form
 have HRW:=hide (hr2.row (HBA.out.trans (hb2.mono HBA.out.size)))
 have HB2:=hide hb2
 clear HLT hr2 hb2
 generalize hls:letsT t.tr=ls at *
 go_wp2_with fail
 go_loopw [6,19] (fun o i wr=>∃ k:Nat,k≤ls.length∧i=.int .i64 k∧SRow w2.heap.size wr o ((ls.take k).map Tr.tx)∧Below w2.heap.size w2 wr) (fun _ i _=>ls.length - (intOf i).toNat)
 case atStart=>exact⟨0,Nat.zero_le _,rfl,srow_nil _ _,Below.refl _ _⟩
 case round=>
  obtain⟨k,hk2,rfl,hown,hbel⟩:=hrel;have HOWN:=hide hown;have HB:=hide hbel;have hs3:=hbel.size;obtain⟨oa,oc,rfl⟩:=srow_form hown;clear hown hbel
  by_cases hlt:k<ls.length
  ·obtain⟨g2,cap2,q2,hv,hg2,hcc,hn⟩:=(HRW.out.later HB.out).cell k hlt;simp only[Value.slice.injEq] at hv;obtain⟨rfl,_,rfl⟩:=hv;obtain⟨hql2,_,q1,_⟩:=hn.cells
   have hki:(k:Int)<(ls.length:Int):=by omega
   have HTK:Hid ((ls.take (k+1)).map Tr.tx=(ls.take k).map Tr.tx++[(ls[k]).tx]):=by
    show _=_
    rw[List.take_succ_eq_append_getElem hlt,List.map_append];rfl
   generalize (ls[k]).tx=y at q1 HTK
   have hml:((ls.take k).map Tr.tx).length=k:=by rw[List.length_map,List.length_take];omega
   generalize (ls.take k).map Tr.tx=M at HTK HOWN hml
   have hmk:M.length≤20000:=by omega
   clear hn hml
   go_wp2_with (at_builtin;refine wpList_append_lies _ rfl _ _ 38 rfl w2.heap.size 9 i0 (.string ByteArray.empty) 1 16 Tryz.underlying38 hi0 hz0 hz1 hz2 rfl (by decide) _ _ _ rfl (HOWN.out.alloc _) ⟨wr.heap.size,0,none⟩ 1 1 [.string y] rfl rfl (World.news_of_block (heap_new wr (.cells #[.string y] 9))) (fun u hu=>by rw[List.mem_singleton.1 hu];rfl) (by decide) (by unfold maxLen;omega) (by omega) (by simp;omega) (wr.heap.size+1) (by simp) ?_)
   intro g3 cap3 w3 hown3 hgr3 hg3 _;have HB3:=hide (HB.out.trans (((Below.refl w2.heap.size wr).alloc hs3 (.cells #[.string y] 9)).grown hgr3 (by simp;omega) (fun b hb=>(own_lt HOWN.out b hb).2)))
   have HO3:Hid (SRow w2.heap.size w3 (.slice (some ⟨g3,0,none⟩) (M.length+1) cap3) (M++[y])):=by
    show World.ownsRow _ _ _ _ _ _ _
    rw[List.length_append,List.map_append];exact hown3
   clear hown3 hgr3 hg3;go_wp2_with fail
   go_roundw
   case rel=>exact⟨k+1,by omega,by go_num,by rw[HTK.out];exact HO3.out,HB3.out⟩
   case measure=>simp[intOf];omega
  ·have hii:k=ls.length:=by omega
   subst hii;rw[List.take_length,List.length_map] at HOWN;simp only[List.take_length,List.length_map];have HML:Hid ((ls.map Tr.tx).length=ls.length):=List.length_map _
   have hkb:(ls.map Tr.tx).length≤20000:=by rw[List.length_map];omega
   have hbB:Below w1.heap.size w1 wr:=HB1A.out.trans ((HB2.out.trans (HB.out.mono HB2.out.size)).mono HB1A.out.size);have hbAw:Below wA.heap.size wA wr:=HB2.out.trans (HB.out.mono HB2.out.size)
   have hbW:Below w.heap.size w wr:=HB1.out.trans (hbB.mono HB1.out.size);have hsA:=HA.out.2.2.2;have hs1:=HB1.out.size;have hszA:=hbAw.size
   obtain⟨J,hJ⟩:∃ J:Nat→Prop,J=fun b=>b<wr.heap.size∧b≠w1.heap.size+1:=⟨_,rfl⟩;have hRW:RgW J w1.heap.size mb (w1.heap.size+1) (w1.heap.size+1+1) t.ads [] wr:=by
    have hml:=lt_of_heap HM1.out;have hblk:∀ b,b<wA.heap.size→wr.heap[b]? = wA.heap[b]?:=fun b hb=>hbAw.block b hb;have hall:∀ q ∈ t.ads,q<w.heap.size∧Cl w q:=fun q hq=>by
     have h1:=((fun {a:Ad} (h:AAt I w a)=>all_ads (a:=a) h) HTT.out q hq).2;obtain⟨cs,ty,h2⟩:=h1;exact⟨lt_of_heap h2,cs,ty,h2⟩
    refine⟨by rw[hblk _ (by omega)];exact HA.out.1,by rw[hbB.block mb hml];exact HM1.out,by rw[hblk _ (by omega)];exact HA.out.2.2.1,⟨.slice none 0 0,by rw[hblk _ (by omega)];exact HA.out.2.1,⟨rfl,Or.inl ⟨rfl,rfl⟩⟩,fun b _ e=>(by cases e),fun e=>(by cases e)⟩,?_,?_,?_,HDD.out⟩
    ·rw[hJ];exact⟨⟨by omega,by omega⟩,⟨by omega,by omega⟩,⟨by omega,by omega⟩⟩
    ·intro b hb;rw[hJ] at hb;exact hb
    ·intro q hq;obtain⟨h1,cs,ty,h2⟩:=hall q hq;refine⟨by rw[hJ];exact⟨by have:=hbW.size;omega,by omega⟩,cs,ty,?_⟩
     rw[hbW.block q h1];exact h2
   have HRW0:=hide hRW;have hst:Stay (fun b=>b<w.heap.size) w wr:=fun b hb _=>hbW.block b hb;have hIJ:∀ b,b<w.heap.size→J b:=fun b hb=>by rw[hJ];exact⟨by have:=hbW.size;omega,by omega⟩
   have HKN:Hid (∀ k ∈ t.ks,k.cnt≤t.cnt∧AAt J wr k∧k.tr.ill=0∧WS k.tr):=fun k hk=>by
    have h1:=cnts_mem3 hk;have hcn:=unhide HCN;exact⟨by omega,AAt.mono (fun b hb _=>hIJ b hb) _ (AAt.later hst _ (AAt.mono (fun b _ hl=>hl) _ (HTT.out.parts k hk))),ill_parts HII.out k hk,HWS.out.part hk⟩
   have k3:wr.cell? ⟨p,3,none⟩=some (.slice ka t.ks.length kc):=keepC hbW HC3.out;have hpw:=cell_lt k3;have HBW:=hide hbW;have HJ:=hide hJ;have HBAW:=hide hbAw;clear hRW hbB hbAw hbW hJ hst hIJ
   go_wp2_with fail;obtain⟨wB,hwB⟩:∃ wB,wB=wr:=⟨_,rfl⟩;rw[←hwB] at HRW0 HKN HBW HJ HBAW HOWN HB k3 hpw ⊢;clear hwB
   have HNR:Hid (∀ W,Fm J wB W→NTr W t.tr p):=fun W hF=>unhide HNR0 W fun b hb=>(hF.stay b (by rw[HJ.out];exact⟨by have:=HBW.out.size;omega,by omega⟩) (by have:=HBW.out.size;omega)).trans (HBW.out.block b hb)
   have HOB:Hid (∀ g,(Value.slice oa ls.length oc).ownBlock=some g→J g):=fun g hg=>by
    have h1:=own_lt HOWN.out g hg;rw[HJ.out];have:=HB2.out.size;exact⟨h1.1,by omega⟩
   have HKC:Hid (∀ k (hk:k<t.ks.length),∃ g,ka=some ⟨g,0,none⟩∧g<w.heap.size∧w.cell? ⟨g,k,none⟩=some (nPtr (t.ks[k]).p)):=fun k hk=>by
    exact zber
   go_loopw [36] (fun i wq=>∃ k:Nat,k≤t.ks.length∧i=.int .i64 k∧RgW J w1.heap.size mb (w1.heap.size+1) (w1.heap.size+1+1) t.ads (tls (rl t.cnt) ((t.ks.take k).map Ad.tr) 1 [⟨0,ls.map Tr.tx,false⟩] (decide (t.tr.tx=tStrict))) wq∧Fm J wB wq) (fun i _=>t.ks.length - (intOf i).toNat)
   case atStart=>exact⟨0,Nat.zero_le _,rfl,HRW0.out,Fm.refl _ _⟩
   case round=>
    obtain⟨k,hk,rfl,hg,hap⟩:=hrel;have HGK:=hide hg;have HAK:=hide hap;clear hg hap
    by_cases hlt:k<t.ks.length
    ·obtain⟨g,hka,hgw,hgc⟩:=unhide HKC k hlt;subst hka;have hsB:=HBW.out.size;have hgJ:J g:=by rw[HJ.out];exact⟨by omega,by omega⟩
     have q0:wr.cell? ⟨g,k,none⟩=some (nPtr (t.ks[k]).p):=by rw[HAK.out.cell hgJ (by omega)];exact keepC HBW.out hgc
     have hgq:g<wr.heap.size:=cell_lt q0;have q1:wr.cell? ⟨w1.heap.size+1+1,0,none⟩=some (wkV w1.heap.size (w1.heap.size+1) (w1.heap.size+1+1)):=by rw[cell_of HGK.out.wlk];rfl
     have hki:(k:Int)<(t.ks.length:Int):=by omega
     have HQ1:=hide q1;clear q1;have HWK:Hid (∀ (X:World) (gr:Nat),Below wr.heap.size wr X→X.ownsRow wr.heap.size 116 3 (.slice (some ⟨gr,0,none⟩) 1 1) 1 [.int .i64 0,.slice oa ls.length oc,.bool false] →
       Calls Tryz.prog 70 #[nPtr (t.ks[k]).p,.slice (some ⟨gr,0,none⟩) 1 1,.bool (decide (t.tr.tx=tStrict)),sPtr w1.heap.size,sPtr (w1.heap.size+1),sPtr (w1.heap.size+1+1)] X fun e w'=>e=.returned (.tuple #[]) ∧
        RgW J w1.heap.size mb (w1.heap.size+1) (w1.heap.size+1+1) t.ads (tls (rl t.cnt) ((t.ks.take (k+1)).map Ad.tr) 1 [⟨0,ls.map Tr.tx,false⟩] (decide (t.tr.tx=tStrict))) w'∧Fm J wB w'):=by
      intro X gr hX hro;have hmem:=List.getElem_mem hlt;have hcn:=unhide HCN;obtain⟨n1,n2,n3,n4⟩:=unhide HKN _ hmem;have hct:=cnts_take t.ks k hlt
      have htl:=tls_len (f:=rl t.cnt) (rl_len t.cnt) ((t.ks.take k).map Ad.tr) 1 [⟨0,ls.map Tr.tx,false⟩] (decide (t.tr.tx=tStrict));rw[cnts_map] at htl
      have hA2:t.ads=(t.p::Ad.adss (t.ks.take k))++((t.ks[k]).ads++(Ad.adss (t.ks.drop (k+1))++[])):=by
       have h1:Ad.adss t.ks=Ad.adss (t.ks.take k)++((t.ks[k]).ads++Ad.adss (t.ks.drop (k+1))):=by
        rw[←Ad.adss,←List.drop_eq_getElem_cons hlt,←adss_app,List.take_append_drop]
       rw[ads_eq,h1];simp only[List.append_nil,List.cons_append]
      have hpn:(t.p::Ad.adss (t.ks.take k)).length=1+Tr.counts ((t.ks.map Ad.tr).take k):=by rw[List.length_cons,Ad.adss_len,←List.map_take,cnts_map];omega
      have hnr:SRow 0 X (.slice oa ls.length oc) (ls.map Tr.tx):=SRow.later (srow_mono (owns_stay HAK.out.stay HOB.out HOWN.out) (Nat.zero_le _)) hX
      have hC:=unhide HCW t.cnt (t.ks[k]) n1 (fun b=>J b∨(wr.heap.size≤b∧b<X.heap.size)) w1.heap.size mb (w1.heap.size+1) (w1.heap.size+1+1) t.ads _ _ _ (.slice (some ⟨gr,0,none⟩) 1 1) [(.slice oa ls.length oc,⟨0,ls.map Tr.tx,false⟩)] (decide (t.tr.tx=tStrict)) X hA2 (HGK.out.more hX)
       (AAt.mono (fun b hb _=>Or.inl hb) _ (AAt.later (fun b _ hl=>hX.block b hl) _ (AAt.later HAK.out.stay _ n2))) n3 n4
       ⟨owns_low3 hro (Nat.zero_le _),fun g hg=>(by have h1:=own_lt hro g hg;exact Or.inr ⟨h1.2,h1.1⟩),fun x hx=>(by rw[List.mem_singleton.1 hx];exact⟨hnr,fun g hg=>Or.inl (unhide HOB g hg),by show (ls.map Tr.tx).length≤90000;omega⟩)⟩ (by simp) (by simp;omega) (by omega)
      refine hC.mono ?_;rintro e w' ⟨rfl,h1,h2⟩;refine⟨rfl,?_,HAK.out.trans ((Fm.of hX).trans (h2.less fun b hb=>Or.inl hb))⟩;have h3:=h1.less HGK.out (fun b hb=>Or.inl hb)
      have htk:=tls_take (rl t.cnt) (t.ks.map Ad.tr) k (by rw[List.length_map];exact hlt) 1 [⟨0,ls.map Tr.tx,false⟩] (decide (t.tr.tx=tStrict))
      rw[List.map_take,htk];rw[hpn,List.map_take] at h3;simpa using h3
     generalize (t.ks[k]).p=q at *
     go_wp2_with fail;have HSTR:Hid (∀ X,Below wr.heap.size wr X→Calls Tryz.prog 64 #[nPtr p] X fun e w'=>e=.returned (.bool (decide (t.tr.tx=tStrict)))∧w'=X):=fun X hX=>by
      have hN:NTr wr t.tr p:=unhide HNR wr HAK.out;exact rstrict_any t.tr p X (NAt.nt (NAt.later (fun b _ hl=>hX.block b hl) _ _ hN))
     have hS0:Below wr.heap.size wr wr.drew:=(Below.refl _ _).drew;refine wp_region_U 7 (fun X=>Below wr.heap.size wr X) (by kernel_rfl) ?_;obtain⟨wd,hwd⟩:∃ wd,wd=wr.drew:=⟨_,rfl⟩;rw[←hwd] at hS0 ⊢
     clear hwd;refine uc 0 (wkV w1.heap.size (w1.heap.size+1) (w1.heap.size+1+1)) rfl (Or.inl ⟨by kernel_rfl,fun X hX=>by have h0:=keepC hX HQ1.out;go_simp⟩) hS0 ?_
     refine uh 1 (nPtr q) hS0 ?_;refine uh 2 (.slice oa ls.length oc) hS0 ?_;refine uh 3 (.agg #[.int .i64 0,.slice oa ls.length oc,.bool false]) hS0 ?_;refine uh 5 (nPtr p) hS0 ?_
     have hst2:∀ X,Below wr.heap.size wr X→(X.alloc (.cells #[.int .i64 0,.slice oa ls.length oc,.bool false] 116)).ownsRow wr.heap.size 116 3 (.slice (some ⟨X.heap.size,0,none⟩) 1 1) 1 [.int .i64 0,.slice oa ls.length oc,.bool false]:=fun X hX=>
      ⟨rfl,Or.inr ⟨X.heap.size,1,#[.int .i64 0,.slice oa ls.length oc,.bool false],rfl,hX.size,heap_new _ _,Nat.le_refl _,by decide,rfl,rfl⟩⟩
     have HS2:=hide hst2;clear hst2;refine uq2 4 6 (fun K hK=>?_) (fun K hK=>?_)
     ·go_simp;have hr:=unhide HS2 wd hS0;have hS1:Below wr.heap.size wr (wd.alloc (.cells #[.int .i64 0,.slice oa ls.length oc,.bool false] 116)):=hS0.alloc hS0.size _;refine hK.out _ _ (fun _=>hS1) ?_
      clear hK K;obtain⟨gr,hgr⟩:∃ gr,gr=wd.heap.size:=⟨_,rfl⟩;obtain⟨we,hwe⟩:∃ we,we=wd.alloc (.cells #[.int .i64 0,.slice oa ls.length oc,.bool false] 116):=⟨_,rfl⟩;rw[←hwe] at hr hS1 ⊢
      rw[←hgr] at hr ⊢;have HC7:=hide (unhide HWK we gr hS1 hr);clear hwe hgr hS0;refine uq1 6 fun K hK=>?_;go_simp;refine cm (unhide HSTR we hS1) ?_;rintro e w5 ⟨rfl,rfl⟩;refine hK.out _ _ (fun _=>hS1) ?_
      clear hK K;exact zbds
     ·go_simp;refine cm (unhide HSTR wd hS0) ?_;rintro e w5 ⟨rfl,rfl⟩;refine hK.out _ _ (fun _=>hS0) ?_;clear hK K;refine uq1 4 fun K hK=>?_;go_simp;have hr:=unhide HS2 w5 hS0
      have hS1:Below wr.heap.size wr (w5.alloc (.cells #[.int .i64 0,.slice oa ls.length oc,.bool false] 116)):=hS0.alloc hS0.size _;refine hK.out _ _ (fun _=>hS1) ?_;clear hK K
      obtain⟨gr,hgr⟩:∃ gr,gr=w5.heap.size:=⟨_,rfl⟩;obtain⟨we,hwe⟩:∃ we,we=w5.alloc (.cells #[.int .i64 0,.slice oa ls.length oc,.bool false] 116):=⟨_,rfl⟩;rw[←hwe] at hr hS1 ⊢;rw[←hgr] at hr ⊢
      have HC7:=hide (unhide HWK we gr hS1 hr);clear hwe hgr hS0;exact zbds
    ·have hkk:k=t.ks.length:=by omega
     subst hkk;rw[List.take_length] at HGK;obtain⟨ov,o1,o2,_⟩:=HGK.out.out;have oc1:wr.cell? ⟨w1.heap.size+1,0,none⟩=some ov:=by rw[cell_of o1];rfl
     have ol:=lt_of_heap o1;have HO2:=hide o2;obtain⟨oa2,oc2,rfl⟩:=srow_form o2;have HFIN:Hid (Below w.heap.size w wr):=by
      have hA:=unhide HAK;have hB:=unhide HBW
      exact⟨hA.os.trans hB.os,hA.tape.trans hB.tape,hA.output.trans hB.output,Nat.le_trans hB.size hA.size,fun b hb=>(hA.stay b (by rw[HJ.out];exact⟨by have:=hB.size;omega,by omega⟩) (by have:=hB.size;omega)).trans (hB.block b hb)⟩
     clear o1 o2;go_wp2_with fail;go_ret;refine⟨⟨_,rfl,?_⟩,HFIN.out⟩;rw[t.tr_eq.2.2,hls];exact unhide HO2
def CE (a b:List Sc):Prop:=∀ (x:ByteArray) (s:Bool),x≠noText→findS a x s=findS b x s
theorem CE.refl (a:List Sc):CE a a:=fun _ _ _=>rfl
theorem CE.cons {a b:List Sc}(h:CE a b){o o':Int}{N N':List ByteArray}{p p':Bool}(ho:o=o')(hn:∀ x,hasB N x=hasB N' x)(hp:p=p'):CE (⟨o,N,p⟩::a) (⟨o',N',p'⟩::b):=by
 intro x s hx
 subst ho hp
 rw[findS,findS,hn x,h x _ hx]
theorem CE.skip {a b:List Sc}(h:CE a b)(o:Int):CE (⟨o,[noText],false⟩::a) b:=by
 intro x s hx
 have h1:hasB [noText] x=false:=hasB_no.2 (by simpa using hx)
 rw[findS,h1]
 simpa using h x s hx
theorem tls_eq {f g:Tr→Nat→List Sc→Bool→List Us}{ch ch':List Sc}{st:Bool}:∀ (ts:List Tr),(∀ t ∈ ts,∀ no,f t no ch st=g t no ch' st)→∀ no,tls f ts no ch st=tls g ts no ch' st
 | [],_,_=>rfl
 | t::ts,h,no=>by
  rw[tls,tls,h t (by simp) no,tls_eq ts (fun u hu=>h u (by simp[hu]))]
def Vis (c:Nat):Prop:=c≠4∧c≠5∧c≠6∧c≠9
theorem shp_vis {Nm:ByteArray→Prop}{c:Nat}{t:Tr}(h:Shp Nm c t)(hc:Vis c):strictT t=false∧t.kd≠1∧t.kd≠40∧(t.kd=23→t.kids=[]∧Nm t.tx)∧(isFunT t=false→∀ k ∈ t.kids,∃ c',Vis c'∧Shp Nm c' k):=by
 have v0:Vis 0:=⟨by decide,by decide,by decide,by decide⟩
 have v1:Vis 1:=⟨by decide,by decide,by decide,by decide⟩
 have v2:Vis 2:=⟨by decide,by decide,by decide,by decide⟩
 have v3:Vis 3:=⟨by decide,by decide,by decide,by decide⟩
 have v7:Vis 7:=⟨by decide,by decide,by decide,by decide⟩
 have v8:Vis 8:=⟨by decide,by decide,by decide,by decide⟩
 induction h with
 | sblk h ih=>exact ih v3
 | name h=>exact⟨rfl,by simp[Tr.kd],by simp[Tr.kd],fun _=>⟨rfl,h⟩,fun _ k hk=>by cases hk⟩
 | str s=>exact⟨rfl,by simp[Tr.kd],by simp[Tr.kd],by simp[Tr.kd],fun _ k hk=>by cases hk⟩
 | num n=>exact⟨rfl,by simp[Tr.kd],by simp[Tr.kd],by simp[Tr.kd],fun _ k hk=>by cases hk⟩
 | lit hk=>rcases hk with rfl|rfl|rfl|rfl <;> exact⟨rfl,by simp[Tr.kd],by simp[Tr.kd],by simp[Tr.kd],fun _ k hk=>by cases hk⟩
 | memb h ht=>exact⟨rfl,by simp[Tr.kd],by simp[Tr.kd],by simp[Tr.kd],fun _ k hk=>by rw[List.mem_singleton.1 hk];exact⟨_,v0,ht⟩⟩
 | call ht hs hl=>
  refine⟨rfl,by simp[Tr.kd],by simp[Tr.kd],by simp[Tr.kd],fun _ k hk=>?_⟩
  rcases List.mem_cons.1 hk with rfl|hk
  ·exact⟨_,v0,ht⟩
  ·exact⟨_,v0,hs k hk⟩
 | one hk ht=>rcases hk with rfl|rfl|rfl <;> exact⟨rfl,by simp[Tr.kd],by simp[Tr.kd],by simp[Tr.kd],fun _ k hk=>by rw[List.mem_singleton.1 hk];exact⟨_,v0,ht⟩⟩
 | @two kd _ _ hk ha hb _ _=>
  have h1:(kd==1)=false:=by simp;omega
  have h6:(kd==6)=false:=by simp;omega
  refine⟨by unfold strictT;simp only[Tr.kd];rw[h1,h6];rfl,by simp only[Tr.kd];omega,by simp only[Tr.kd];omega,fun e=>by simp only[Tr.kd] at e;omega,fun _ k hk=>?_⟩
  exact zbhn
 | asg hk ha hb=>
  refine⟨rfl,by simp[Tr.kd],by simp[Tr.kd],by simp[Tr.kd],fun _ k hk=>?_⟩;exact zbhn
 | obj hs hl=>exact⟨rfl,by simp[Tr.kd],by simp[Tr.kd],by simp[Tr.kd],fun _ k hk=>⟨_,v2,hs k hk⟩⟩
 | lam h hp hb=>exact⟨rfl,by simp[Tr.kd],by simp[Tr.kd],by simp[Tr.kd],fun hf=>by cases hf⟩
 | prop h hv=>exact⟨rfl,by simp[Tr.kd],by simp[Tr.kd],by simp[Tr.kd],fun _ k hk=>by rw[List.mem_singleton.1 hk];exact⟨_,v0,hv⟩⟩
 | par h=>exact absurd rfl hc.2.2.1
 | pars hs hl=>exact absurd rfl hc.2.1
 | blk hs=>exact⟨rfl,by simp[Tr.kd],by simp[Tr.kd],by simp[Tr.kd],fun _ k hk=>⟨_,v1,hs k hk⟩⟩
 | body ht hs=>exact absurd rfl hc.1
 | decl hk h hv hl hc2=>rcases hk with rfl|rfl|rfl <;> exact⟨rfl,by simp[Tr.kd],by simp[Tr.kd],by simp[Tr.kd],fun _ k hk=>⟨_,v0,hv k hk⟩⟩
 | func h hp hb=>exact⟨rfl,by simp[Tr.kd],by simp[Tr.kd],by simp[Tr.kd],fun hf=>by cases hf⟩
 | sif hv hs=>
  refine⟨rfl,by simp[Tr.kd],by simp[Tr.kd],by simp[Tr.kd],fun _ k hk=>?_⟩
  rcases List.mem_cons.1 hk with rfl|hk
  ·exact⟨_,v0,hv⟩
  ·rw[List.mem_singleton.1 hk];exact⟨_,v1,hs⟩
 | sife hv hs he=>
  refine⟨rfl,by simp[Tr.kd],by simp[Tr.kd],by simp[Tr.kd],fun _ k hk=>?_⟩
  rcases List.mem_cons.1 hk with rfl|hk
  ·exact⟨_,v0,hv⟩
  ·rcases List.mem_cons.1 hk with rfl|hk
   ·exact⟨_,v1,hs⟩
   ·rw[List.mem_singleton.1 hk];exact⟨_,v1,he⟩
 | loop hk hv hs=>
  rcases hk with rfl|rfl
  all_goals
   refine⟨rfl,by simp[Tr.kd],by simp[Tr.kd],by simp[Tr.kd],fun _ k hk=>?_⟩
   rcases List.mem_cons.1 hk with rfl|hk
   ·exact⟨_,v0,hv⟩
   ·rw[List.mem_singleton.1 hk];exact⟨_,v1,hs⟩
 | give hk hv hl hc2=>rcases hk with rfl|rfl <;> exact⟨rfl,by simp[Tr.kd],by simp[Tr.kd],by simp[Tr.kd],fun _ k hk=>⟨_,v0,hv k hk⟩⟩
 | atm hb hc2 hf hl=>
  refine⟨rfl,by simp[Tr.kd],by simp[Tr.kd],by simp[Tr.kd],fun _ k hk=>?_⟩
  rcases List.mem_cons.1 hk with rfl|hk
  ·exact⟨_,v3,hb⟩
  ·rcases List.mem_append.1 hk with hk|hk
   ·exact⟨_,v7,hc2 k hk⟩
   ·exact⟨_,v8,hf k hk⟩
 | cat h hb=>exact⟨rfl,by simp[Tr.kd],by simp[Tr.kd],by simp[Tr.kd],fun _ k hk=>by rw[List.mem_singleton.1 hk];exact⟨_,v3,hb⟩⟩
 | fin hb=>exact⟨rfl,by simp[Tr.kd],by simp[Tr.kd],by simp[Tr.kd],fun _ k hk=>by rw[List.mem_singleton.1 hk];exact⟨_,v3,hb⟩⟩
 | empty=>exact⟨rfl,by simp[Tr.kd],by simp[Tr.kd],by simp[Tr.kd],fun _ k hk=>by cases hk⟩
 | expr hv=>exact⟨rfl,by simp[Tr.kd],by simp[Tr.kd],by simp[Tr.kd],fun _ k hk=>by rw[List.mem_singleton.1 hk];exact⟨_,v0,hv⟩⟩
 | prog ht hs=>exact absurd rfl hc.2.2.2
theorem shp_body {Nm:ByteArray→Prop}{b:Tr}(h:Shp Nm 4 b):b.kd=6∧∀ k ∈ b.kids,Shp Nm 1 k:=by
 cases h with
 | body ht hs=>exact⟨rfl,hs⟩
theorem counts_mem {t:Tr}:∀ {ts:List Tr},t ∈ ts→t.count≤Tr.counts ts
 | [],h=>by cases h
 | u::ts,h=>by
  rw[counts_cons]
  rcases List.mem_cons.1 h with rfl|h
  ·omega
  ·have:=counts_mem h;omega
theorem rl_tl {Nm:ByteArray→Prop}(hN:∀ x,Nm x→x≠noText):∀ (m m':Nat) (t:Tr) (c:Nat),Shp Nm c t→Vis c→t.count≤m→t.count≤m'→∀ (no:Nat) (ch ch':List Sc) (st:Bool),CE ch ch'→tl m t no ch st=rl m' t no ch' st
 | 0,_,t,_,_,_,h,_,_,_,_,_,_=>by have:=count_kids t;omega
 | _+1,0,t,_,_,_,_,h,_,_,_,_,_=>by have:=count_kids t;omega
 | m+1,m'+1,t,c,h,hc,h1,h2,no,ch,ch',st,hce=>by
  obtain⟨hs,k1,k40,k23,hk⟩:=shp_vis h hc;have hcn:=count_kids t;have v1:Vis 1:=⟨by decide,by decide,by decide,by decide⟩
  have all:isFunT t=false→∀ (no:Nat) (ch ch':List Sc) (st:Bool),CE ch ch'→tls (tl m) t.kids no ch st=tls (rl m') t.kids no ch' st:=fun hf no ch ch' st hce=>
   tls_eq _ (fun u hu no=>by
    obtain⟨c',hv',hs'⟩:=hk hf u hu;have:=counts_mem hu;exact rl_tl hN m m' u c' hs' hv' (by omega) (by omega) no ch ch' st hce) no
  rw[tl,rl,hs,Bool.or_false]
  by_cases e23:t.kd=23
  ·rw[if_pos e23,if_pos e23,(k23 e23).1,hce _ _ (hN _ (k23 e23).2)];rfl
  rw[if_neg e23,if_neg e23,if_neg k1]
  by_cases e6:t.kd=6
  ·have hf:isFunT t=false:=by unfold isFunT;rw[e6];rfl
   have e9:t.kd≠9:=by rw[e6];decide
   have e13:t.kd≠13:=by rw[e6];decide
   rw[if_pos e6,if_neg e9,if_neg e13,if_pos e6];exact all hf _ _ _ _ (hce.cons rfl (fun _=>rfl) rfl)
  rw[if_neg e6]
  by_cases e13:t.kd=13
  ·have hf:isFunT t=false:=by unfold isFunT;rw[e13];rfl
   have e9:t.kd≠9:=by rw[e13];decide
   rw[if_pos e13,if_neg e9,if_pos e13];exact all hf _ _ _ _ (hce.cons rfl (fun _=>rfl) rfl)
  rw[if_neg e13]
  by_cases e9:t.kd=9
  ·have hf:isFunT t=false:=by unfold isFunT;rw[e9];rfl
   rw[if_pos e9,if_pos e9];obtain⟨x,y,hxy⟩:=shp_with h e9;have hcx:=hcn;rw[hxy,counts_cons,counts_cons] at hcx;obtain⟨cx,hvx,hsx⟩:=hk hf x (by rw[hxy];simp)
   obtain⟨cy,hvy,hsy⟩:=hk hf y (by rw[hxy];simp)
   rw[hxy]
   show tl m x _ _ _++tl m y _ _ _=rl m' x _ _ _++rl m' y _ _ _
   rw[rl_tl hN m m' x cx hsx hvx (by omega) (by omega) _ ch ch' st hce,rl_tl hN m m' y cy hsy hvy (by omega) (by omega) _ _ _ st (hce.cons rfl (fun _=>rfl) rfl)]
  rw[if_neg e9,if_neg e9,if_neg e13,if_neg e6]
  by_cases ef:t.kd=5∨t.kd=37
  ·rw[if_pos ef,if_pos ef];have hf:isFunT t=true:=by unfold isFunT;rcases ef with e|e <;> rw[e] <;> rfl
   obtain⟨pr,bl,hpb,_,hbl⟩:=shp_fun h hf;obtain⟨b6,hbk⟩:=shp_body hbl;have hcx:=hcn;rw[hpb,counts_cons,counts_cons] at hcx;have hcb:=count_kids bl
   have hsb:strictT bl=decide (bl.tx=tStrict):=by unfold strictT;rw[b6];rfl
   have heb:evalsT bl=evWs bl.kids:=by unfold evalsT ceT;rw[b6];rfl
   rw[hpb]
   show tls (tl m) bl.kids _ _ _=tls (rl m') bl.kids _ _ _
   rw[hsb];refine tls_eq _ (fun u hu no'=>?_) _;have:=counts_mem hu;refine rl_tl hN m m' u 1 (hbk u hu) v1 (by omega) (by omega) no' _ _ _ ?_;unfold fnSc rfSc
   refine CE.cons ?_ rfl (fun x=>?_) (by rw[hsb,heb,Bool.and_comm])
   ·by_cases e37:t.kd=37
    ·have hb:(t.kd==37)=true:=by rw[e37];rfl
     rw[hb,if_pos rfl]
     by_cases etx:t.tx=noText
     ·have hd:(true && !decide (t.tx=noText))=false:=by simp[etx]
      rw[hd,etx,if_neg (by simp)];exact hce.skip _
     ·have hd:(true && !decide (t.tx=noText))=true:=by simp[etx]
      rw[hd,if_pos rfl];exact hce.cons rfl (fun _=>rfl) rfl
    ·have hb:(t.kd==37)=false:=by simpa using e37
     rw[hb];exact hce
   ·unfold hasB;simp only[List.any_append]
    congr 2
    have h3:hasB (pr.kids.map Tr.tx) x=hasB (onceL (pr.kids.map Tr.tx)) x:=by
     rw[Bool.eq_iff_iff,hasB_iff,hasB_iff,once_mem]
    exact h3
  ·rw[if_neg ef,if_neg ef,if_neg k40];have hf:isFunT t=false:=by
    unfold isFunT;have a5:(t.kd==5)=false:=by simp;exact fun e=>ef (Or.inl e)
    have a37:(t.kd==37)=false:=by simp;exact fun e=>ef (Or.inr e)
    rw[a5,a37];rfl
   exact all hf _ _ _ _ hce
theorem told_eq {Nm:ByteArray→Prop}(hN:∀ x,Nm x→x≠noText){t:Tr}(h:Shp Nm 9 t):tl t.count t 0 [] false=tls (rl t.count) t.kids 1 [⟨0,(letsT t).map Tr.tx,false⟩] (decide (t.tx=tStrict)):=by
 have hcn:=count_kids t
 have v1:Vis 1:=⟨by decide,by decide,by decide,by decide⟩
 obtain⟨m,hm⟩:∃ m,t.count=m+1:=⟨Tr.counts t.kids,by omega⟩
 cases h with
 | prog ht hs=>
  rename_i tx ts
  rw[hm,tl];have h1:(Tr.mk 1 tx 0 ts).kd=1:=rfl;have e23:(Tr.mk 1 tx 0 ts).kd≠23:=by rw[h1];decide
  rw[if_neg e23,if_pos h1];have hst:(false||strictT (Tr.mk 1 tx 0 ts))=decide ((Tr.mk 1 tx 0 ts).tx=tStrict):=by unfold strictT;rw[h1];rfl
  rw[hst];refine tls_eq _ (fun u hu no=>?_) _;have:=counts_mem hu;exact rl_tl hN m (m+1) u 1 (hs u hu) v1 (by omega) (by omega) no _ _ _ (CE.refl _)
end Go.Proofs.YtoimgcjbcbhclaaGreatDoor
