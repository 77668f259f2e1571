/-
  Walk with any function that looks at nodes.
-/
import Derived.Test.YtoimgcjbcbhclaaGreatDoorWt23
import Derived.LaidEql
set_option maxRecDepth 100000
set_option maxHeartbeats 16000000
namespace Go.Proofs.YtoimgcjbcbhclaaGreatDoor
open Go.RowKit
mutual
def wk {α:Type}(f:α→Ad→α × Bool):α→Ad→α
 | a,.mk p kd tx n ks=>if (f a (.mk p kd tx n ks)).2 then wks f (f a (.mk p kd tx n ks)).1 ks else (f a (.mk p kd tx n ks)).1
def wks {α:Type}(f:α→Ad→α × Bool):α→List Ad→α
 | a,[]=>a
 | a,k::ks=>wks f (wk f a k) ks
end
theorem wk_eq {α:Type}(f:α→Ad→α × Bool)(a:α)(t:Ad):wk f a t=if (f a t).2 then wks f (f a t).1 t.ks else (f a t).1:=by
 cases t with
 | mk p kd tx n ks=>rw[wk];rfl
theorem wks_app {α:Type}(f:α→Ad→α × Bool):∀ (l m:List Ad) (a:α),wks f a (l++m)=wks f (wks f a l) m
 | [],m,a=>by rw[List.nil_append,wks]
 | k::l,m,a=>by rw[List.cons_append,wks,wks,wks_app f l m]
theorem wks_take {α:Type}(f:α→Ad→α × Bool)(l:List Ad)(a:α)(k:Nat)(hk:k<l.length):wks f a (l.take (k+1))=wk f (wks f a (l.take k)) l[k]:=by
 rw[List.take_succ_eq_append_getElem hk,wks_app,wks,wks]
theorem walkG {α:Type}(F:Nat)(x:Value)(I:Nat→Prop)(Rl:World→World→Prop)(Inv:α→World→Prop)(f:α→Ad→α × Bool)(P:α→List Ad→Prop)
  (hen:∀ args W,(callFunc F args).run Tryz.prog W=.ok (.enter F args) W) (hfn:∀ W:World,(binOp .eql 54 (.func (.func F) #[] #[x]) .nilFunc).run Tryz.prog W=.ok (.bool false) W)
  (htr:∀ a b c,Rl a b→Rl b c→Rl a c) (hsy:∀ w w',Rl w w'→Stay I w w'∧w.heap.size≤w'.heap.size)
  (hP:∀ a t ts,P a (t::ts)→P (f a t).1 ((if (f a t).2 then t.ks else [])++ts))
  (hst:∀ a t ts w,P a (t::ts)→Inv a w→AAt I w t→Calls Tryz.prog F #[nPtr t.p,x] w fun e w'=>e=.returned (.bool (f a t).2)∧Inv (f a t).1 w'∧Rl w w') :
  ∀ (m:Nat) (t:Ad),t.cnt≤m→m≤90000→∀ (ts:List Ad) (a:α) (w:World),P a (t::ts)→Inv a w→AAt I w t →
   Calls Tryz.prog 31 #[nPtr t.p,.func (.func F) #[] #[x]] w fun e w'=>e=.returned (.tuple #[])∧Inv (wk f a t) w'∧P (wk f a t) ts∧Rl w w':=by
 exact zbah
theorem walkG2 {α:Type}(F:Nat)(x y:Value)(I:Nat→Prop)(Rl:World→World→Prop)(Inv:α→World→Prop)(f:α→Ad→α × Bool)(P:α→List Ad→Prop)
  (hen:∀ args W,(callFunc F args).run Tryz.prog W=.ok (.enter F args) W) (hfn:∀ W:World,(binOp .eql 54 (.func (.func F) #[] #[x,y]) .nilFunc).run Tryz.prog W=.ok (.bool false) W)
  (htr:∀ a b c,Rl a b→Rl b c→Rl a c) (hsy:∀ w w',Rl w w'→Stay I w w'∧w.heap.size≤w'.heap.size)
  (hP:∀ a t ts,P a (t::ts)→P (f a t).1 ((if (f a t).2 then t.ks else [])++ts))
  (hst:∀ a t ts w,P a (t::ts)→Inv a w→AAt I w t→Calls Tryz.prog F #[nPtr t.p,x,y] w fun e w'=>e=.returned (.bool (f a t).2)∧Inv (f a t).1 w'∧Rl w w') :
  ∀ (m:Nat) (t:Ad),t.cnt≤m→m≤90000→∀ (ts:List Ad) (a:α) (w:World),P a (t::ts)→Inv a w→AAt I w t →
   Calls Tryz.prog 31 #[nPtr t.p,.func (.func F) #[] #[x,y]] w fun e w'=>e=.returned (.tuple #[])∧Inv (wk f a t) w'∧P (wk f a t) ts∧Rl w w':=by
 exact zbah
def mkP (e:(Nat × Value) × Nat):MapEntry:={ key:=nPtr e.1.1,val:=e.1.2,born:=e.2 }
def mapP (l:List (Nat × Value)):Array MapEntry:=((l.zipIdx).map mkP).toArray
def Cl (W:World)(p:Nat):Prop:=∃ cs t,W.heap[p]? = some (.cells cs t (0,0))
theorem sz49 (W:World):(sizeOf 49).run Tryz.prog W=.ok 4 W:=by kernel_rfl
theorem eq_ptr {W:World}{p q:Nat}(hp:Cl W p)(hq:Cl W q):(Op.equal 22 (nPtr p) (nPtr q)).run Tryz.prog W=.ok (decide (p=q)) W:=by
 obtain⟨ca,ta,ha⟩:=hp
 obtain⟨cb,tb,hb⟩:=hq
 have h22:=Tryz.underlying22
 show (Op.equalIn (9999+1) 22 (nPtr p) (nPtr q)).run Tryz.prog W=_
 rw[Op.equalIn,Sem.run_bind,run_underlying h22 W]
 simp only[Result.andThen_ok,Sem.run_bind,sz49]
 by_cases h:p=q
 ·subst h;rw[decide_eq_true rfl];exact run_sameAddr_same _ _
 ·rw[decide_eq_false h];exact run_sameAddr_other W (a:=⟨p,0,none⟩) (b:=⟨q,0,none⟩) (fun e=>h (by cases e;rfl)) ha hb
theorem find_ptr {W:World}{p:Nat}(hp:Cl W p):∀ (l:List (Nat × Value)) (n i:Nat),(∀ e ∈ l,Cl W e.1) →
  ∃ o,(Instr.findAsking 22 (nPtr p) ((l.zipIdx n).map mkP) i).run Tryz.prog W=.ok o W∧o.map (·.2)=(l.find? (fun e=>decide (p=e.1))).map (·.2)
 | [],_,_,_=>⟨none,rfl,rfl⟩
 | e::l,n,i,h=>by
  have h1:=eq_ptr hp (h e (by simp));simp only[List.zipIdx_cons,List.map_cons,Instr.findAsking,mkP,Sem.run_bind,h1,Result.andThen_ok,List.find?_cons]
  cases hd:decide (p=e.1)
  ·simp only[Bool.false_eq_true,if_false];exact find_ptr hp l (n+1) (i+1) (fun e he=>h e (by simp[he]))
  ·exact⟨some (i,e.2),rfl,rfl⟩
theorem key_ptr {W:World}{p:Nat}(hp:Cl W p)(l:List (Nat × Value))(h:∀ e ∈ l,Cl W e.1) :
  ∃ o,(Instr.findKey 22 (nPtr p) (mapP l).toList).run Tryz.prog W=.ok o W∧o.map (·.2)=(l.find? (fun e=>decide (p=e.1))).map (·.2):=by
 have h22:=Tryz.underlying22
 cases l with
 | nil=>
  refine⟨none,?_,rfl⟩;unfold Instr.findKey;rw[Sem.run_bind,run_underlying h22 W];rfl
 | cons e l=>
  obtain⟨o,h1,h2⟩:=find_ptr hp (e::l) 0 0 h;refine⟨o,?_,h2⟩;unfold Instr.findKey;rw[Sem.run_bind,run_underlying h22 W];simp only[Result.andThen_ok,mapP];exact h1
theorem lookup_ptr (m k:Nat)(l:List (Nat × Value))(p:Nat)(W:World)(hm:W.heap[m]? = some (.map (mapP l) k))(hp:Cl W p)(hl:∀ e ∈ l,Cl W e.1) :
  (Instr.lookup 44 (.map (some m)) (nPtr p) false).run Tryz.prog W=.ok (((l.find? (fun e=>decide (p=e.1))).map (·.2)).getD (.int .i64 0)) W:=by
 obtain⟨o,h3,h2⟩:=key_ptr hp l hl
 have h22:=Tryz.underlying22
 have h44:=Tryz.underlying44
 have hz:(zeroValue 3).run Tryz.prog W=.ok (.int .i64 0) W:=by kernel_rfl
 unfold Instr.lookup
 rw[Sem.run_bind,run_underlying h44 W]
 have hck:∀ b,(Instr.checkKey b 10000 22 (nPtr p)).run Tryz.prog W=.ok () W:=by
  intro b;rw[Instr.checkKey,Sem.run_bind,run_underlying h22 W];rfl
 have hg:(getObj m).run Tryz.prog W=.ok (.map (mapP l) k) W:=by simp[getObj,Sem.run,hm]
 simp only[Result.andThen_ok,Sem.run_bind,hg,Sem.run_pure,hck,h3]
 cases o with
 | none=>
  cases hf:l.find? (fun e=>decide (p=e.1)) with
  | none=>simp[hz]
  | some x=>rw[hf] at h2;simp at h2
 | some y=>
  cases hf:l.find? (fun e=>decide (p=e.1)) with
  | none=>rw[hf] at h2;simp at h2
  | some x=>rw[hf] at h2;simp at h2;simp[h2]
theorem mapP_snoc (l:List (Nat × Value))(k:Nat)(v:Value):(mapP l).push { key:=nPtr k,val:=v,born:=l.length }=mapP (l++[(k,v)]):=by
 unfold mapP
 rw[List.zipIdx_append,List.map_append]
 simp[mkP,List.zipIdx]
theorem update_ptr (m:Nat)(l:List (Nat × Value))(p:Nat)(v:Value)(W:World)(hm:W.heap[m]? = some (.map (mapP l) l.length))(hp:Cl W p)(hl:∀ e ∈ l,Cl W e.1)(hn:l.find? (fun e=>decide (p=e.1))=none) :
  (Instr.mapUpdate 44 (.map (some m)) (nPtr p) v).run Tryz.prog W=.ok () (setMap W m (.map (mapP (l++[(p,v)])) (l.length+1))):=by
 obtain⟨o,h3,h2⟩:=key_ptr hp l hl
 have h22:=Tryz.underlying22
 have h44:=Tryz.underlying44
 have ho:o=none:=by
  rw[hn] at h2
  cases o with
  | none=>rfl
  | some y=>simp at h2
 subst ho
 have hck:∀ b,(Instr.checkKey b 10000 22 (nPtr p)).run Tryz.prog W=.ok () W:=by
  intro b;rw[Instr.checkKey,Sem.run_bind,run_underlying h22 W];rfl
 have hg:(getObj m).run Tryz.prog W=.ok (.map (mapP l) l.length) W:=by simp[getObj,Sem.run,hm]
 unfold Instr.mapUpdate
 rw[Sem.run_bind,run_underlying h44 W]
 simp only[Result.andThen_ok,Sem.run_bind,hg,hck,h3]
 rw[mapP_snoc]
 simp[setObj,Sem.run,hm,setMap]
theorem len_ptr (l:List (Nat × Value)):(mapP l).size=l.length:=by simp[mapP]
def nodL (l:List Nat):List (Nat × Value):=l.zipIdx.map fun e=>(e.1,.int .i64 (e.2:Int))
theorem nodL_len (l:List Nat):(nodL l).length=l.length:=by simp[nodL]
theorem nodL_snoc (l:List Nat)(p:Nat):nodL (l++[p])=nodL l++[(p,.int .i64 (l.length:Int))]:=by
 simp[nodL,List.zipIdx_append,List.zipIdx]
theorem nodL_mem {l:List Nat}{e:Nat × Value}(h:e ∈ nodL l):e.1 ∈ l:=by
 unfold nodL at h
 obtain⟨x,hx,rfl⟩:=List.mem_map.1 h
 obtain⟨x1,x2⟩:=x
 have:=List.mem_zipIdx hx
 simp only
 rw[this.2.2]
 exact List.getElem_mem _
theorem find_zip (p:Nat):∀ (l:List Nat) (n:Nat),p ∈ l→(((l.zipIdx n).map fun e=>(e.1,Value.int .i64 (e.2:Int))).find? (fun e=>decide (p=e.1))).map (·.2)=some (.int .i64 ((n+l.idxOf p:Nat):Int))
 | [],_,h=>absurd h (by simp)
 | x::l,n,h=>by
  rw[List.zipIdx_cons,List.map_cons,List.find?_cons,List.idxOf_cons]
  by_cases hx:p=x
  ·subst hx;simp
  ·have h2:p ∈ l:=by exact(List.mem_cons.1 h).resolve_left hx
   have h3:(x==p)=false:=beq_eq_false_iff_ne.2 (Ne.symm hx);simp only[decide_eq_false hx,h3];rw[find_zip p l (n+1) h2];simp only[cond_false]
   congr 3
   omega
theorem nodL_find {p:Nat}{l:List Nat}(h:p ∈ l):(((nodL l).find? (fun e=>decide (p=e.1))).map (·.2)).getD (.int .i64 0)=.int .i64 ((l.idxOf p:Nat):Int):=by
 unfold nodL
 rw[find_zip p l 0 h,Nat.zero_add]
 rfl
theorem nodL_none {p:Nat}{l:List Nat}(h:p ∉ l):(nodL l).find? (fun e=>decide (p=e.1))=none:=by
 rw[List.find?_eq_none]
 intro e he
 have:=nodL_mem he
 simp only[decide_eq_true_eq]
 rintro rfl
 exact h this
structure Nms (mb nb:Nat)(l:List Nat)(w:World):Prop where
 word:w.heap[nb]? = some (.cells #[.map (some mb)] 44 (0,0))
 map:w.heap[mb]? = some (.map (mapP (nodL l)) l.length)
 old:∀ p ∈ l,Cl w p
def nmF (l:List Nat)(t:Ad):List Nat × Bool:=(l++[t.p],true)
mutual
theorem wk_nm:∀ (t:Ad) (l:List Nat),wk nmF l t=l++t.ads
 | .mk p kd tx n ks,l=>by
  rw[wk,Ad.ads];simp only[nmF,if_true];rw[show (Ad.mk p kd tx n ks).p=p from rfl,wks_nm ks,List.append_assoc];rfl
theorem wks_nm:∀ (ts:List Ad) (l:List Nat),wks nmF l ts=l++Ad.adss ts
 | [],l=>by rw[wks,Ad.adss,List.append_nil]
 | t::ts,l=>by rw[wks,wk_nm t,wks_nm ts,Ad.adss,List.append_assoc]
end
theorem AAt.cl {I:Nat→Prop}{w:World}{a:Ad}(h:AAt I w a):Cl w a.p:=by
 cases a with
 | mk p kd tx n ks=>
  rw[AAt] at h;obtain⟨_,_,⟨v,hb,_⟩,_⟩:=h;exact⟨_,_,hb⟩
theorem number1_any {mb nb:Nat}{l:List Nat}{t:Ad}{I:Nat→Prop}{w:World}(hN:Nms mb nb l w)(ht:AAt I w t)(hp:t.p ∉ l) :
  Calls Tryz.prog 67 #[nPtr t.p,.pointer (some ⟨nb,0,none⟩)] w fun e w'=>e=.returned (.bool true)∧w'=setMap w mb (.map (mapP (nodL (l++[t.p]))) (l.length+1)):=by
 have hw:w.cell? ⟨nb,0,none⟩=some (.map (some mb)):=by rw[cell_of hN.word];rfl
 have hu:=update_ptr mb (nodL l) t.p (.int .i64 (l.length:Int)) w (by rw[nodL_len];exact hN.map) ht.cl (fun e he=>hN.old _ (nodL_mem he)) (nodL_none hp)
 rw[nodL_len,←nodL_snoc] at hu
 have hl:(Builtin.len_ #[44] 3 #[.map (some mb)]).run Tryz.prog w=.ok (.int .i64 (l.length:Int)) w:=by
  simp[Builtin.len_,getObj,Sem.run,hN.map,len_ptr,nodL_len,goInt]
 obtain⟨p,hp2⟩:∃ p,p=t.p:=⟨_,rfl⟩
 rw[←hp2] at hu ⊢
 clear hN ht hp hp2
 go_enter Tryz.func67,Tryz.ntmps67
 go_wp2_with fail
 go_ret
 exact⟨rfl,rfl⟩
theorem Cl.set {w:World}{m p:Nat}{o:Obj}{es:Array MapEntry}{k:Nat}(h:Cl w p)(hm:w.heap[m]? = some (.map es k)):Cl (setMap w m o) p:=by
 obtain⟨cs,t,hc⟩:=h
 refine⟨cs,t,?_⟩
 rw[setMap_other (fun e=>by rw[e,hm] at hc;cases hc)]
 exact hc
theorem Nms.next {mb nb:Nat}{l:List Nat}{p:Nat}{w:World}(h:Nms mb nb l w)(hp:Cl w p)(hne:nb≠mb):Nms mb nb (l++[p]) (setMap w mb (.map (mapP (nodL (l++[p]))) (l.length+1))):=by
 refine⟨by rw[setMap_other hne];exact h.word,by rw[setMap_at (lt_of_heap h.map),List.length_append];rfl,fun q hq=>?_⟩
 rcases List.mem_append.1 hq with hq|hq
 ·exact(h.old q hq).set h.map
 ·rw[List.mem_singleton.1 hq];exact hp.set h.map
theorem ap_setMap {m B:Nat}(w:World)(o:Obj):Ap m B w (setMap w m o):=⟨rfl,rfl,rfl,by rw[setMap_size];exact Nat.le_refl _,fun k _ hk=>setMap_other hk⟩
theorem en67:∀ args W,(callFunc 67 args).run Tryz.prog W=.ok (.enter 67 args) W:=fun _ _=>by kernel_rfl
theorem number_any {I:Nat→Prop}(t:Ad)(w:World)(ht:AAt I w t)(hd:t.ads.Nodup)(hc:t.cnt≤90000) :
  Calls Tryz.prog 24 #[nPtr t.p] w fun e w'=>(∃ mb,e=.returned (.map (some mb))∧w.heap.size≤mb∧w'.heap[mb]? = some (.map (mapP (nodL t.ads)) t.ads.length))∧Below w.heap.size w w':=by
 obtain⟨w2,hw2⟩:∃ w2,w2=(w.alloc (.map #[] 0)).alloc (.cells #[.map (some w.heap.size)] 44):=⟨_,rfl⟩
 have hb2:Below w.heap.size w w2:=by
  rw[hw2];exact((Below.refl _ _).alloc (Nat.le_refl _) _).alloc (by simp) _
 have hs2:w2.heap.size=w.heap.size+2:=by rw[hw2];simp
 have e1:(w.alloc (.map #[] 0)).heap.size=w.heap.size+1:=by simp
 have hN:Nms w.heap.size (w.heap.size+1) [] w2:=by
  refine⟨?_,?_,fun p hp=>absurd hp (by simp)⟩
  ·rw[hw2,←e1];exact heap_new _ _
  ·rw[hw2,Below.heap_alloc _ _ _ (by simp)];exact heap_new _ _
 have HC:=hide (walkG 67 (.pointer (some ⟨w.heap.size+1,0,none⟩)) (fun b=>b<w.heap.size+2∧b≠w.heap.size) (Ap w.heap.size (w.heap.size+2)) (Nms w.heap.size (w.heap.size+1)) nmF (fun l ts=>(l++Ad.adss ts).Nodup) en67 (fun W=>by kernel_rfl)
  (fun _ _ _ h k=>h.trans k) (fun w w' h=>⟨fun b hb _=>h.block b hb.1 hb.2,h.size⟩)
  (fun l t ts h=>by
   simp only[nmF,if_true];rw[Ad.adss,ads_eq] at h;rw[adss_app];simpa using h)
  (fun l t ts w' h hI hA=>by
   have hp:t.p ∉ l:=by
    rw[Ad.adss,ads_eq,List.nodup_append] at h;exact fun hm=>h.2.2 _ hm _ (by simp) rfl
   refine(number1_any hI hA hp).mono ?_;rintro e w3 ⟨rfl,rfl⟩;exact⟨rfl,hI.next hA.cl (by omega),ap_setMap _ _⟩)
  t.cnt t (Nat.le_refl _) hc [] [] w2 (by rw[List.nil_append,Ad.adss,Ad.adss,List.append_nil];exact hd) hN
  (AAt.later (I:=fun b=>b<w.heap.size+2∧b≠w.heap.size) (fun b hb hl=>hb2.block b hl) _ (AAt.mono (fun b _ hl=>⟨by omega,by omega⟩) _ ht)))
 rw[wk_nm,List.nil_append] at HC
 obtain⟨p,hp⟩:∃ p,p=t.p:=⟨_,rfl⟩
 rw[←hp] at HC ⊢
 have HB2:=hide hb2
 have HS2:=hide hs2
 rw[hw2] at HC
 have HW2:=hide hw2
 have hmk:=mkMap 44
 clear hb2 hs2 e1 hN ht hd hc hp hw2
 go_enter Tryz.func24,Tryz.ntmps24
 go_wp2_with fail
 refine cm HC.out ?_
 rintro e w3 ⟨rfl,hn3,_,ha3⟩
 have hw:w3.cell? ⟨w.heap.size+1,0,none⟩=some (.map (some w.heap.size)):=by rw[cell_of hn3.word];rfl
 have HM:=hide hn3.map
 rw[←HW2.out] at ha3
 have HB3:Hid (Below w.heap.size w w3):=HB2.out.trans ((ha3.mono (by omega)).below (Nat.le_refl _))
 clear hn3 ha3 HC
 go_wp2_with fail
 go_ret
 exact⟨⟨_,rfl,Nat.le_refl _,HM.out⟩,HB3.out⟩
def namedB (l:List Tr)(x:ByteArray):Bool:=l.any fun k=>decide (k.tx=x)
def ownVar (t:Tr):List ByteArray:=if t.kd==2 then [t.tx] else []
mutual
def vw:Tr→List ByteArray
 | .mk kd tx _ ks=>(if kd==2 then [tx] else [])++(if kd==5||kd==37 then [] else vws ks)
def vws:List Tr→List ByteArray
 | []=>[]
 | t::ts=>vw t++vws ts
end
theorem vw_eq (t:Tr):vw t=ownVar t++(if isFunT t then [] else vws t.kids):=by
 cases t with
 | mk kd tx n ks=>rw[vw];rfl
theorem vws_app:∀ a b:List Tr,vws (a++b)=vws a++vws b
 | [],b=>by simp[vws]
 | t::a,b=>by simp[vws,vws_app a b]
theorem vws_take (ts:List Tr)(k:Nat)(hk:k<ts.length):vws (ts.take (k+1))=vws (ts.take k)++vw ts[k]:=by
 rw[List.take_succ_eq_append_getElem hk,vws_app]
 simp[vws]
mutual
theorem vw_len:∀ t:Tr,(vw t).length≤t.count
 | .mk kd tx n ks=>by
  have h:=vws_len ks;rw[vw,count_mk]
  split <;> split <;> simp <;> omega
theorem vws_len:∀ ts:List Tr,(vws ts).length≤Tr.counts ts
 | []=>by simp[vws]
 | t::ts=>by
  have h1:=vw_len t;have h2:=vws_len ts;rw[vws,counts_cons];simp;omega
end
structure GotS (b B:Nat)(l:List ByteArray)(w:World):Prop where
 lt:b<B
 sz:B≤w.heap.size
 own:∃ v,w.heap[b]? = some (.cells #[v] 38 (0,0))∧SRow B w v l
theorem GotS.drew {b B:Nat}{l:List ByteArray}{w:World}(h:GotS b B l w):GotS b B l w.drew:=⟨h.lt,h.sz,h.own⟩
theorem gots_push {b B g cap n:Nat}{l:List ByteArray}{s:ByteArray}{wd w3:World}{v:Value}(hlt:b<B)(hsz:B≤wd.heap.size)(hb:wd.heap[b]? = some (.cells #[v] 38 (0,0)))(hown:wd.ownsRow B 9 1 v l.length (l.map Value.string))(hn:n=l.length+1)
  (hown3:w3.ownsRow B 9 1 (.slice (some ⟨g,0,none⟩) n cap) n (l.map Value.string++[.string s])) (hgr:(wd.alloc (.cells #[.string s] 9)).grownBy w3 v.ownBlock) :
  GotS b B (l++[s]) (w3.setCell ⟨b,0,none⟩ (.slice (some ⟨g,0,none⟩) n cap))∧Ap b B wd (w3.setCell ⟨b,0,none⟩ (.slice (some ⟨g,0,none⟩) n cap)):=by
 subst hn
 have hob:∀ k,v.ownBlock=some k→B≤k:=fun k hk=>(own_lt hown k hk).2
 have hap:Ap b B wd (w3.setCell ⟨b,0,none⟩ (.slice (some ⟨g,0,none⟩) (l.length+1) cap)):=(((Ap.refl b B wd).alloc hsz _).grown hgr (by simp;omega) hob).setCell (p:=⟨b,0,none⟩) (Or.inr rfl) _
 have h3:w3.heap[b]? = some (.cells #[v] 38 (0,0)):=by
  rw[hgr.block b (by simp;omega) (fun e=>by have:=hob b e.symm;omega),Below.heap_alloc _ _ _ (by omega)]
  exact hb
 have hgB:B≤g:=(own_lt hown3 g rfl).2
 refine⟨⟨hlt,Nat.le_trans hsz hap.size,_,by rw[heap_set h3];rfl,?_⟩,hap⟩
 show World.ownsRow _ _ _ _ _ _ _
 rw[show (l++[s]).length=l.length+1 by simp,List.map_append]
 exact owns_stay (I:=fun x=>x=g) (fun x hx _=>Below.heap_setCell w3 ⟨b,0,none⟩ _ x (by have h1:x=g:=hx;show x≠b;omega)) (fun y hy=>by simpa[Value.ownBlock] using hy.symm) hown3
theorem via00 {G goal:Prop}(h1:G→goal)(h2:G):goal:=h1 h2
theorem vars1_any {b B p:Nat}{l:List ByteArray}{t:Tr}{w:World}(hG:GotS b B l w)(hn:NAt (fun x=>x<B∧x≠b) w t p)(hl:l.length≤100000) :
  Calls Tryz.prog 255 #[nPtr p,.pointer (some ⟨b,0,none⟩)] w fun e w'=>e=.returned (.bool (!isFunT t))∧GotS b B (l++ownVar t) w'∧Ap b B w w':=by
 obtain⟨i0,hi0,hz0,hz1,hz2⟩:=info_parts info9
 have hpB:p<B∧p≠b:=by
  cases t with
  | mk kd tx nn ks=>rw[NAt] at hn;exact hn.1
 have HFN:∀ W,Ap b B w W→Hid (Calls Tryz.prog 256 #[nPtr p] W fun e w'=>e=.returned (.bool (isFunT t))∧w'=W):=fun W hW=>isFun_any t p W (NAt.nt (NAt.later (fun x hx _=>hW.block x hx.1 hx.2) _ _ hn))
 obtain⟨hpl,c0,c1,_⟩:=(NAt.nt hn).cells
 have HG0:=hide hG
 obtain⟨hbB,hBs,v,hb,hown⟩:=hG
 obtain⟨va,vc,rfl⟩:=srow_form hown
 have d0:w.cell? ⟨b,0,none⟩=some (.slice va l.length vc):=by rw[cell_of hb];rfl
 have cf:=frozen_of hb 0
 have hbl:=lt_of_heap hb
 have HOWN:=hide hown
 have HB:=hide hb
 obtain⟨tx,htx⟩:∃ tx,tx=t.tx:=⟨_,rfl⟩
 obtain⟨kd,hkd⟩:∃ kd,kd=t.kd:=⟨_,rfl⟩
 obtain⟨fb,hfb⟩:∃ fb,fb=isFunT t:=⟨_,rfl⟩
 rw[←htx] at c1
 rw[←hkd] at c0
 rw[←hfb]
 have HOV:Hid (ownVar t=if kd==2 then [tx] else []):=by rw[htx,hkd];rfl
 rw[HOV.out]
 simp only[←hfb] at HFN
 clear hown hb hn htx hkd hfb HOV
 cases hk:(kd==2) with
 | false=>
  have HC:=HFN w (Ap.refl _ _ _);go_enter Tryz.func255,Tryz.ntmps255;go_wp2_with fail;refine cm HC.out ?_;rintro e w2 ⟨rfl,rfl⟩;clear HC;go_wp2_with fail;go_ret
  exact⟨rfl,by simpa using HG0.out,Ap.refl _ _ _⟩
 | true=>
  go_enter Tryz.func255,Tryz.ntmps255;go_wp2_with fail;refine via00 (G:=?G1) (fun CONT=>?_) ?_;rotate_left
  ·refine wp_region_any (by kernel_rfl) ?_;change wpAny _ _ _ _ _ _ _ (World.drew _);refine wt 1 (nPtr p) ?_;refine wt 2 (nPtr p) ?_;refine wt 3 (.pointer (some ⟨p,1,none⟩)) ?_
   refine wr2 0 4 (fun K hK=>?_) (fun K hK=>?_)
   ·go_simp;refine hK _ _ ?_;clear hK K;refine wr1 4 fun K hK=>?_;go_simp;refine hK _ _ ?_;clear hK K;refine wr1 5 fun K hK=>?_;go_simp;refine hK _ _ ?_;clear hK K
    refine wpAny_same (listed':=tf 6 2) (by kernel_rfl) rfl ?_;exact CONT
   ·go_simp;refine hK _ _ ?_;clear hK K;refine wr2 0 5 (fun K hK=>?_) (fun K hK=>?_)
    ·go_simp;refine hK _ _ ?_;clear hK K;refine wr1 5 fun K hK=>?_;exact zbgh
    ·go_simp;refine hK _ _ ?_;clear hK K;refine wr1 0 fun K hK=>?_;exact zbgh
  ·refine wr1 6 fun K hK=>?_
   refine step_append_lies _ rfl _ _ 38 rfl B 9 i0 (.string ByteArray.empty) 1 16 Tryz.underlying38 hi0 hz0 hz1 hz2 rfl (by decide) _ _ _ rfl ((HOWN.out:World.ownsRow w.drew B 9 1 _ _ _).alloc _) ⟨w.heap.size,0,none⟩ 1 1 [.string tx] rfl rfl (hoCellsS w.drew tx _ rfl) (hoOneS tx) (by decide) (by unfold maxLen;omega) (by omega) (by simp;omega) (w.heap.size+1) (by simp) ?_
   intro g cap w3 hown3 hgr3 _ _;refine hK _ _ ?_;clear hK K;have HGP:=hide (gots_push (wd:=w.drew) hbB hBs HB.out HOWN.out rfl hown3 hgr3)
   have h3:w3.heap[b]? = w.heap[b]?:=(hgr3.block b (by simp;omega) (fun e=>by have:=(own_lt HOWN.out b e.symm).2;omega)).trans (Below.heap_alloc w.drew _ b hbl)
   have e0:w3.cell? ⟨b,0,none⟩=some (.slice va l.length vc):=(World.cell?_of_block (w:=w) h3).trans d0;have ef:w3.frozen? ⟨b,0,none⟩=false:=(World.frozen?_of_block (w:=w) h3).trans cf
   have he:b<w3.heap.size:=lt_of_heap (h3.trans HB.out);clear hown3 hgr3 h3 d0 cf;refine wr1 7 fun K hK=>?_;go_simp;refine hK _ _ ?_;clear hK K e0 ef he;refine wpAny_done (by kernel_rfl) ?_ _;go_simp
   obtain⟨hg2,ha2⟩:=unhide HGP;obtain⟨W,hW⟩:∃ W,W=w3.setCell ⟨b,0,none⟩ (.slice (some ⟨g,0,none⟩) (l.length+1) cap):=⟨_,rfl⟩;rw[←hW] at hg2 ha2 ⊢;have HG2:=hide hg2
   have HA2:=hide ((Ap.refl b B w).drew.trans ha2);clear hg2 ha2 hW HGP c0 c1;have HC:=HFN W HA2.out;go_wp2_with fail;refine cm HC.out ?_;rintro e w2 ⟨rfl,rfl⟩;clear HC;go_wp2_with fail;go_ret
   exact⟨rfl,HG2.out,HA2.out⟩
theorem srow_mono {B B':Nat}{w:World}{v:Value}{l:List ByteArray}(h:SRow B w v l)(hB:B'≤B):SRow B' w v l:=by
 exact zbgl
abbrev varV (b:Nat):Value:=.func (.func 255) #[] #[.pointer (some ⟨b,0,none⟩)]
theorem en62:∀ args W,(callFunc 255 args).run Tryz.prog W=.ok (.enter 255 args) W:=fun _ _=>by kernel_rfl
theorem walkV (b B:Nat):∀ (m:Nat) (t:Tr),t.count≤m→∀ (p:Nat) (l:List ByteArray) (w:World),NAt (fun x=>x<B∧x≠b) w t p→GotS b B l w→l.length+t.count≤90000 →
  Calls Tryz.prog 31 #[nPtr p,varV b] w fun e w'=>e=.returned (.tuple #[])∧GotS b B (l++vw t) w'∧Ap b B w w':=by
 intro m
 induction m with
 | zero=>
  exact zbeo
 | succ m ih=>
  intro t ht p l w hnt hG hbd;obtain⟨u,ps,hblk,hrow,hri,hks⟩:=hnt.opens2;have hlen:=NAts.length _ _ hks;have hpB:p<B∧p≠b:=by
   cases t with
   | mk kd tx nn ks=>rw[NAt] at hnt;exact hnt.1
  have htc:t.count=1+Tr.counts t.kids:=by cases t with|mk kd tx nn ks=>exact count_mk _ _ _ _
  obtain⟨_,_,_,f3,_⟩:=node_cells hblk;obtain⟨ua,uc,hu⟩:=row_shut hrow;subst hu;have hen:=en62
  have hfn:∀ W:World,(binOp .eql 54 (varV b) .nilFunc).run Tryz.prog W=.ok (.bool false) W:=fun W=>by kernel_rfl
  have HC:=hide (vars1_any hG hnt (by omega));have HKS:=hide hks;have HROW:=hide hrow;have HRI:=hide hri;have HIH:=hide ih;have HTC:=hide htc;have HHT:=hide ht;have HBD:=hide hbd;have HF3:=hide f3
  have HPL:=hide (lt_of_heap hblk);have HPB:=hide hpB;have HLEN:=hide hlen;have HVW:=hide (vw_eq t);have HOL:Hid ((ownVar t).length≤1):=by show _≤_;unfold ownVar;split <;> simp
  clear hG hks hrow hri ih htc ht hbd hblk hnt f3 hpB hlen
  cases hx:isFunT t with
  | true=>
   rw[hx] at HC HVW;clear hx;go_enter Tryz.func31,Tryz.ntmps31;go_wp2_with fail;refine cm HC.out ?_;rintro e w1 ⟨rfl,hg1,ha1⟩;have HG1:=hide hg1;have HA1:=hide ha1;clear HC hg1 ha1;go_wp2_with fail
   exact bodyPost_ret (v:=.tuple #[]) (by simp[results,Tryz.results31,go_sem]) rfl ⟨rfl,by rw[HVW.out];simpa using HG1.out,HA1.out⟩
  | false=>
   rw[hx] at HC HVW;clear hx;go_enter Tryz.func31,Tryz.ntmps31;go_wp2_with fail;refine cm HC.out ?_;rintro e w1 ⟨rfl,hg1,ha1⟩;have g3:=(ha1.cell (p:=⟨p,3,none⟩) HPB.out.1 HPB.out.2).trans HF3.out
   rw[HLEN.out] at g3;have hpl1:p<w1.heap.size:=Nat.lt_of_lt_of_le HPL.out ha1.size;have HG1:=hide hg1;have HA1:=hide ha1;clear HC hg1 ha1;go_wp2_with fail
   go_loopw [23] (fun i wr=>∃ k:Nat,k≤t.kids.length∧i=.int .i64 k∧GotS b B (l++ownVar t++vws (t.kids.take k)) wr∧Ap b B w wr) (fun i _=>t.kids.length - (intOf i).toNat)
   case atStart=>exact⟨0,Nat.zero_le _,rfl,by simpa[vws] using HG1.out,HA1.out⟩
   case round=>
    obtain⟨k,hk,rfl,hg,hap⟩:=hrel;have HGK:=hide hg;have HAK:=hide hap;clear hg hap
    by_cases hlt:k<t.kids.length
    ·obtain⟨g,cap,hv,hcell⟩:=row_open HROW.out (by rw[HLEN.out];omega)
     simp only[Value.slice.injEq] at hv;obtain⟨rfl,_,rfl⟩:=hv;obtain⟨hkp,hnk⟩:=NAts.get _ _ HKS.out k hlt;have hgb:=unhide HRI g rfl;have hck:wr.cell? ⟨g,k,none⟩=some (nPtr ps[k]):=by
      rw[HAK.out.cell (p:=⟨g,k,none⟩) hgb.1 hgb.2];exact hcell k hkp
     have hnk2:NAt (fun x=>x<B∧x≠b) wr t.kids[k] ps[k]:=NAt.later (fun x hx hl=>HAK.out.block x hx.1 hx.2) _ _ hnk;have hgl:g<wr.heap.size:=Nat.lt_of_lt_of_le (own_lt HROW.out g rfl).1 HAK.out.size
     have htk:=counts_take t.kids k hlt;have hwk:=vws_take t.kids k hlt;have hwl:=vws_len (t.kids.take k);have h1:=unhide HTC;have h2:=unhide HHT;have h3:=unhide HBD;have h4:=unhide HOL
     have htot:Tr.counts (t.kids.take k)+(t.kids[k]).count≤Tr.counts t.kids:=by
      exact zbdn
     have HC:=hide (HIH.out t.kids[k] (by omega) ps[k] _ wr hnk2 HGK.out (by rw[List.length_append,List.length_append];omega))
     have HWK:=hide hwk;obtain⟨q,hq⟩:∃ q,q=ps[k]:=⟨_,rfl⟩;rw[←hq] at hck HC;have hki:(k:Int)<(t.kids.length:Int):=by omega
     have hkb:t.kids.length≤100000:=by have:=counts_len t.kids;omega
     clear hcell hnk hnk2 htk h1 h2 h3 h4 htot hq hwk hwl;go_wp2_with fail;refine cm HC.out ?_;rintro e w2 ⟨rfl,hc2,ha2⟩;have HC2:=hide hc2;have HA2:=hide (HAK.out.trans ha2);clear hc2 ha2 HC hck
     go_wp2_with fail
     go_roundw
     case rel=>exact⟨k+1,by omega,by go_num,by rw[HWK.out,←List.append_assoc];exact HC2.out,HA2.out⟩
     case measure=>simp[intOf];omega
    ·have hk2:k=t.kids.length:=by omega
     subst hk2;go_wp2_with fail
     go_end0
     refine⟨rfl,?_,HAK.out⟩;have h:=unhide HGK;rw[List.take_length] at h;rw[HVW.out,←List.append_assoc];exact h
theorem kids_cell {p n c:Nat}{a:Option Addr}{w:World}(hc:w.cell? ⟨p,3,none⟩=some (.slice a n c)):Calls Tryz.prog 257 #[nPtr p] w fun e w'=>e=.returned (.slice a n c)∧w'=w:=by
 go_enter Tryz.func257,Tryz.ntmps257
 go_wp2_with fail
 go_ret
 exact⟨rfl,rfl⟩
def varsT (t:Tr):List ByteArray:=onceL (vws t.kids)
theorem vars_any (t:Tr)(p:Nat)(w:World)(h:NTr w t p)(hc:t.count≤80000) :
  Calls Tryz.prog 194 #[nPtr p] w fun e w'=>(∃ u,e=.returned u∧SRow w.heap.size w' u (varsT t))∧Below w.heap.size w w':=by
 have hN:NAt (fun x=>x<w.heap.size) w t p:=NAt.mono (fun b _ hl=>hl) _ _ h
 obtain⟨wa,hwa⟩:∃ wa,wa=w.alloc (.cells #[.slice none 0 0] 38):=⟨_,rfl⟩
 have hba:Below w.heap.size w wa:=by rw[hwa];exact(Below.refl _ _).alloc (Nat.le_refl _) _
 have hsa:wa.heap.size=w.heap.size+1:=by rw[hwa];simp
 have hga:GotS w.heap.size (w.heap.size+1) [] wa:=⟨by omega,by omega,_,by rw[hwa];exact heap_new _ _,srow_nil _ _⟩
 have htc:t.count=1+Tr.counts t.kids:=by cases t with|mk kd tx nn ks=>exact count_mk _ _ _ _
 obtain⟨u,ps,hblk,hrow,hri,hks⟩:=hN.opens2
 have hlen:=NAts.length _ _ hks
 obtain⟨ua,uc,hu⟩:=row_shut hrow
 subst hu
 obtain⟨_,_,_,f3,_⟩:=node_cells hblk
 have HK:=hide (kids_cell (w:=wa) (p:=p) ((World.cell?_of_block (w:=w) (a:=⟨p,3,none⟩) (hba.block p (lt_of_heap hblk))).trans f3))
 rw[hlen] at HK
 have HROW:=hide hrow
 have HKS:=hide hks
 have HRI:=hide hri
 have HBA:=hide hba
 have HSA:=hide hsa
 have HGA:=hide hga
 have HTC:=hide htc
 have HHC:=hide hc
 have HLEN:=hide hlen
 have hen:=en62
 have hkb:t.kids.length≤100000:=by have:=counts_len t.kids;omega
 clear h hN hba hga hrow hks hri hblk f3 htc hc hlen hsa
 go_enter Tryz.func194,Tryz.ntmps194
 go_wp2_with fail
 rw[←hwa]
 refine cm HK.out ?_
 rintro e w1 ⟨rfl,rfl⟩
 clear HK hwa
 go_wp2_with fail
 go_loopw [11] (fun i wr=>∃ k:Nat,k≤t.kids.length∧i=.int .i64 k∧GotS w.heap.size (w.heap.size+1) (vws (t.kids.take k)) wr∧Ap w.heap.size (w.heap.size+1) w1 wr) (fun i _=>t.kids.length - (intOf i).toNat)
 case atStart=>exact⟨0,Nat.zero_le _,rfl,by simpa[vws] using HGA.out,Ap.refl _ _ _⟩
 case round=>
  obtain⟨k,hk,rfl,hg,hap⟩:=hrel;have HGK:=hide hg;have HAK:=hide hap;clear hg hap
  by_cases hlt:k<t.kids.length
  ·obtain⟨g,cap,hv,hcell⟩:=row_open HROW.out (by rw[HLEN.out];omega)
   simp only[Value.slice.injEq] at hv;obtain⟨rfl,_,rfl⟩:=hv;obtain⟨hkp,hnk⟩:=NAts.get _ _ HKS.out k hlt;have hgl:g<w.heap.size:=(own_lt HROW.out g rfl).1
   have hck:wr.cell? ⟨g,k,none⟩=some (nPtr ps[k]):=by
    rw[HAK.out.cell (p:=⟨g,k,none⟩) (by show g<_;omega) (by show g≠_;omega),World.cell?_of_block (w:=w) (a:=⟨g,k,none⟩) (HBA.out.block g hgl)];exact hcell k hkp
   have hnk2:NAt (fun x=>x<w.heap.size+1∧x≠w.heap.size) wr t.kids[k] ps[k]:=
    NAt.mono (fun x hx _=>⟨by have h1:x<w.heap.size:=hx;omega,by have h1:x<w.heap.size:=hx;omega⟩) _ _ (NAt.later (I:=fun x=>x<w.heap.size) (fun x hx hl=>(HAK.out.block x (by have h1:x<w.heap.size:=hx;omega) (by have h1:x<w.heap.size:=hx;omega)).trans (HBA.out.block x hx)) _ _ hnk)
   have hglr:g<wr.heap.size:=by have:=HAK.out.size;have:=unhide HSA;omega
   have htk:=counts_take t.kids k hlt;have hwk:=vws_take t.kids k hlt;have hwl:=vws_len (t.kids.take k);have h1:=unhide HTC;have h3:=unhide HHC
   have htot:Tr.counts (t.kids.take k)+(t.kids[k]).count≤Tr.counts t.kids:=by
    exact zbdn
   have HC:=hide (walkV w.heap.size (w.heap.size+1) (t.kids[k]).count t.kids[k] (Nat.le_refl _) ps[k] _ wr hnk2 HGK.out (by omega));have HWK:=hide hwk;obtain⟨q,hq⟩:∃ q,q=ps[k]:=⟨_,rfl⟩
   rw[←hq] at hck HC;have hki:(k:Int)<(t.kids.length:Int):=by omega
   clear hcell hnk hnk2 htk h1 h3 htot hq hwk hwl;go_wp2_with fail;refine cm HC.out ?_;rintro e w2 ⟨rfl,hc2,ha2⟩;have HC2:=hide hc2;have HA2:=hide (HAK.out.trans ha2);clear hc2 ha2 HC hck;go_wp2_with fail
   go_roundw
   case rel=>exact⟨k+1,by omega,by go_num,by rw[HWK.out];exact HC2.out,HA2.out⟩
   case measure=>simp[intOf];omega
  ·have hk2:k=t.kids.length:=by omega
   subst hk2;have hg:=unhide HGK;rw[List.take_length] at hg;obtain⟨_,hz,v,hb,hown⟩:=hg;obtain⟨oa,oc,rfl⟩:=srow_form hown
   have c0:wr.cell? ⟨w.heap.size,0,none⟩=some (.slice oa (vws t.kids).length oc):=by rw[cell_of hb];rfl
   have hbl:=lt_of_heap hb;have HBW:Hid (Below w.heap.size w wr):=HBA.out.trans ((HAK.out.mono (by omega)).below (Nat.le_refl _));have hvl:=vws_len t.kids
   have HC:=hide (once_any (vws t.kids) _ wr hown (by have:=unhide HTC;have:=unhide HHC;omega))
   clear hown hb hvl;go_wp2_with fail;refine cm HC.out ?_;rintro e w2 ⟨⟨u,rfl,hr⟩,hb2⟩;obtain⟨xa,xc,rfl⟩:=srow_form hr;have HR2:=hide hr;have HB2:=hide (HBW.out.trans (hb2.mono HBW.out.size))
   clear HC hr hb2;go_wp2_with fail;go_ret;exact⟨⟨_,rfl,srow_mono HR2.out HBW.out.size⟩,HB2.out⟩
theorem run_app_none {P:Program}{w:World}(base:Nat)(t ty e:TypeId)(i:TypeInfo)(size:Nat)(ht:P.underlying t=some (.slice e))(hi:P.info? e=some i)
  (v:Value) (n:Nat) (xs:List Value) (hown:w.ownsRow base e size v n xs) (ad:Option Addr) (k:Nat) :
  (Builtin.append_ #[t,t] ty #[v,.slice ad 0 k]).run P w=.ok v w:=by
 exact zbfd
theorem wpList_app_row {P:Program}{w:World}{ops:Array Oper}{rest:List Oper}{o:Oper}{a:Act}{Q:Exit→Act→World→Prop}(hgd:o.guard=none)(s x:Operand)(t:TypeId)
  (ho:o.op=.call { callee:=.builtin .append,args:=#[s,x],argTypes:=#[t,t] })
  (base B2:Nat) (e:TypeId) (i:TypeInfo) (z:Value) (bytes:Nat) (ht:P.underlying t=some (.slice e)) (hi:P.info? e=some i) (hz:i.zero=some z)
  (hsize:i.size=1) (hby:i.bytes=bytes) (hzs:z.cells.size=1)
  (v:Value) (n:Nat) (xs:List Value) (hs:a.eval s=v) (hown:w.ownsRow base e 1 v n xs)
  (v2:Value) (m:Nat) (news:List Value) (hx:a.eval x=v2) (hown2:w.ownsRow B2 e 1 v2 m news) (h1:∀ u ∈ news,u.oneCell'=true)
  (h63:n+m≤maxLen) (hbytes:(n+m) * bytes≤140737488355328) (hbase:base≤w.heap.size)
  (h:∀ v' w',w'.ownsRow base e 1 v' (n+m) (xs++news)→w.grownBy w' v.ownBlock→wpList P ops Q rest (a.put o.dst v') w'):wpList P ops Q (o::rest) a w:=by
 rcases Nat.eq_zero_or_pos m with rfl|hm
 ·have hnews:news=[]:=List.length_eq_zero_iff.1 (by rw[hown2.1]);subst hnews;obtain⟨ad,k,rfl⟩:=srow_form hown2
  have hk:=h v w (by rw[List.append_nil];exact hown) ⟨rfl,rfl,rfl,Nat.le_refl _,fun _ _ _=>rfl⟩
  refine wpList_plain hgd fun K hK=>?_;have hrun:=run_app_none (P:=P) (w:=w) base t o.type e i 1 ht hi v n xs hown ad k;unfold Oper.wp;simp[execOp,ho,resolve,invoke,builtin,hs,hx,hrun,Result.andThen]
  exact hK _ _ hk
 ·obtain⟨g,cap,rfl,_,_⟩:=hown2.form hm
  refine wpList_append_lies w hgd s x t ho base e i z 1 bytes ht hi hz hsize hby hzs (by decide) v n xs hs hown ⟨g,0,none⟩ m cap news hx hown2.1 (fun j u hj=>?_) h1 hm h63 hbytes hbase _ rfl (fun g' cap' w' a b _ _=>h _ _ a b)
  exact zbfh
def namesT (t:Tr)(body:Bool):List ByteArray:=onceL ((if body then varsT t else [])++(fnsT t).map Tr.tx++(letsT t).map Tr.tx)
theorem fns_len (t:Tr):(fnsT t).length≤t.kids.length:=List.length_filter_le _ _
theorem lets_len (t:Tr):(letsT t).length≤t.kids.length:=List.length_filter_le _ _
theorem vars_len (t:Tr):(varsT t).length≤Tr.counts t.kids:=Nat.le_trans (once_len _) (vws_len _)
theorem names_any (t:Tr)(p:Nat)(body:Bool)(w:World)(h:NTr w t p)(hc:t.count≤20000) :
  Calls Tryz.prog 113 #[nPtr p,.bool body] w fun e w'=>(∃ u,e=.returned u∧SRow w.heap.size w' u (namesT t body))∧Below w.heap.size w w':=by
 obtain⟨i0,hi0,hz0,hz1,hz2⟩:=info_parts info9
 have htc:t.count=1+Tr.counts t.kids:=by cases t with|mk kd tx nn ks=>exact count_mk _ _ _ _
 have hkl:t.kids.length≤20000:=by have:=counts_len t.kids;omega
 have hfl:=fns_len t
 have hll:=lets_len t
 have hvl:=vars_len t
 have HN0:=hide h
 unfold namesT
 obtain⟨F,hF⟩:∃ F,F=(fnsT t).map Tr.tx:=⟨_,rfl⟩
 have hFl:F.length≤20000:=by rw[hF,List.length_map];omega
 obtain⟨G,hG⟩:∃ G,G=(letsT t).map Tr.tx:=⟨_,rfl⟩
 have hGl:G.length≤20000:=by rw[hG,List.length_map];omega
 rw[←hF,←hG]
 have HFF:=hide hF
 have HGG:=hide hG
 clear hF hG
 cases body with
 | true=>
  have HC0:=hide (vars_any t p w h (by omega));clear h;simp only[if_true];obtain⟨V,hV⟩:∃ V,V=varsT t:=⟨_,rfl⟩;have hVl:V.length≤20000:=by rw[hV];omega
  rw[←hV] at HC0 ⊢;clear hV htc hvl;obtain⟨VF,hVF⟩:∃ VF,VF=V++F:=⟨_,rfl⟩;obtain⟨VFG,hVFG⟩:∃ VFG,VFG=VF++G:=⟨_,rfl⟩;rw[←hVF,←hVFG]
  have hvf:VF.length≤40000:=by rw[hVF,List.length_append];omega
  have hvfg:VFG.length≤60000:=by rw[hVFG,List.length_append];omega
  have HVF:=hide hVF;have HVFG:=hide hVFG;clear hVF hVFG;go_enter Tryz.func113,Tryz.ntmps113;go_wp2_with fail;refine cm HC0.out ?_;rintro e w1 ⟨⟨u1,rfl,hr1⟩,hb1⟩;obtain⟨a1,c1,rfl⟩:=srow_form hr1
  have HB1:=hide hb1;have HN1:=hide (HN0.out.later hb1);have HV1:=hide hr1;clear HC0 hr1 hb1;have HC:=hide (funcs_any t p w1 HN1.out (by omega));exact zbar
 | false=>
  simp only[Bool.false_eq_true,if_false];obtain⟨V,hV⟩:∃ V:List ByteArray,V=[]:=⟨_,rfl⟩;have hVl:V.length≤20000:=by rw[hV];simp
  have HB1:Hid (Below w.heap.size w w):=Below.refl _ _;have HN1:Hid (NTr w t p):=h;have HV1:Hid (SRow w.heap.size w (.slice none 0 0) V):=by rw[hV];exact srow_nil _ _
  have HGO:Hid (∀ l,l=[]++F++G→l=V++F++G):=fun l hl=>by rw[hl,hV]
  rw[unhide HGO _ rfl];clear h hV htc hvl HGO;obtain⟨VF,hVF⟩:∃ VF,VF=V++F:=⟨_,rfl⟩;obtain⟨VFG,hVFG⟩:∃ VFG,VFG=VF++G:=⟨_,rfl⟩;rw[←hVF,←hVFG]
  have hvf:VF.length≤40000:=by rw[hVF,List.length_append];omega
  have hvfg:VFG.length≤60000:=by rw[hVFG,List.length_append];omega
  have HVF:=hide hVF;have HVFG:=hide hVFG;clear hVF hVFG;go_enter Tryz.func113,Tryz.ntmps113;have HC:=hide (funcs_any t p w HN1.out (by omega));exact zbar
theorem cell_lt {w:World}{b o:Nat}{v:Value}(h:w.cell? ⟨b,o,none⟩=some v):b<w.heap.size:=by
 exact zbgj
theorem keepC {w X:World}{b o:Nat}{v:Value}(hb:Below w.heap.size w X)(h:w.cell? ⟨b,o,none⟩=some v):X.cell? ⟨b,o,none⟩=some v:=
 (World.cell?_of_block (w:=w) (a:=⟨b,o,none⟩) (hb.block b (cell_lt h))).trans h
abbrev tEval:ByteArray:=⟨#[101,118,97,108]⟩
abbrev tArgs:ByteArray:=⟨#[97,114,103,117,109,101,110,116,115]⟩
def erV:Option Int→Value
 | none=>.nilIface
 | some e=>.iface 31 (.int .i64 e)
abbrev plV (s i b:Bool):Value:=.agg #[.bool s,.bool i,.bool b]
def isSp (x:ByteArray):Bool:=decide (x=tEval)||decide (x=tArgs)
def nmE (s:Bool)(x:ByteArray):Option Int:=if s&&isSp x then some 5 else none
def strictT (t:Tr):Bool:=(t.kd==1||t.kd==6)&&decide (t.tx=tStrict)
theorem strictE_any (t:Tr)(p:Nat)(w:World)(h:NTr w t p):Calls Tryz.prog 118 #[nPtr p] w fun e w'=>e=.returned (.bool (strictT t))∧w'=w:=by
 obtain⟨hpl,c0,c1,_⟩:=h.cells
 clear h
 unfold strictT
 generalize t.kd=kd at c0
 generalize t.tx=tx at c1
 by_cases h2:tx=tStrict
 ·have e2:=tl_eqL (b:=tStrict) rfl h2;rw[decide_eq_true h2];exact zbgm
 ·have e2:=tl_neL (b:=tStrict) rfl h2;rw[decide_eq_false h2];exact zbgm
def kidT (t:Tr)(k:Nat):Tr:=t.kids.getD k t
def declK (t:Tr):Bool:=t.kd==3||t.kd==4||t.kd==5
end Go.Proofs.YtoimgcjbcbhclaaGreatDoor
