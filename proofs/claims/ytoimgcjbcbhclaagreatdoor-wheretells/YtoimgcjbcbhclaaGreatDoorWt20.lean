/-
  Arguments, parameters, properties, objects, functions, what stands behind a head.
-/
import Derived.Test.YtoimgcjbcbhclaaGreatDoorWt19
import Derived.MapKept
import Derived.Deep.MidRow
import Derived.Laws.AppendOwnNone
set_option maxRecDepth 100000
set_option maxHeartbeats 16000000
namespace Go.Proofs.YtoimgcjbcbhclaaGreatDoor
open Go.RowKit
def FOk (F:Fns):Prop:=∀ d i t j,F.st d i=.ok t j→t.kd=15→∃ v r,t.kids=v::r
theorem deepP_ok {l:List Tk}{f:Nat→Nat→PR Tr}{d i j:Nat}{t:Tr}(h:deepP l f d i=.ok t j):f (d+1) i=.ok t j:=by
 unfold deepP at h
 split at h
 ·
  cases h
 ·exact h
section
variable {l:List Tk} {F:Fns} (hF:FOk F)
include l F hF
theorem blockLoop_all {d:Nat}:∀ n acc i ts j,(∀ t ∈ acc,t.kd=15→∃ v r,t.kids=v::r)→blockLoop l F d n acc i=.ok ts j→∀ t ∈ ts,t.kd=15→∃ v r,t.kids=v::r:=by
 intro n
 induction n with
 | zero=>intro acc i ts j _ h;cases h
 | succ n ih=>
  intro acc i ts j hacc h;unfold blockLoop at h
  split at h
  ·
   cases h;exact hacc
  ·
   cases hr:deepP l F.st d i with
   | out=>rw[hr] at h;cases h
   | bad er p=>rw[hr] at h;cases h
   | ok t j1=>
    rw[hr,bind_ok] at h;refine ih _ _ _ _ (fun u hu=>?_) h
    rcases List.mem_append.1 hu with hu|hu
    ·exact hacc u hu
    ·rw[List.mem_singleton] at hu;subst hu;exact hF _ _ _ _ (deepP_ok hr)
theorem blockP_exprOk {d i j:Nat}{t:Tr}(h:blockP l F d i=.ok t j):ExprOk t:=by
 unfold blockP at h
 cases hm:mustP l tLBrace i with
 | out=>rw[hm] at h;cases h
 | bad er p=>rw[hm] at h;cases h
 | ok x j1=>
  rw[hm,bind_ok] at h
  cases hb:blockLoop l F d F.fuel [] j1 with
  | out=>rw[hb] at h;cases h
  | bad er p=>rw[hb] at h;cases h
  | ok ts j2=>
   rw[hb,bind_ok] at h;cases h;intro k1 r hk h15;have hk':ts=k1::r:=hk;exact blockLoop_all hF _ _ _ _ _ (fun _ hu=>absurd hu (by simp)) hb k1 (by rw[hk'];simp) h15
end
theorem en183:∀ args W,(callFunc 247 args).run Tryz.prog W=.ok (.enter 247 args) W:=fun _ _=>by kernel_rfl
theorem en218:∀ args W,(callFunc 282 args).run Tryz.prog W=.ok (.enter 282 args) W:=fun _ _=>by kernel_rfl
theorem en184:∀ args W,(callFunc 248 args).run Tryz.prog W=.ok (.enter 248 args) W:=fun _ _=>by kernel_rfl
theorem asksName (c:Ctx):Asks c 247 (isName c.l):=fun w d i h=>atName_any c w i d h
section
variable {c:Ctx}
include c
open zrqq in
theorem arg_any {F:Fns}(hF:FC c F):Does c 313 NV (argP c.l F):=by
 have hmf:=mf_bound c.R 243
 intro w d i r hs ho h
 have HR0:=hide h
 have HA0:=hide (Ap.refl c.R w.heap.size w)
 have HLT:=hide h.rlt
 unfold argP at hs
 have HS:=hide hs
 have HO:=hide ho
 clear h hs ho
 go_enter Tryz.func313,Tryz.ntmps313
 cases hr:deepP c.l F.vl d i with
 | out=>
  rw[hr] at HS;exact absurd HS.out.symm HO.out
 | bad er p=>
  have HC:=hide (deepV hF w d i HR0.out (by rw[hr];nofun))
  rw[hr] at HC HS;exact zcck
 | ok x1 j1=>
  have HC:=hide (deepV hF w d i HR0.out (by rw[hr];nofun))
  rw[hr] at HC HS;exact zrdg
open zrqn in
theorem param_any:Does c 282 NV (fun _=>paramP c.l):=by
 intro w d i r hs ho h
 have HR0:=hide h
 have HA0:=hide (Ap.refl c.R w.heap.size w)
 have HLT:=hide h.rlt
 dsimp only at hs
 unfold paramP at hs
 have HS:=hide hs
 have HO:=hide ho
 clear h hs ho
 go_enter Tryz.func282,Tryz.ntmps282
 exact zeao
open zrqo in
theorem prop_any {F:Fns}(hF:FC c F):Does c 248 NV (propP c.l F):=by
 have hmf:=mf_bound c.R 243
 intro w d i r hs ho h
 have HR0:=hide h
 have HA0:=hide (Ap.refl c.R w.heap.size w)
 have HLT:=hide h.rlt
 unfold propP at hs
 have HS:=hide hs
 have HO:=hide ho
 clear h hs ho
 go_enter Tryz.func248,Tryz.ntmps248
 exact zeao
theorem paramP_go (hE:Ends c.l)(d i:Nat)(t:Tr)(j:Nat)(hi:i<c.l.length)(h:(fun(_:Nat)=>paramP c.l) d i=.ok t j):i<j:=((paramP_nx (q:=True) hE hi).2 t j h).1
theorem propP_go {F:Fns}{k:Nat}(hN:FNx c.l k F)(hE:Ends c.l)(d i:Nat)(t:Tr)(j:Nat)(hi:i<c.l.length)(h:propP c.l F d i=.ok t j):i<j:=((propP_nx (q:=False) hE hN hi (fun h=>h.elim)).2 t j h).1
theorem argP_go {F:Fns}{k:Nat}(hN:FNx c.l k F)(d i:Nat)(t:Tr)(j:Nat)(hi:i<c.l.length)(h:argP c.l F d i=.ok t j):i<j:=((argP_nx (q:=False) hN hi (fun h=>h.elim)).2 t j h).1
open zrqr in
theorem params_any {F:Fns}:Does c 245 NV (fun _=>paramsP c.l F):=by
 have hmf:=mf_bound c.R 247
 have hmf2:=mf_bound c.R 282
 intro w d i r hs ho h
 have HE:=hide h.base.ends
 have HR0:=hide h
 have HA0:=hide (Ap.refl c.R w.heap.size w)
 have HLT:=hide h.rlt
 dsimp only at hs
 unfold paramsP at hs
 have HS:=hide hs
 have HO:=hide ho
 clear h hs ho
 go_enter Tryz.func245,Tryz.ntmps245
 cases hr:listP c.l tOpen tShut (isName c.l) (paramP c.l) F.fuel i with
 | out=>
  exact zbal
 | bad er p=>
  have HC:=hide (list_any 247 282 (isName c.l) (fun _=>paramP c.l) tOpen tShut (asksName c) param_any en183 en218 (by decide) (by decide) (paramP_go HE.out) F.fuel w d i _ rfl (by rw[hr];nofun) HR0.out)
  exact zbax
 | ok x1 j1=>
  have HC:=hide (list_any 247 282 (isName c.l) (fun _=>paramP c.l) tOpen tShut (asksName c) param_any en183 en218 (by decide) (by decide) (paramP_go HE.out) F.fuel w d i _ rfl (by rw[hr];nofun) HR0.out)
  exact zrdn
open zrqs in
theorem object_any {F:Fns}(hF:FC c F)(hN:∃ k,FNx c.l k F):Does c 172 NV (objectP c.l F):=by
 have hmf:=mf_bound c.R 247
 have hmf2:=mf_bound c.R 248
 obtain⟨k,hN⟩:=hN
 intro w d i r hs ho h
 have HE:=hide h.base.ends
 have HNX:=hide hN
 clear hN
 have HR0:=hide h
 have HA0:=hide (Ap.refl c.R w.heap.size w)
 have HLT:=hide h.rlt
 unfold objectP at hs
 have HS:=hide hs
 have HO:=hide ho
 clear h hs ho
 go_enter Tryz.func172,Tryz.ntmps172
 cases hr:listP c.l tLBrace tRBrace (isName c.l) (propP c.l F d) F.fuel i with
 | out=>
  exact zbal
 | bad er p=>
  have HC:=hide (list_any 247 248 (isName c.l) (propP c.l F) tLBrace tRBrace (asksName c) (prop_any hF) en183 en184 (by decide) (by decide) (propP_go HNX.out HE.out) F.fuel w d i _ rfl (by rw[hr];nofun) HR0.out)
  exact zbax
 | ok x1 j1=>
  have HC:=hide (list_any 247 248 (isName c.l) (propP c.l F) tLBrace tRBrace (asksName c) (prop_any hF) en183 en184 (by decide) (by decide) (propP_go HNX.out HE.out) F.fuel w d i _ rfl (by rw[hr];nofun) HR0.out)
  exact zrdn
open zrqp in
theorem empty_any:Does c 166 NV (fun _ i=>(mustP c.l tSemi i).bind fun _ i1=>.ok (.mk 16 noText 0 []) i1):=by
 intro w d i r hs ho h
 have HR0:=hide h
 have HA0:=hide (Ap.refl c.R w.heap.size w)
 have HLT:=hide h.rlt
 dsimp only at hs
 have HS:=hide hs
 have HO:=hide ho
 clear h hs ho
 go_enter Tryz.func166,Tryz.ntmps166
 cases hr:mustP c.l tSemi i with
 | out=>
  exact zbal
 | bad er p=>
  have HC:=hide (must_any c tSemi w i d HR0.out (by decide));exact zbax
 | ok x1 j1=>
  have HC:=hide (must_any c tSemi w i d HR0.out (by decide));exact zrcf
end
theorem mapOf_snoc (l:List (ByteArray × Value))(k:ByteArray)(v:Value):(mapOf l).push { key:=.string k,val:=v,born:=l.length }=mapOf (l++[(k,v)]):=by
 unfold mapOf
 rw[List.zipIdx_append,List.map_append]
 simp[mkE,List.zipIdx]
def setMap (W:World)(m:Nat)(o:Obj):World:={ W with heap:=W.heap.setIfInBounds m o }
theorem setMap_size (W:World)(m:Nat)(o:Obj):(setMap W m o).heap.size=W.heap.size:=by simp[setMap]
theorem setMap_at {W:World}{m:Nat}{o:Obj}(h:m<W.heap.size):(setMap W m o).heap[m]? = some o:=by simp[setMap,h]
theorem setMap_other {W:World}{m k:Nat}{o:Obj}(h:k≠m):(setMap W m o).heap[k]? = W.heap[k]?:=by simp[setMap,Ne.symm h]
theorem setMap_below {B:Nat}{w W:World}{m:Nat}{o:Obj}(h:Below B w W)(hm:B≤m):Below B w (setMap W m o):=
 ⟨h.os,h.tape,h.output,by rw[setMap_size];exact h.size,fun k hk=>by rw[setMap_other (by omega)];exact h.block k hk⟩
theorem update_new (T E:TypeId)(m:Nat)(l:List (ByteArray × Value))(s:ByteArray)(v:Value)(W:World)(hT:Tryz.prog.underlying T=some (.map 9 E))(hm:W.heap[m]? = some (.map (mapOf l) l.length))(hn:l.find? (fun e=>decide (s=e.1))=none) :
  (Instr.mapUpdate T (.map (some m)) (.string s) v).run Tryz.prog W=.ok () (setMap W m (.map (mapOf (l++[(s,v)])) (l.length+1))):=by
 obtain⟨o,h1,h2⟩:=find_ents s l 0 0
 have h9:=Tryz.underlying9
 have ho:o=none:=by
  rw[hn] at h2
  cases o with
  | none=>rfl
  | some y=>simp at h2
 subst ho
 have h3:(Instr.findKey 9 (.string s) (mapOf l).toList).run Tryz.prog W=.ok none W:=by
  unfold Instr.findKey;rw[Sem.run_bind,run_underlying h9 W];simp only[Result.andThen_ok,mapOf];rw[h1];rfl
 have hck:∀ b,(Instr.checkKey b 10000 9 (.string s)).run Tryz.prog W=.ok () W:=by
  intro b;rw[Instr.checkKey,Sem.run_bind,run_underlying h9 W];rfl
 have hg:(getObj m).run Tryz.prog W=.ok (.map (mapOf l) l.length) W:=by simp[getObj,Sem.run,hm]
 unfold Instr.mapUpdate
 rw[Sem.run_bind,run_underlying hT W]
 simp only[Result.andThen_ok,Sem.run_bind,hg,hck,h3]
 rw[mapOf_snoc]
 simp[setObj,Sem.run,hm,setMap]
theorem mkMap (T:TypeId)(W:World):(Instr.makeMap T none).run Tryz.prog W=.ok (.map (some W.heap.size)) (W.alloc (.map #[] 0)):=rfl
def sgCells:Array Value:=(sgs.flatMap fun e=>[.string e.tx,.int .i64 e.kd,.int .i64 e.parts,.int .i64 e.str]).toArray
theorem sgSize:sgCells.size=56:=by decide +kernel
theorem sgIdx (k:Nat)(hk:k<14)(W:World):(Instr.index 190 (.agg sgCells) (.int .i64 (k:Int))).run Tryz.prog W=.ok (sgV (sgs.getD k ⟨noText,0,0,0⟩)) W:=by
 have h:k=0∨k=1∨k=2∨k=3∨k=4∨k=5∨k=6∨k=7∨k=8∨k=9∨k=10∨k=11∨k=12∨k=13:=by omega
 rcases h with rfl|rfl|rfl|rfl|rfl|rfl|rfl|rfl|rfl|rfl|rfl|rfl|rfl|rfl <;> (show _=_;kernel_rfl)
def sgL (j:Nat):List (ByteArray × Value):=(sgs.take j).map fun e=>(e.tx,sgV e)
theorem sgL_len {j:Nat}(hj:j≤14):(sgL j).length=j:=by
 unfold sgL
 rw[List.length_map,List.length_take]
 have:sgs.length=14:=rfl
 omega
theorem sgL_next {j:Nat}(hj:j<14):sgL (j+1)=sgL j++[((sgs.getD j ⟨noText,0,0,0⟩).tx,sgV (sgs.getD j ⟨noText,0,0,0⟩))]:=by
 have h:j=0∨j=1∨j=2∨j=3∨j=4∨j=5∨j=6∨j=7∨j=8∨j=9∨j=10∨j=11∨j=12∨j=13:=by omega
 rcases h with rfl|rfl|rfl|rfl|rfl|rfl|rfl|rfl|rfl|rfl|rfl|rfl|rfl|rfl <;> rfl
theorem sgL_new {j:Nat}(hj:j<14):(sgL j).find? (fun e=>decide ((sgs.getD j ⟨noText,0,0,0⟩).tx=e.1))=none:=by
 have key:∀ j,j<14→((sgs.take j).map (·.tx)).find? (fun e=>decide ((sgs.getD j ⟨noText,0,0,0⟩).tx=e))=none:=by decide +kernel
 have:=key j hj
 unfold sgL
 rw[List.find?_map] at this ⊢
 simpa[Function.comp_def] using this
theorem signsByText_any (w:World)(t:TypeId)(fr:Nat × Nat)(hg:w.heap[2]? = some (.cells sgCells t fr)) :
  Calls Tryz.prog 162 #[] w fun e w'=>e=.returned (.map (some w.heap.size))∧w'.heap[w.heap.size]? = some (.map sgMap 14)∧Below w.heap.size w w':=by
 have HG:Hid ((w.alloc (.map #[] 0)).heap[2]? = some (.cells sgCells t fr)):=(Below.heap_alloc w _ 2 (lt_of_heap hg)).trans hg
 obtain⟨cs,hcs⟩:∃ cs,cs=sgCells:=⟨_,rfl⟩
 have hix:∀ k:Nat,k<14→∀ W,(Instr.index 190 (.agg cs) (.int .i64 (k:Int))).run Tryz.prog W=.ok (sgV (sgs.getD k ⟨noText,0,0,0⟩)) W:=by rw[hcs];exact sgIdx
 have hsz:cs.size=56:=by rw[hcs];exact sgSize
 rw[←hcs] at HG
 have HIX:=hide hix
 have Hsz:=hide hsz
 have hmk:=mkMap 199
 clear hg hix hcs hsz
 go_enter Tryz.func162,Tryz.ntmps162
 go_wp2_with (refine wpList_load_row rfl 190 _ rfl 2 rfl t cs fr _ HG.out Tryz.underlying190 rfl (by rw[Hsz.out];kernel_rfl) ?_)
 go_loopw [6] (fun i wr=>∃ j:Nat,j≤14∧i=.int .i64 j∧wr.heap[w.heap.size]? = some (.map (mapOf (sgL j)) j)∧Below w.heap.size w wr) (fun i _=>14 - (intOf i).toNat)
 case atStart=>exact⟨0,Nat.zero_le _,rfl,heap_new _ _,(Below.refl _ _).alloc (Nat.le_refl _) _⟩
 case round=>
  obtain⟨j,hj,rfl,hm,hb⟩:=hrel;have HM:=hide hm;have HB:=hide hb;clear hm hb
  by_cases hlt:j<14
  ·have hck:=unhide HIX j hlt;obtain⟨x,hx⟩:∃ x,x=sgs.getD j ⟨noText,0,0,0⟩:=⟨_,rfl⟩
   have hm2:(wr.alloc (.cells #[.string x.tx,.int .i64 x.kd,.int .i64 x.parts,.int .i64 x.str] 189)).heap[w.heap.size]? = some (.map (mapOf (sgL j)) (sgL j).length):=by
    rw[sgL_len (by omega)];exact(Below.heap_alloc _ _ _ (lt_of_heap HM.out)).trans HM.out
   have hup:=update_new 199 189 w.heap.size (sgL j) x.tx (sgV x) _ Tryz.underlying199 hm2 (by rw[hx];exact sgL_new hlt)
   rw[←hx] at hck;have HX:=hide hx;have HM2:=hide hm2;simp only[sgV] at hck hup;clear hx hm2;go_wp2_with fail
   go_roundw
   case rel=>
    refine⟨j+1,by omega,by go_num,?_,setMap_below (HB.out.alloc HB.out.size _) (Nat.le_refl _)⟩;rw[setMap_at (by simp;have:=HB.out.size;omega),sgL_next hlt,←HX.out,sgL_len (by omega)]
    rfl
   case measure=>simp[intOf];omega
  ·have hj14:j=14:=by omega
   subst hj14;go_wp2_with fail;go_ret;exact⟨rfl,HM.out,HB.out⟩
theorem setMap_twice (W:World)(m:Nat)(a b:Obj):setMap (setMap W m a) m b=setMap W m b:=by simp[setMap]
theorem upd (T E:TypeId)(m:Nat)(W:World)(l:List (ByteArray × Value))(s:ByteArray)(v:Value)(hT:Tryz.prog.underlying T=some (.map 9 E))(hm:m<W.heap.size)(hn:l.find? (fun e=>decide (s=e.1))=none) :
  (Instr.mapUpdate T (.map (some m)) (.string s) v).run Tryz.prog (setMap W m (.map (mapOf l) l.length))=.ok () (setMap W m (.map (mapOf (l++[(s,v)])) (l.length+1))):=by
 rw[update_new T E m l s v _ hT (setMap_at hm) hn,setMap_twice]
theorem upd0 (T E:TypeId)(m:Nat)(W:World)(s:ByteArray)(v:Value)(hT:Tryz.prog.underlying T=some (.map 9 E))(hm:W.heap[m]? = some (.map #[] 0)) :
  (Instr.mapUpdate T (.map (some m)) (.string s) v).run Tryz.prog W=.ok () (setMap W m (.map (mapOf [(s,v)]) 1)):=
 update_new T E m [] s v W hT hm rfl
theorem reader_made {w w1 X Y Z V:World}{l:List Tk}{tb cap R mS:Nat}{cur:Array Value}(hE:Ends l)(h0:0<l.length)(hl:l.length≤3001)(ht:w.heap[tb]? = some (.cells cur 138 (0,0)))(hcap:l.length≤cap∧cap≤maxLen∧cur.size=cap * 4∧cur.toList.take (l.length * 4)=tksCells l)
  (hh:∃ t fr,w.heap[3]? = some (.cells hdCells t fr)) (hS:w1.heap[mS]? = some (.map sgMap 14)) (hSm:mS=w.heap.size) (hb:Below w.heap.size w w1) (hR:R=w1.heap.size)
  (hX:X=setMap ((w1.alloc (.cells #[.slice (some ⟨tb,0,none⟩) l.length cap,.int .i64 0,.int .i64 0,.map (some mS),.map none,.map none] 203)).alloc (.map #[] 0)) (R+1) (.map (stMap R) 12))
  (hY:Y=X.setCell ⟨R,4,none⟩ (.map (some (R+1)))) (hZ:Z=setMap (Y.alloc (.map #[] 0)) (R+2) (.map (vlMap R) 3)) (hV:V=Z.setCell ⟨R,5,none⟩ (.map (some (R+2)))) :
  Rdr ⟨R,l,tb,cap,mS,R+1,R+2,R+3⟩ V 0 0∧Below w.heap.size w V:=by
 have hsz:=hb.size
 have ltb:=lt_of_heap ht
 obtain⟨t4,fr4,hh⟩:=hh
 have l4:=lt_of_heap hh
 have lmS:=lt_of_heap hS
 have sX:X.heap.size=R+2:=by rw[hX,setMap_size,hR];simp
 have sY:Y.heap.size=R+2:=by rw[hY,World.size_setCell,sX]
 have sZ:Z.heap.size=R+3:=by rw[hZ,setMap_size];simp[sY]
 have sV:V.heap.size=R+3:=by rw[hV,World.size_setCell,sZ]
 have xl:∀ b,b<R→X.heap[b]? = w1.heap[b]?:=fun b hb=>by
  rw[hX,setMap_other (by omega),Below.heap_alloc _ _ b (by simp;omega),Below.heap_alloc _ _ b (by omega)]
 have xR:X.heap[R]? = some (.cells #[.slice (some ⟨tb,0,none⟩) l.length cap,.int .i64 0,.int .i64 0,.map (some mS),.map none,.map none] 203 (0,0)):=by
  rw[hX,setMap_other (by omega),Below.heap_alloc _ _ R (by simp;omega),hR]
  exact heap_new _ _
 have xT:X.heap[R+1]? = some (.map (stMap R) 12):=by rw[hX,setMap_at (by simp;omega)]
 have vl:∀ b,b<R→V.heap[b]? = w1.heap[b]?:=fun b hb=>by
  rw[hV,Below.heap_setCell Z ⟨R,5,none⟩ _ b (by simp;omega),hZ,setMap_other (by omega),Below.heap_alloc _ _ b (by omega),hY,Below.heap_setCell X ⟨R,4,none⟩ _ b (by simp;omega)]
  exact xl b hb
 have zR:Z.heap[R]? = some (.cells #[.slice (some ⟨tb,0,none⟩) l.length cap,.int .i64 0,.int .i64 0,.map (some mS),.map (some (R+1)),.map none] 203 (0,0)):=by
  rw[hZ,setMap_other (by omega),Below.heap_alloc _ _ R (by omega),hY,heap_set xR];rfl
 have vR:V.heap[R]? = some (.cells #[.slice (some ⟨tb,0,none⟩) l.length cap,.int .i64 0,.int .i64 0,.map (some mS),.map (some (R+1)),.map (some (R+2))] 203 (0,0)):=by
  rw[hV,heap_set zR];rfl
 have vT:V.heap[R+1]? = some (.map (stMap R) 12):=by
  rw[hV,Below.heap_setCell Z ⟨R,5,none⟩ _ (R+1) (by simp),hZ,setMap_other (by omega),Below.heap_alloc _ _ (R+1) (by omega),hY,Below.heap_setCell X ⟨R,4,none⟩ _ (R+1) (by simp)];exact xT
 have vV:V.heap[R+2]? = some (.map (vlMap R) 3):=by
  rw[hV,Below.heap_setCell Z ⟨R,5,none⟩ _ (R+2) (by simp),hZ,setMap_at (by simp;omega)]
 have lw:∀ b,b<w.heap.size→V.heap[b]? = w.heap[b]?:=fun b h=>(vl b (by omega)).trans (hb.block b h)
 refine⟨⟨⟨hE,⟨cur,(lw tb ltb).trans ht,hcap⟩,?_,(vl mS (by omega)).trans hS,?_,vT,?_,vV,?_,hl,⟨t4,fr4,(lw 3 l4).trans hh⟩,?_,?_,?_⟩,vR,h0,by decide⟩,?_⟩
 ·show tb≠R;omega
 ·show mS≠R;omega
 ·show R+1≠R;omega
 ·show R+2≠R;omega
 ·show 3≠R;omega
 ·show tb<R+3∧mS<R+3∧R+1<R+3∧R+2<R+3∧3<R+3∧R<R+3;omega
 ·show R+3≤V.heap.size;omega
 ·have bX:Below w.heap.size w X:=by rw[hX];exact setMap_below ((hb.alloc hsz _).alloc (by simp;omega) _) (by omega)
  have bY:Below w.heap.size w Y:=by rw[hY];exact bX.setCell (p:=⟨R,4,none⟩) (by show w.heap.size≤R;omega) _
  have bZ:Below w.heap.size w Z:=by rw[hZ];exact setMap_below (bY.alloc bY.size _) (by omega)
  rw[hV];exact bZ.setCell (p:=⟨R,5,none⟩) (by show w.heap.size≤R;omega) _
theorem newReader_any (w:World)(l:List Tk)(tb cap:Nat)(cur:Array Value)(hE:Ends l)(h0:0<l.length)(hl:l.length≤3001)(ht:w.heap[tb]? = some (.cells cur 138 (0,0)))(hcap:l.length≤cap∧cap≤maxLen∧cur.size=cap * 4∧cur.toList.take (l.length * 4)=tksCells l)
  (hh:∃ t fr,w.heap[3]? = some (.cells hdCells t fr)) (hs3:∃ t fr,w.heap[2]? = some (.cells sgCells t fr)) :
  Calls Tryz.prog 102 #[.slice (some ⟨tb,0,none⟩) l.length cap] w fun e w'=>∃ c:Ctx,e=.returned (rPtr c)∧c.l=l∧w.heap.size≤c.R∧Rdr c w' 0 0∧Below w.heap.size w w':=by
 obtain⟨t3,fr3,hs3⟩:=hs3
 have HC:=hide (signsByText_any w t3 fr3 hs3)
 have HMK:=fun(w1 X Y Z V:World) (R:Nat)=>reader_made (w:=w) (w1:=w1) (X:=X) (Y:=Y) (Z:=Z) (V:=V) (R:=R) (mS:=w.heap.size) hE h0 hl ht hcap hh
 have HMADE:=hide HMK
 have hmk:=mkMap 201
 clear hs3 HMK hE h0 hl ht hcap hh
 go_enter Tryz.func102,Tryz.ntmps102
 go_wp2_with fail
 refine cm HC.out ?_
 rintro e w1 ⟨rfl,hm1,hb1⟩
 clear HC
 have HM1:=hide hm1
 have HB1:=hide hb1
 clear hm1 hb1
 have s0:((w1.alloc (.cells #[.slice (some ⟨tb,0,none⟩) l.length cap,.int .i64 0,.int .i64 0,.map (some w.heap.size),.map none,.map none] 203)).alloc (.map #[] 0)).heap.size=w1.heap.size+2:=by simp
 have m0:((w1.alloc (.cells #[.slice (some ⟨tb,0,none⟩) l.length cap,.int .i64 0,.int .i64 0,.map (some w.heap.size),.map none,.map none] 203)).alloc (.map #[] 0)).heap[w1.heap.size+1]? = some (.map #[] 0):=by
  have:=heap_new (w1.alloc (.cells #[.slice (some ⟨tb,0,none⟩) l.length cap,.int .i64 0,.int .i64 0,.map (some w.heap.size),.map none,.map none] 203)) (.map #[] 0);simpa using this
 have rA:(w1.alloc (.cells #[.slice (some ⟨tb,0,none⟩) l.length cap,.int .i64 0,.int .i64 0,.map (some w.heap.size),.map none,.map none] 203)).heap[w1.heap.size]? = some (.cells #[.slice (some ⟨tb,0,none⟩) l.length cap,.int .i64 0,.int .i64 0,.map (some w.heap.size),.map none,.map none] 203):=heap_new _ _
 obtain⟨X1,hX1⟩:∃ X,X=setMap ((w1.alloc (.cells #[.slice (some ⟨tb,0,none⟩) l.length cap,.int .i64 0,.int .i64 0,.map (some w.heap.size),.map none,.map none] 203)).alloc (.map #[] 0)) (w1.heap.size+1) (.map (mapOf [(tVar,.func (.func 163) #[.pointer (some ⟨w1.heap.size,0,none⟩)] #[])]) 1):=⟨_,rfl⟩
 have u1:(Instr.mapUpdate 201 (.map (some (w1.heap.size+1))) (.string tVar) (.func (.func 163) #[.pointer (some ⟨w1.heap.size,0,none⟩)] #[])).run Tryz.prog ((w1.alloc (.cells #[.slice (some ⟨tb,0,none⟩) l.length cap,.int .i64 0,.int .i64 0,.map (some w.heap.size),.map none,.map none] 203)).alloc (.map #[] 0))=.ok () X1:=by rw[hX1];exact upd0 201 261 (w1.heap.size+1) _ _ _ Tryz.underlying201 m0
 obtain⟨X2,hX2⟩:∃ X,X=setMap ((w1.alloc (.cells #[.slice (some ⟨tb,0,none⟩) l.length cap,.int .i64 0,.int .i64 0,.map (some w.heap.size),.map none,.map none] 203)).alloc (.map #[] 0)) (w1.heap.size+1) (.map (mapOf [(tVar,.func (.func 163) #[.pointer (some ⟨w1.heap.size,0,none⟩)] #[]),(tLet,.func (.func 163) #[.pointer (some ⟨w1.heap.size,0,none⟩)] #[])]) 2):=⟨_,rfl⟩
 have u2:(Instr.mapUpdate 201 (.map (some (w1.heap.size+1))) (.string tLet) (.func (.func 163) #[.pointer (some ⟨w1.heap.size,0,none⟩)] #[])).run Tryz.prog X1=.ok () X2:=by rw[hX1,hX2];exact upd 201 261 (w1.heap.size+1) _ [(tVar,.func (.func 163) #[.pointer (some ⟨w1.heap.size,0,none⟩)] #[])] _ _ Tryz.underlying201 (by rw[s0];omega) (by rfl)
 obtain⟨X3,hX3⟩:∃ X,X=setMap ((w1.alloc (.cells #[.slice (some ⟨tb,0,none⟩) l.length cap,.int .i64 0,.int .i64 0,.map (some w.heap.size),.map none,.map none] 203)).alloc (.map #[] 0)) (w1.heap.size+1) (.map (mapOf [(tVar,.func (.func 163) #[.pointer (some ⟨w1.heap.size,0,none⟩)] #[]),(tLet,.func (.func 163) #[.pointer (some ⟨w1.heap.size,0,none⟩)] #[]),(tConst,.func (.func 163) #[.pointer (some ⟨w1.heap.size,0,none⟩)] #[])]) 3):=⟨_,rfl⟩
 have u3:(Instr.mapUpdate 201 (.map (some (w1.heap.size+1))) (.string tConst) (.func (.func 163) #[.pointer (some ⟨w1.heap.size,0,none⟩)] #[])).run Tryz.prog X2=.ok () X3:=by rw[hX2,hX3];exact upd 201 261 (w1.heap.size+1) _ [(tVar,.func (.func 163) #[.pointer (some ⟨w1.heap.size,0,none⟩)] #[]),(tLet,.func (.func 163) #[.pointer (some ⟨w1.heap.size,0,none⟩)] #[])] _ _ Tryz.underlying201 (by rw[s0];omega) (by rfl)
 obtain⟨X4,hX4⟩:∃ X,X=setMap ((w1.alloc (.cells #[.slice (some ⟨tb,0,none⟩) l.length cap,.int .i64 0,.int .i64 0,.map (some w.heap.size),.map none,.map none] 203)).alloc (.map #[] 0)) (w1.heap.size+1) (.map (mapOf [(tVar,.func (.func 163) #[.pointer (some ⟨w1.heap.size,0,none⟩)] #[]),(tLet,.func (.func 163) #[.pointer (some ⟨w1.heap.size,0,none⟩)] #[]),(tConst,.func (.func 163) #[.pointer (some ⟨w1.heap.size,0,none⟩)] #[]),(tFunction,.func (.func 164) #[.pointer (some ⟨w1.heap.size,0,none⟩)] #[])]) 4):=⟨_,rfl⟩
 have u4:(Instr.mapUpdate 201 (.map (some (w1.heap.size+1))) (.string tFunction) (.func (.func 164) #[.pointer (some ⟨w1.heap.size,0,none⟩)] #[])).run Tryz.prog X3=.ok () X4:=by rw[hX3,hX4];exact upd 201 261 (w1.heap.size+1) _ [(tVar,.func (.func 163) #[.pointer (some ⟨w1.heap.size,0,none⟩)] #[]),(tLet,.func (.func 163) #[.pointer (some ⟨w1.heap.size,0,none⟩)] #[]),(tConst,.func (.func 163) #[.pointer (some ⟨w1.heap.size,0,none⟩)] #[])] _ _ Tryz.underlying201 (by rw[s0];omega) (by rfl)
 obtain⟨X5,hX5⟩:∃ X,X=setMap ((w1.alloc (.cells #[.slice (some ⟨tb,0,none⟩) l.length cap,.int .i64 0,.int .i64 0,.map (some w.heap.size),.map none,.map none] 203)).alloc (.map #[] 0)) (w1.heap.size+1) (.map (mapOf [(tVar,.func (.func 163) #[.pointer (some ⟨w1.heap.size,0,none⟩)] #[]),(tLet,.func (.func 163) #[.pointer (some ⟨w1.heap.size,0,none⟩)] #[]),(tConst,.func (.func 163) #[.pointer (some ⟨w1.heap.size,0,none⟩)] #[]),(tFunction,.func (.func 164) #[.pointer (some ⟨w1.heap.size,0,none⟩)] #[]),(tLBrace,.func (.func 165) #[.pointer (some ⟨w1.heap.size,0,none⟩)] #[])]) 5):=⟨_,rfl⟩
 have u5:(Instr.mapUpdate 201 (.map (some (w1.heap.size+1))) (.string tLBrace) (.func (.func 165) #[.pointer (some ⟨w1.heap.size,0,none⟩)] #[])).run Tryz.prog X4=.ok () X5:=by rw[hX4,hX5];exact upd 201 261 (w1.heap.size+1) _ [(tVar,.func (.func 163) #[.pointer (some ⟨w1.heap.size,0,none⟩)] #[]),(tLet,.func (.func 163) #[.pointer (some ⟨w1.heap.size,0,none⟩)] #[]),(tConst,.func (.func 163) #[.pointer (some ⟨w1.heap.size,0,none⟩)] #[]),(tFunction,.func (.func 164) #[.pointer (some ⟨w1.heap.size,0,none⟩)] #[])] _ _ Tryz.underlying201 (by rw[s0];omega) (by rfl)
 obtain⟨X6,hX6⟩:∃ X,X=setMap ((w1.alloc (.cells #[.slice (some ⟨tb,0,none⟩) l.length cap,.int .i64 0,.int .i64 0,.map (some w.heap.size),.map none,.map none] 203)).alloc (.map #[] 0)) (w1.heap.size+1) (.map (mapOf [(tVar,.func (.func 163) #[.pointer (some ⟨w1.heap.size,0,none⟩)] #[]),(tLet,.func (.func 163) #[.pointer (some ⟨w1.heap.size,0,none⟩)] #[]),(tConst,.func (.func 163) #[.pointer (some ⟨w1.heap.size,0,none⟩)] #[]),(tFunction,.func (.func 164) #[.pointer (some ⟨w1.heap.size,0,none⟩)] #[]),(tLBrace,.func (.func 165) #[.pointer (some ⟨w1.heap.size,0,none⟩)] #[]),(tSemi,.func (.func 166) #[.pointer (some ⟨w1.heap.size,0,none⟩)] #[])]) 6):=⟨_,rfl⟩
 have u6:(Instr.mapUpdate 201 (.map (some (w1.heap.size+1))) (.string tSemi) (.func (.func 166) #[.pointer (some ⟨w1.heap.size,0,none⟩)] #[])).run Tryz.prog X5=.ok () X6:=by rw[hX5,hX6];exact upd 201 261 (w1.heap.size+1) _ [(tVar,.func (.func 163) #[.pointer (some ⟨w1.heap.size,0,none⟩)] #[]),(tLet,.func (.func 163) #[.pointer (some ⟨w1.heap.size,0,none⟩)] #[]),(tConst,.func (.func 163) #[.pointer (some ⟨w1.heap.size,0,none⟩)] #[]),(tFunction,.func (.func 164) #[.pointer (some ⟨w1.heap.size,0,none⟩)] #[]),(tLBrace,.func (.func 165) #[.pointer (some ⟨w1.heap.size,0,none⟩)] #[])] _ _ Tryz.underlying201 (by rw[s0];omega) (by rfl)
 obtain⟨X7,hX7⟩:∃ X,X=setMap ((w1.alloc (.cells #[.slice (some ⟨tb,0,none⟩) l.length cap,.int .i64 0,.int .i64 0,.map (some w.heap.size),.map none,.map none] 203)).alloc (.map #[] 0)) (w1.heap.size+1) (.map (mapOf [(tVar,.func (.func 163) #[.pointer (some ⟨w1.heap.size,0,none⟩)] #[]),(tLet,.func (.func 163) #[.pointer (some ⟨w1.heap.size,0,none⟩)] #[]),(tConst,.func (.func 163) #[.pointer (some ⟨w1.heap.size,0,none⟩)] #[]),(tFunction,.func (.func 164) #[.pointer (some ⟨w1.heap.size,0,none⟩)] #[]),(tLBrace,.func (.func 165) #[.pointer (some ⟨w1.heap.size,0,none⟩)] #[]),(tSemi,.func (.func 166) #[.pointer (some ⟨w1.heap.size,0,none⟩)] #[]),(tIf,.func (.func 167) #[.pointer (some ⟨w1.heap.size,0,none⟩)] #[])]) 7):=⟨_,rfl⟩
 have u7:(Instr.mapUpdate 201 (.map (some (w1.heap.size+1))) (.string tIf) (.func (.func 167) #[.pointer (some ⟨w1.heap.size,0,none⟩)] #[])).run Tryz.prog X6=.ok () X7:=by rw[hX6,hX7];exact upd 201 261 (w1.heap.size+1) _ [(tVar,.func (.func 163) #[.pointer (some ⟨w1.heap.size,0,none⟩)] #[]),(tLet,.func (.func 163) #[.pointer (some ⟨w1.heap.size,0,none⟩)] #[]),(tConst,.func (.func 163) #[.pointer (some ⟨w1.heap.size,0,none⟩)] #[]),(tFunction,.func (.func 164) #[.pointer (some ⟨w1.heap.size,0,none⟩)] #[]),(tLBrace,.func (.func 165) #[.pointer (some ⟨w1.heap.size,0,none⟩)] #[]),(tSemi,.func (.func 166) #[.pointer (some ⟨w1.heap.size,0,none⟩)] #[])] _ _ Tryz.underlying201 (by rw[s0];omega) (by rfl)
 obtain⟨X8,hX8⟩:∃ X,X=setMap ((w1.alloc (.cells #[.slice (some ⟨tb,0,none⟩) l.length cap,.int .i64 0,.int .i64 0,.map (some w.heap.size),.map none,.map none] 203)).alloc (.map #[] 0)) (w1.heap.size+1) (.map (mapOf [(tVar,.func (.func 163) #[.pointer (some ⟨w1.heap.size,0,none⟩)] #[]),(tLet,.func (.func 163) #[.pointer (some ⟨w1.heap.size,0,none⟩)] #[]),(tConst,.func (.func 163) #[.pointer (some ⟨w1.heap.size,0,none⟩)] #[]),(tFunction,.func (.func 164) #[.pointer (some ⟨w1.heap.size,0,none⟩)] #[]),(tLBrace,.func (.func 165) #[.pointer (some ⟨w1.heap.size,0,none⟩)] #[]),(tSemi,.func (.func 166) #[.pointer (some ⟨w1.heap.size,0,none⟩)] #[]),(tIf,.func (.func 167) #[.pointer (some ⟨w1.heap.size,0,none⟩)] #[]),(tWhile,.func (.func 168) #[.pointer (some ⟨w1.heap.size,0,none⟩)] #[])]) 8):=⟨_,rfl⟩
 have u8:(Instr.mapUpdate 201 (.map (some (w1.heap.size+1))) (.string tWhile) (.func (.func 168) #[.pointer (some ⟨w1.heap.size,0,none⟩)] #[])).run Tryz.prog X7=.ok () X8:=by rw[hX7,hX8];exact upd 201 261 (w1.heap.size+1) _ [(tVar,.func (.func 163) #[.pointer (some ⟨w1.heap.size,0,none⟩)] #[]),(tLet,.func (.func 163) #[.pointer (some ⟨w1.heap.size,0,none⟩)] #[]),(tConst,.func (.func 163) #[.pointer (some ⟨w1.heap.size,0,none⟩)] #[]),(tFunction,.func (.func 164) #[.pointer (some ⟨w1.heap.size,0,none⟩)] #[]),(tLBrace,.func (.func 165) #[.pointer (some ⟨w1.heap.size,0,none⟩)] #[]),(tSemi,.func (.func 166) #[.pointer (some ⟨w1.heap.size,0,none⟩)] #[]),(tIf,.func (.func 167) #[.pointer (some ⟨w1.heap.size,0,none⟩)] #[])] _ _ Tryz.underlying201 (by rw[s0];omega) (by rfl)
 obtain⟨X9,hX9⟩:∃ X,X=setMap ((w1.alloc (.cells #[.slice (some ⟨tb,0,none⟩) l.length cap,.int .i64 0,.int .i64 0,.map (some w.heap.size),.map none,.map none] 203)).alloc (.map #[] 0)) (w1.heap.size+1) (.map (mapOf [(tVar,.func (.func 163) #[.pointer (some ⟨w1.heap.size,0,none⟩)] #[]),(tLet,.func (.func 163) #[.pointer (some ⟨w1.heap.size,0,none⟩)] #[]),(tConst,.func (.func 163) #[.pointer (some ⟨w1.heap.size,0,none⟩)] #[]),(tFunction,.func (.func 164) #[.pointer (some ⟨w1.heap.size,0,none⟩)] #[]),(tLBrace,.func (.func 165) #[.pointer (some ⟨w1.heap.size,0,none⟩)] #[]),(tSemi,.func (.func 166) #[.pointer (some ⟨w1.heap.size,0,none⟩)] #[]),(tIf,.func (.func 167) #[.pointer (some ⟨w1.heap.size,0,none⟩)] #[]),(tWhile,.func (.func 168) #[.pointer (some ⟨w1.heap.size,0,none⟩)] #[]),(tWith,.func (.func 168) #[.pointer (some ⟨w1.heap.size,0,none⟩)] #[])]) 9):=⟨_,rfl⟩
 have u9:(Instr.mapUpdate 201 (.map (some (w1.heap.size+1))) (.string tWith) (.func (.func 168) #[.pointer (some ⟨w1.heap.size,0,none⟩)] #[])).run Tryz.prog X8=.ok () X9:=by rw[hX8,hX9];exact upd 201 261 (w1.heap.size+1) _ [(tVar,.func (.func 163) #[.pointer (some ⟨w1.heap.size,0,none⟩)] #[]),(tLet,.func (.func 163) #[.pointer (some ⟨w1.heap.size,0,none⟩)] #[]),(tConst,.func (.func 163) #[.pointer (some ⟨w1.heap.size,0,none⟩)] #[]),(tFunction,.func (.func 164) #[.pointer (some ⟨w1.heap.size,0,none⟩)] #[]),(tLBrace,.func (.func 165) #[.pointer (some ⟨w1.heap.size,0,none⟩)] #[]),(tSemi,.func (.func 166) #[.pointer (some ⟨w1.heap.size,0,none⟩)] #[]),(tIf,.func (.func 167) #[.pointer (some ⟨w1.heap.size,0,none⟩)] #[]),(tWhile,.func (.func 168) #[.pointer (some ⟨w1.heap.size,0,none⟩)] #[])] _ _ Tryz.underlying201 (by rw[s0];omega) (by rfl)
 obtain⟨X10,hX10⟩:∃ X,X=setMap ((w1.alloc (.cells #[.slice (some ⟨tb,0,none⟩) l.length cap,.int .i64 0,.int .i64 0,.map (some w.heap.size),.map none,.map none] 203)).alloc (.map #[] 0)) (w1.heap.size+1) (.map (mapOf [(tVar,.func (.func 163) #[.pointer (some ⟨w1.heap.size,0,none⟩)] #[]),(tLet,.func (.func 163) #[.pointer (some ⟨w1.heap.size,0,none⟩)] #[]),(tConst,.func (.func 163) #[.pointer (some ⟨w1.heap.size,0,none⟩)] #[]),(tFunction,.func (.func 164) #[.pointer (some ⟨w1.heap.size,0,none⟩)] #[]),(tLBrace,.func (.func 165) #[.pointer (some ⟨w1.heap.size,0,none⟩)] #[]),(tSemi,.func (.func 166) #[.pointer (some ⟨w1.heap.size,0,none⟩)] #[]),(tIf,.func (.func 167) #[.pointer (some ⟨w1.heap.size,0,none⟩)] #[]),(tWhile,.func (.func 168) #[.pointer (some ⟨w1.heap.size,0,none⟩)] #[]),(tWith,.func (.func 168) #[.pointer (some ⟨w1.heap.size,0,none⟩)] #[]),(tReturn,.func (.func 169) #[.pointer (some ⟨w1.heap.size,0,none⟩)] #[])]) 10):=⟨_,rfl⟩
 have u10:(Instr.mapUpdate 201 (.map (some (w1.heap.size+1))) (.string tReturn) (.func (.func 169) #[.pointer (some ⟨w1.heap.size,0,none⟩)] #[])).run Tryz.prog X9=.ok () X10:=by rw[hX9,hX10];exact upd 201 261 (w1.heap.size+1) _ [(tVar,.func (.func 163) #[.pointer (some ⟨w1.heap.size,0,none⟩)] #[]),(tLet,.func (.func 163) #[.pointer (some ⟨w1.heap.size,0,none⟩)] #[]),(tConst,.func (.func 163) #[.pointer (some ⟨w1.heap.size,0,none⟩)] #[]),(tFunction,.func (.func 164) #[.pointer (some ⟨w1.heap.size,0,none⟩)] #[]),(tLBrace,.func (.func 165) #[.pointer (some ⟨w1.heap.size,0,none⟩)] #[]),(tSemi,.func (.func 166) #[.pointer (some ⟨w1.heap.size,0,none⟩)] #[]),(tIf,.func (.func 167) #[.pointer (some ⟨w1.heap.size,0,none⟩)] #[]),(tWhile,.func (.func 168) #[.pointer (some ⟨w1.heap.size,0,none⟩)] #[]),(tWith,.func (.func 168) #[.pointer (some ⟨w1.heap.size,0,none⟩)] #[])] _ _ Tryz.underlying201 (by rw[s0];omega) (by rfl)
 obtain⟨X11,hX11⟩:∃ X,X=setMap ((w1.alloc (.cells #[.slice (some ⟨tb,0,none⟩) l.length cap,.int .i64 0,.int .i64 0,.map (some w.heap.size),.map none,.map none] 203)).alloc (.map #[] 0)) (w1.heap.size+1) (.map (mapOf [(tVar,.func (.func 163) #[.pointer (some ⟨w1.heap.size,0,none⟩)] #[]),(tLet,.func (.func 163) #[.pointer (some ⟨w1.heap.size,0,none⟩)] #[]),(tConst,.func (.func 163) #[.pointer (some ⟨w1.heap.size,0,none⟩)] #[]),(tFunction,.func (.func 164) #[.pointer (some ⟨w1.heap.size,0,none⟩)] #[]),(tLBrace,.func (.func 165) #[.pointer (some ⟨w1.heap.size,0,none⟩)] #[]),(tSemi,.func (.func 166) #[.pointer (some ⟨w1.heap.size,0,none⟩)] #[]),(tIf,.func (.func 167) #[.pointer (some ⟨w1.heap.size,0,none⟩)] #[]),(tWhile,.func (.func 168) #[.pointer (some ⟨w1.heap.size,0,none⟩)] #[]),(tWith,.func (.func 168) #[.pointer (some ⟨w1.heap.size,0,none⟩)] #[]),(tReturn,.func (.func 169) #[.pointer (some ⟨w1.heap.size,0,none⟩)] #[]),(tThrow,.func (.func 169) #[.pointer (some ⟨w1.heap.size,0,none⟩)] #[])]) 11):=⟨_,rfl⟩
 have u11:(Instr.mapUpdate 201 (.map (some (w1.heap.size+1))) (.string tThrow) (.func (.func 169) #[.pointer (some ⟨w1.heap.size,0,none⟩)] #[])).run Tryz.prog X10=.ok () X11:=by rw[hX10,hX11];exact upd 201 261 (w1.heap.size+1) _ [(tVar,.func (.func 163) #[.pointer (some ⟨w1.heap.size,0,none⟩)] #[]),(tLet,.func (.func 163) #[.pointer (some ⟨w1.heap.size,0,none⟩)] #[]),(tConst,.func (.func 163) #[.pointer (some ⟨w1.heap.size,0,none⟩)] #[]),(tFunction,.func (.func 164) #[.pointer (some ⟨w1.heap.size,0,none⟩)] #[]),(tLBrace,.func (.func 165) #[.pointer (some ⟨w1.heap.size,0,none⟩)] #[]),(tSemi,.func (.func 166) #[.pointer (some ⟨w1.heap.size,0,none⟩)] #[]),(tIf,.func (.func 167) #[.pointer (some ⟨w1.heap.size,0,none⟩)] #[]),(tWhile,.func (.func 168) #[.pointer (some ⟨w1.heap.size,0,none⟩)] #[]),(tWith,.func (.func 168) #[.pointer (some ⟨w1.heap.size,0,none⟩)] #[]),(tReturn,.func (.func 169) #[.pointer (some ⟨w1.heap.size,0,none⟩)] #[])] _ _ Tryz.underlying201 (by rw[s0];omega) (by rfl)
 obtain⟨X12,hX12⟩:∃ X,X=setMap ((w1.alloc (.cells #[.slice (some ⟨tb,0,none⟩) l.length cap,.int .i64 0,.int .i64 0,.map (some w.heap.size),.map none,.map none] 203)).alloc (.map #[] 0)) (w1.heap.size+1) (.map (mapOf [(tVar,.func (.func 163) #[.pointer (some ⟨w1.heap.size,0,none⟩)] #[]),(tLet,.func (.func 163) #[.pointer (some ⟨w1.heap.size,0,none⟩)] #[]),(tConst,.func (.func 163) #[.pointer (some ⟨w1.heap.size,0,none⟩)] #[]),(tFunction,.func (.func 164) #[.pointer (some ⟨w1.heap.size,0,none⟩)] #[]),(tLBrace,.func (.func 165) #[.pointer (some ⟨w1.heap.size,0,none⟩)] #[]),(tSemi,.func (.func 166) #[.pointer (some ⟨w1.heap.size,0,none⟩)] #[]),(tIf,.func (.func 167) #[.pointer (some ⟨w1.heap.size,0,none⟩)] #[]),(tWhile,.func (.func 168) #[.pointer (some ⟨w1.heap.size,0,none⟩)] #[]),(tWith,.func (.func 168) #[.pointer (some ⟨w1.heap.size,0,none⟩)] #[]),(tReturn,.func (.func 169) #[.pointer (some ⟨w1.heap.size,0,none⟩)] #[]),(tThrow,.func (.func 169) #[.pointer (some ⟨w1.heap.size,0,none⟩)] #[]),(tTry,.func (.func 170) #[.pointer (some ⟨w1.heap.size,0,none⟩)] #[])]) 12):=⟨_,rfl⟩
 have u12:(Instr.mapUpdate 201 (.map (some (w1.heap.size+1))) (.string tTry) (.func (.func 170) #[.pointer (some ⟨w1.heap.size,0,none⟩)] #[])).run Tryz.prog X11=.ok () X12:=by rw[hX11,hX12];exact upd 201 261 (w1.heap.size+1) _ [(tVar,.func (.func 163) #[.pointer (some ⟨w1.heap.size,0,none⟩)] #[]),(tLet,.func (.func 163) #[.pointer (some ⟨w1.heap.size,0,none⟩)] #[]),(tConst,.func (.func 163) #[.pointer (some ⟨w1.heap.size,0,none⟩)] #[]),(tFunction,.func (.func 164) #[.pointer (some ⟨w1.heap.size,0,none⟩)] #[]),(tLBrace,.func (.func 165) #[.pointer (some ⟨w1.heap.size,0,none⟩)] #[]),(tSemi,.func (.func 166) #[.pointer (some ⟨w1.heap.size,0,none⟩)] #[]),(tIf,.func (.func 167) #[.pointer (some ⟨w1.heap.size,0,none⟩)] #[]),(tWhile,.func (.func 168) #[.pointer (some ⟨w1.heap.size,0,none⟩)] #[]),(tWith,.func (.func 168) #[.pointer (some ⟨w1.heap.size,0,none⟩)] #[]),(tReturn,.func (.func 169) #[.pointer (some ⟨w1.heap.size,0,none⟩)] #[]),(tThrow,.func (.func 169) #[.pointer (some ⟨w1.heap.size,0,none⟩)] #[])] _ _ Tryz.underlying201 (by rw[s0];omega) (by rfl)
 have xR:X12.heap[w1.heap.size]? = some (.cells #[.slice (some ⟨tb,0,none⟩) l.length cap,.int .i64 0,.int .i64 0,.map (some w.heap.size),.map none,.map none] 203):=by rw[hX12,setMap_other (by omega),Below.heap_alloc _ _ _ (by simp)];exact rA
 have s12:X12.heap.size=w1.heap.size+2:=by rw[hX12,setMap_size,s0]
 have yR:(X12.setCell ⟨w1.heap.size,4,none⟩ (.map (some (w1.heap.size+1)))).heap[w1.heap.size]? = some (.cells #[.slice (some ⟨tb,0,none⟩) l.length cap,.int .i64 0,.int .i64 0,.map (some w.heap.size),.map (some (w1.heap.size+1)),.map none] 203):=by rw[heap_set xR];rfl
 have z0:((X12.setCell ⟨w1.heap.size,4,none⟩ (.map (some (w1.heap.size+1)))).alloc (.map #[] 0)).heap.size=w1.heap.size+3:=by simp[s12]
 have n0:((X12.setCell ⟨w1.heap.size,4,none⟩ (.map (some (w1.heap.size+1)))).alloc (.map #[] 0)).heap[w1.heap.size+2]? = some (.map #[] 0):=by
  have:=heap_new (X12.setCell ⟨w1.heap.size,4,none⟩ (.map (some (w1.heap.size+1)))) (.map #[] 0);rw[World.size_setCell,s12] at this;exact this
 obtain⟨Z1,hZ1⟩:∃ Z,Z=setMap ((X12.setCell ⟨w1.heap.size,4,none⟩ (.map (some (w1.heap.size+1)))).alloc (.map #[] 0)) (w1.heap.size+2) (.map (mapOf [(tOpen,.func (.func 171) #[.pointer (some ⟨w1.heap.size,0,none⟩)] #[])]) 1):=⟨_,rfl⟩
 have v1:(Instr.mapUpdate 201 (.map (some (w1.heap.size+2))) (.string tOpen) (.func (.func 171) #[.pointer (some ⟨w1.heap.size,0,none⟩)] #[])).run Tryz.prog ((X12.setCell ⟨w1.heap.size,4,none⟩ (.map (some (w1.heap.size+1)))).alloc (.map #[] 0))=.ok () Z1:=by rw[hZ1];exact upd0 201 261 (w1.heap.size+2) _ _ _ Tryz.underlying201 n0
 obtain⟨Z2,hZ2⟩:∃ Z,Z=setMap ((X12.setCell ⟨w1.heap.size,4,none⟩ (.map (some (w1.heap.size+1)))).alloc (.map #[] 0)) (w1.heap.size+2) (.map (mapOf [(tOpen,.func (.func 171) #[.pointer (some ⟨w1.heap.size,0,none⟩)] #[]),(tLBrace,.func (.func 172) #[.pointer (some ⟨w1.heap.size,0,none⟩)] #[])]) 2):=⟨_,rfl⟩
 have v2:(Instr.mapUpdate 201 (.map (some (w1.heap.size+2))) (.string tLBrace) (.func (.func 172) #[.pointer (some ⟨w1.heap.size,0,none⟩)] #[])).run Tryz.prog Z1=.ok () Z2:=by rw[hZ1,hZ2];exact upd 201 261 (w1.heap.size+2) _ [(tOpen,.func (.func 171) #[.pointer (some ⟨w1.heap.size,0,none⟩)] #[])] _ _ Tryz.underlying201 (by rw[z0];omega) (by rfl)
 obtain⟨Z3,hZ3⟩:∃ Z,Z=setMap ((X12.setCell ⟨w1.heap.size,4,none⟩ (.map (some (w1.heap.size+1)))).alloc (.map #[] 0)) (w1.heap.size+2) (.map (mapOf [(tOpen,.func (.func 171) #[.pointer (some ⟨w1.heap.size,0,none⟩)] #[]),(tLBrace,.func (.func 172) #[.pointer (some ⟨w1.heap.size,0,none⟩)] #[]),(tFunction,.func (.func 173) #[.pointer (some ⟨w1.heap.size,0,none⟩)] #[])]) 3):=⟨_,rfl⟩
 have v3:(Instr.mapUpdate 201 (.map (some (w1.heap.size+2))) (.string tFunction) (.func (.func 173) #[.pointer (some ⟨w1.heap.size,0,none⟩)] #[])).run Tryz.prog Z2=.ok () Z3:=by rw[hZ2,hZ3];exact upd 201 261 (w1.heap.size+2) _ [(tOpen,.func (.func 171) #[.pointer (some ⟨w1.heap.size,0,none⟩)] #[]),(tLBrace,.func (.func 172) #[.pointer (some ⟨w1.heap.size,0,none⟩)] #[])] _ _ Tryz.underlying201 (by rw[z0];omega) (by rfl)
 have zR:Z3.heap[w1.heap.size]? = some (.cells #[.slice (some ⟨tb,0,none⟩) l.length cap,.int .i64 0,.int .i64 0,.map (some w.heap.size),.map (some (w1.heap.size+1)),.map none] 203):=by rw[hZ3,setMap_other (by omega),Below.heap_alloc _ _ _ (by rw[World.size_setCell,s12];omega)];exact yR
 have a4:X12.cell? ⟨w1.heap.size,4,none⟩=some (.map none):=by rw[cell_of xR];rfl
 have a4f:=frozen_of xR 4
 have a5:Z3.cell? ⟨w1.heap.size,5,none⟩=some (.map none):=by rw[cell_of zR];rfl
 have a5f:=frozen_of zR 5
 have HALL:=hide (HMADE.out w1 X12 _ Z3 (Z3.setCell ⟨w1.heap.size,5,none⟩ (.map (some (w1.heap.size+2)))) w1.heap.size HM1.out (by first|rfl|trivial) HB1.out rfl (by rw[hX12];rfl) rfl (by rw[hZ3];rfl) rfl)
 have HLE:Hid (w.heap.size≤w1.heap.size):=HB1.out.size
 clear hX1 hX2 hX3 hX4 hX5 hX6 hX7 hX8 hX9 hX10 hX11 hX12 hZ1 hZ2 hZ3 xR yR zR rA m0 n0 z0 s0 HMADE
 go_wp2_with fail
 go_ret
 obtain⟨m1,m2⟩:=unhide HALL
 exact⟨_,rfl,rfl,HLE.out,m1,m2⟩
end Go.Proofs.YtoimgcjbcbhclaaGreatDoor
