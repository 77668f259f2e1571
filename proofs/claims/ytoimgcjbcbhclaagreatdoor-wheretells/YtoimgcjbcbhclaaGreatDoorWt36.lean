/-
  A node that is being read grows by a part behind its own.
-/
import Derived.Test.YtoimgcjbcbhclaaGreatDoorWt35
set_option maxRecDepth 100000
set_option maxHeartbeats 16000000
namespace Go.Proofs.YtoimgcjbcbhclaaGreatDoor
open Go.RowKit
theorem st_open {B N z4 n:Nat}{w5 X:World}{kd z:Int}{tx:ByteArray}{ks:List Tr}{ps:List Nat}(hBN:B≤N)(hN:N<z4)(hX:∀ b,b≠N→X.heap[b]? = w5.heap[b]?)(hz:X.heap.size=w5.heap.size)(h5:z4≤w5.heap.size)
  (nb:X.heap[N]? = some (nodeObj kd tx z (.slice (some ⟨w5.heap.size,0,none⟩) n n))) (hk:NAts (fun b=>z4≤b) w5 ks ps) (hn:n=ps.length) (cs:Array Value) (hc:cs.toList=ps.map nPtr) (hl:ps.length≤maxLen):Open B (X.alloc (.cells cs 22)) (.mk kd tx z ks) N (.slice (some ⟨w5.heap.size,0,none⟩) n n) ps:=by
 subst hn
 have hcs:cs.size=ps.length * 1:=by rw[←Array.length_toList,hc];simp
 have ho:=World.ownsRow_lit (base:=B) (e:=22) (size:=1) X cs ps.length (by omega) hl hcs
 rw[hz,hc] at ho
 refine⟨hBN,by rw[Below.heap_alloc _ _ _ (by omega)];exact nb,ho,?_,?_⟩
 ·intro e;simp only[Value.ownBlock,Option.some.injEq] at e;omega
 ·have hs:Stay (fun b=>z4≤b∧b<w5.heap.size) w5 (X.alloc (.cells cs 22)):=fun b hb hl=>by rw[Below.heap_alloc _ _ _ (by omega)];exact hX b (by have:z4≤b:=hb.1;omega)
  have h1:=NAts.mono (J:=fun b=>z4≤b∧b<w5.heap.size) (fun b hb hl=>⟨hb,hl⟩) _ _ hk;exact NAts.mono (fun b hb _=>by
   have h2:z4≤b∧b<w5.heap.size:=hb;refine⟨by omega,by omega,fun e=>?_⟩;simp only[Value.ownBlock,Option.some.injEq] at e;omega) _ _ (NAts.later hs _ _ h1)
theorem Open.nv {B:Nat}{w:World}{t:Tr}{p:Nat}{u:Value}{ps:List Nat}(h:Open B w t p u ps):NV B w t (nPtr p):=h.ev.nv
theorem Open.stay {R B:Nat}{w w':World}{t:Tr}{p:Nat}{u:Value}{ps:List Nat}(h:Open B w t p u ps)(ha:Ap R w.heap.size w w')(hB:R<B):Open B w' t p u ps:=
 ⟨h.low,by rw[ha.block p (lt_of_heap h.blk) (by have:=h.low;omega)];exact h.blk,owns_stay (I:=fun b=>B≤b) (Stay.of_ap ha hB fun _ h=>h) (fun g hg=>(own_lt h.row g hg).2) h.row,h.own,NAts.later (Stay.of_ap ha hB fun _ h=>h.1) _ _ h.kids⟩
theorem Open.grows {B:Nat}{w1 w2 w3:World}{t:Tr}{p:Nat}{u v:Value}{ps:List Nat}(h:Open B w1 t p u ps)(hb:Below B w1 w2)(hB:B≤w2.heap.size)(hgr:w2.grownBy w3 u.ownBlock):Below B w1 (w3.setCell ⟨p,3,none⟩ v):=
 (hb.grown hgr hB (fun k hk=>(own_lt h.row k hk).2)).setCell (p:=⟨p,3,none⟩) h.low _
theorem Open.push {B:Nat}{w2 w3:World}{t x:Tr}{p q g cap n:Nat}{u:Value}{ps:List Nat}(h:Open B w2 t p u ps)(hx:NAts (fun b=>B≤b∧b≠p∧u.ownBlock≠some b) w2 (t.kids++[x]) (ps++[q]))(hn:n=t.kids.length+1)
  (hown:w3.ownsRow B 22 1 (.slice (some ⟨g,0,none⟩) n cap) n (ps.map nPtr++[nPtr q])) (hgr:w2.grownBy w3 u.ownBlock) (hg:u.ownBlock=some g∨g=w2.heap.size) :
  EV B (w3.setCell ⟨p,3,none⟩ (.slice (some ⟨g,0,none⟩) n cap)) (.mk t.kd t.tx t.n (t.kids++[x])) (nPtr p):=
 ev_push h.low h.blk h.own hx (by rw[List.map_append];exact hown) (by rw[hn];simp[NAts.length _ _ h.kids]) hgr hg
theorem Open.kb {R B:Nat}{w w1:World}{t:Tr}{p:Nat}{u:Value}{ps:List Nat}(h:Open B w t p u ps)(ha:Ap R w.heap.size w w1)(hR:R<B):NAts (fun b=>(B≤b∧b≠p∧u.ownBlock≠some b)∧b<w.heap.size) w1 t.kids ps:=
 NAts.later (Stay.of_ap ha hR fun _ h=>h.1.1) _ _ (NAts.mono (fun _ hb hl=>⟨hb,hl⟩) _ _ h.kids)
theorem Open.apart2 {B Z:Nat}{w w1:World}{t:Tr}{p:Nat}{u:Value}{ps:List Nat}(h:Open B w t p u ps)(hB:B≤w.heap.size)(hZ:w.heap.size≤Z){us:List Tr}{qs:List Nat}(hn:NAts (fun b=>Z≤b) w1 us qs)(hk:NAts (fun b=>(B≤b∧b≠p∧u.ownBlock≠some b)∧b<w.heap.size) w1 t.kids ps) :
  NAts (fun b=>B≤b∧b≠p∧u.ownBlock≠some b) w1 (t.kids++us) (ps++qs):=
 NAts.append (M:=w.heap.size) _ _ (NAts.mono (fun b hb _=>by
  have h1:Z≤b:=hb;have h2:=lt_of_heap h.blk;exact⟨⟨by omega,by omega,fun e=>by have:=(own_lt h.row b e).1;omega⟩,by omega⟩) _ _ hn) hk
theorem Open.alloc {B:Nat}{w:World}{t:Tr}{p:Nat}{u:Value}{ps:List Nat}(h:Open B w t p u ps)(o:Obj):Open B (w.alloc o) t p u ps:=
 ⟨h.low,by rw[Below.heap_alloc _ _ _ (lt_of_heap h.blk)];exact h.blk,h.row.alloc _,h.own,NAts.later (fun b _ hl=>Below.heap_alloc w _ b hl) _ _ h.kids⟩
theorem NAts.alloc {I:Nat→Prop}{w:World}{ts:List Tr}{ps:List Nat}(h:NAts I w ts ps)(o:Obj):NAts I (w.alloc o) ts ps:=NAts.later (fun b _ hl=>Below.heap_alloc w _ b hl) _ _ h
theorem Open.push2 {B:Nat}{w1 w3:World}{t x:Tr}{p q g cap n:Nat}{u:Value}{ps:List Nat}(h:Open B w1 t p u ps)(hx:NAts (fun b=>B≤b∧b≠p∧u.ownBlock≠some b) w1 (t.kids++[x]) (ps++[q]))(hn:n=t.kids.length+1)
  (hown:w3.ownsRow B 22 1 (.slice (some ⟨g,0,none⟩) n cap) n (ps.map nPtr++[nPtr q])) (hgr:(w1.alloc (.cells #[nPtr q] 22)).grownBy w3 u.ownBlock) (hg:u.ownBlock=some g∨g=w1.heap.size+1) :
  EV B (w3.setCell ⟨p,3,none⟩ (.slice (some ⟨g,0,none⟩) n cap)) (.mk t.kd t.tx t.n (t.kids++[x])) (nPtr p):=
 (h.alloc _).push (NAts.alloc hx _) hn hown hgr (hg.imp id fun e=>by simp[e])
theorem Open.of_ev {B N:Nat}{w:World}{t:Tr}{kd n:Int}{tx:ByteArray}{v:Value}(h:EV B w t (nPtr N))(hb:w.heap[N]? = some (nodeObj kd tx n v)):∃ ps,Open B w t N v ps:=by
 obtain⟨p,u,ps,he,ho⟩:=h.opens
 have h1:N=p:=by simpa[nPtr] using he
 subst h1
 have h2:=ho.blk
 rw[hb] at h2
 have h3:v=u:=by
  have h4:=h2;simp at h4;exact h4.2.2.2
 subst h3
 exact⟨ps,ho⟩
structure CallOk (c:PC)(w:World)(Z:Nat)(t:Tr)(u:Value)(qs:List Nat)(x:Tr)(j:Nat)(wc:World)(pc:Nat):Prop where
 ap:Ap c.P w.heap.size w wc
 ps:Ps c wc j 0 (-1)
 op:Open w.heap.size wc t w.heap.size u qs
 nd:NAts (fun b=>Z≤b) wc [x] [pc]
 sz:Z≤wc.heap.size
 kb:NAts (fun b=>(w.heap.size≤b∧b≠w.heap.size∧u.ownBlock≠some b)∧b<Z) wc t.kids qs
structure CallBad (c:PC)(w:World)(t:Tr)(u:Value)(qs:List Nat)(er pl:Int)(wc:World)(pc:Nat):Prop where
 ap:Ap c.P w.heap.size w wc
 ps:∃ j,Ps c wc j er pl
 op:Open w.heap.size wc t w.heap.size u qs
 he:er≠0
open zrqdr in
theorem rst_if {c:PC}{F:Fns}(hF:RCt c F)(hN:∃ k,FNx c.l k F)(hK:FOk F)(w:World)(d i:Nat)(r:PR Tr)(hd:d≤30)(hf:fx c.l i=tIf)(hs:r=(inParP c.l F d (i+1)).bind fun v i1=>(deepP c.l F.st d i1).bind fun s i2=>if fx c.l i2=tElse then (deepP c.l F.st d (i2+1)).bind fun s2 i3=>.ok (.mk 7 noText 0 [v,s,s2]) i3 else .ok (.mk 7 noText 0 [v,s]) i2)(ho:r≠.out)(h:Ps c w i 0 (-1)) :
  Calls Tryz.prog 111 #[pPtr c,.int .i64 (d:Int)] w (QPost c w (NV w.heap.size) ZN r):=by
 exact zrz
structure Stx (c:PC)(w:World)(k:Int)(tx:ByteArray)(i:Nat)(W:World):Prop where
 ps:Ps c W i 0 (-1)
 nd:W.heap[w.heap.size]? = some (nodeObj k tx 0 (.slice none 0 0))
 ap:Ap c.P w.heap.size w W
section
variable {c:PC} {w:World} {k:Int}
include c w k
theorem Stx.below {tx:ByteArray}{i:Nat}{W W':World}(h:Stx c w k tx i W)(hb:Below W.heap.size W W'):Stx c w k tx i W':=⟨h.ps.later hb,(hb.block _ (lt_of_heap h.nd)).trans h.nd,h.ap.next (Ap.of hb)⟩
theorem Stk.on {i j:Nat}{W W':World}(h:Stk c w k i W)(hP:c.P<w.heap.size)(hp:Ps c W' j 0 (-1))(ha:Ap c.P W.heap.size W W'):Stk c w k j W':=⟨hp,(ha.block _ (lt_of_heap h.nd) (by omega)).trans h.nd,h.ap.next ha⟩
theorem Stx.on {tx:ByteArray}{i j:Nat}{W W':World}(h:Stx c w k tx i W)(hP:c.P<w.heap.size)(hp:Ps c W' j 0 (-1))(ha:Ap c.P W.heap.size W W'):Stx c w k tx j W':=⟨hp,(ha.block _ (lt_of_heap h.nd) (by omega)).trans h.nd,h.ap.next ha⟩
theorem Stk.text {i:Nat}{W:World}(h:Stk c w k i W)(hlo:c.lo≤w.heap.size)(tx:ByteArray):Stx c w k tx i (W.setCell ⟨w.heap.size,1,none⟩ (.string tx)):=
 ⟨h.ps.ap ((Below.refl w.heap.size W).setCell (p:=⟨w.heap.size,1,none⟩) (Nat.le_refl _) _) hlo,by rw[heap_set h.nd];rfl,h.ap.setCell (p:=⟨w.heap.size,1,none⟩) (Or.inl (Nat.le_refl _)) _⟩
end
def dcs:List (ByteArray × Int):=[(tVar,2),(tLet,3),(tConst,4)]
def dcK (s:ByteArray):Int:=(look2 dcs s).getD 0
section
variable (s:ByteArray)
include s
theorem dc_abc:look2 [(tVar,2),(tLet,3),(tConst,4)] s=look2 dcs s:=by
 exact zbcc
theorem dc_acb:look2 [(tVar,2),(tConst,4),(tLet,3)] s=look2 dcs s:=by
 exact zbcc
theorem dc_bac:look2 [(tLet,3),(tVar,2),(tConst,4)] s=look2 dcs s:=by
 exact zbcc
theorem dc_bca:look2 [(tLet,3),(tConst,4),(tVar,2)] s=look2 dcs s:=by
 exact zbcc
theorem dc_cab:look2 [(tConst,4),(tVar,2),(tLet,3)] s=look2 dcs s:=by
 exact zbcc
theorem dc_cba:look2 [(tConst,4),(tLet,3),(tVar,2)] s=look2 dcs s:=by
 exact zbcc
end
theorem decl_made (W:World):∃ ma mb mc mab mac mba mbc mca mcb mabc macb mbac mbca mcab mcba:Array MapEntry,
  (Instr.makeMap 89 none).run Tryz.prog W=.ok (.map (some W.heap.size)) (W.alloc (.map #[] 0))
  ∧ (Instr.mapUpdate 89 (.map (some W.heap.size)) (.string tVar) (.int .i64 2)).run Tryz.prog (W.alloc (.map #[] 0))=.ok () (W.alloc (.map ma 1))
  ∧ (Instr.mapUpdate 89 (.map (some W.heap.size)) (.string tLet) (.int .i64 3)).run Tryz.prog (W.alloc (.map #[] 0))=.ok () (W.alloc (.map mb 1))
  ∧ (Instr.mapUpdate 89 (.map (some W.heap.size)) (.string tConst) (.int .i64 4)).run Tryz.prog (W.alloc (.map #[] 0))=.ok () (W.alloc (.map mc 1))
  ∧ (Instr.mapUpdate 89 (.map (some W.heap.size)) (.string tLet) (.int .i64 3)).run Tryz.prog (W.alloc (.map ma 1))=.ok () (W.alloc (.map mab 2))
  ∧ (Instr.mapUpdate 89 (.map (some W.heap.size)) (.string tConst) (.int .i64 4)).run Tryz.prog (W.alloc (.map ma 1))=.ok () (W.alloc (.map mac 2))
  ∧ (Instr.mapUpdate 89 (.map (some W.heap.size)) (.string tVar) (.int .i64 2)).run Tryz.prog (W.alloc (.map mb 1))=.ok () (W.alloc (.map mba 2))
  ∧ (Instr.mapUpdate 89 (.map (some W.heap.size)) (.string tConst) (.int .i64 4)).run Tryz.prog (W.alloc (.map mb 1))=.ok () (W.alloc (.map mbc 2))
  ∧ (Instr.mapUpdate 89 (.map (some W.heap.size)) (.string tVar) (.int .i64 2)).run Tryz.prog (W.alloc (.map mc 1))=.ok () (W.alloc (.map mca 2))
  ∧ (Instr.mapUpdate 89 (.map (some W.heap.size)) (.string tLet) (.int .i64 3)).run Tryz.prog (W.alloc (.map mc 1))=.ok () (W.alloc (.map mcb 2))
  ∧ (Instr.mapUpdate 89 (.map (some W.heap.size)) (.string tConst) (.int .i64 4)).run Tryz.prog (W.alloc (.map mab 2))=.ok () (W.alloc (.map mabc 3))
  ∧ (Instr.mapUpdate 89 (.map (some W.heap.size)) (.string tLet) (.int .i64 3)).run Tryz.prog (W.alloc (.map mac 2))=.ok () (W.alloc (.map macb 3))
  ∧ (Instr.mapUpdate 89 (.map (some W.heap.size)) (.string tConst) (.int .i64 4)).run Tryz.prog (W.alloc (.map mba 2))=.ok () (W.alloc (.map mbac 3))
  ∧ (Instr.mapUpdate 89 (.map (some W.heap.size)) (.string tVar) (.int .i64 2)).run Tryz.prog (W.alloc (.map mbc 2))=.ok () (W.alloc (.map mbca 3))
  ∧ (Instr.mapUpdate 89 (.map (some W.heap.size)) (.string tLet) (.int .i64 3)).run Tryz.prog (W.alloc (.map mca 2))=.ok () (W.alloc (.map mcab 3))
  ∧ (Instr.mapUpdate 89 (.map (some W.heap.size)) (.string tVar) (.int .i64 2)).run Tryz.prog (W.alloc (.map mcb 2))=.ok () (W.alloc (.map mcba 3))
  ∧ (∀ s,(Instr.lookup 89 (.map (some W.heap.size)) (.string s) false).run Tryz.prog (W.alloc (.map mabc 3))=.ok (.int .i64 (dcK s)) (W.alloc (.map mabc 3)))
  ∧ (∀ s,(Instr.lookup 89 (.map (some W.heap.size)) (.string s) false).run Tryz.prog (W.alloc (.map macb 3))=.ok (.int .i64 (dcK s)) (W.alloc (.map macb 3)))
  ∧ (∀ s,(Instr.lookup 89 (.map (some W.heap.size)) (.string s) false).run Tryz.prog (W.alloc (.map mbac 3))=.ok (.int .i64 (dcK s)) (W.alloc (.map mbac 3)))
  ∧ (∀ s,(Instr.lookup 89 (.map (some W.heap.size)) (.string s) false).run Tryz.prog (W.alloc (.map mbca 3))=.ok (.int .i64 (dcK s)) (W.alloc (.map mbca 3)))
  ∧ (∀ s,(Instr.lookup 89 (.map (some W.heap.size)) (.string s) false).run Tryz.prog (W.alloc (.map mcab 3))=.ok (.int .i64 (dcK s)) (W.alloc (.map mcab 3)))
  ∧ (∀ s,(Instr.lookup 89 (.map (some W.heap.size)) (.string s) false).run Tryz.prog (W.alloc (.map mcba 3))=.ok (.int .i64 (dcK s)) (W.alloc (.map mcba 3))):=
 ⟨mapOf (numsV [(tVar,2)]),mapOf (numsV [(tLet,3)]),mapOf (numsV [(tConst,4)]),mapOf (numsV [(tVar,2),(tLet,3)]),mapOf (numsV [(tVar,2),(tConst,4)]),mapOf (numsV [(tLet,3),(tVar,2)]),mapOf (numsV [(tLet,3),(tConst,4)]),mapOf (numsV [(tConst,4),(tVar,2)]),mapOf (numsV [(tConst,4),(tLet,3)]),mapOf (numsV [(tVar,2),(tLet,3),(tConst,4)]),mapOf (numsV [(tVar,2),(tConst,4),(tLet,3)]),mapOf (numsV [(tLet,3),(tVar,2),(tConst,4)]),mapOf (numsV [(tLet,3),(tConst,4),(tVar,2)]),mapOf (numsV [(tConst,4),(tVar,2),(tLet,3)]),mapOf (numsV [(tConst,4),(tLet,3),(tVar,2)]),
  mkMap 89 W,
  upd_last 89 3 W (numsV []) tVar _ 0 _ _ rfl rfl rfl Tryz.underlying89 (by decide +kernel),
  upd_last 89 3 W (numsV []) tLet _ 0 _ _ rfl rfl rfl Tryz.underlying89 (by decide +kernel),
  upd_last 89 3 W (numsV []) tConst _ 0 _ _ rfl rfl rfl Tryz.underlying89 (by decide +kernel),
  upd_last 89 3 W (numsV [(tVar,2)]) tLet _ 1 _ _ rfl rfl rfl Tryz.underlying89 (by decide +kernel),
  upd_last 89 3 W (numsV [(tVar,2)]) tConst _ 1 _ _ rfl rfl rfl Tryz.underlying89 (by decide +kernel),
  upd_last 89 3 W (numsV [(tLet,3)]) tVar _ 1 _ _ rfl rfl rfl Tryz.underlying89 (by decide +kernel),
  upd_last 89 3 W (numsV [(tLet,3)]) tConst _ 1 _ _ rfl rfl rfl Tryz.underlying89 (by decide +kernel),
  upd_last 89 3 W (numsV [(tConst,4)]) tVar _ 1 _ _ rfl rfl rfl Tryz.underlying89 (by decide +kernel),
  upd_last 89 3 W (numsV [(tConst,4)]) tLet _ 1 _ _ rfl rfl rfl Tryz.underlying89 (by decide +kernel),
  upd_last 89 3 W (numsV [(tVar,2),(tLet,3)]) tConst _ 2 _ _ rfl rfl rfl Tryz.underlying89 (by decide +kernel),
  upd_last 89 3 W (numsV [(tVar,2),(tConst,4)]) tLet _ 2 _ _ rfl rfl rfl Tryz.underlying89 (by decide +kernel),
  upd_last 89 3 W (numsV [(tLet,3),(tVar,2)]) tConst _ 2 _ _ rfl rfl rfl Tryz.underlying89 (by decide +kernel),
  upd_last 89 3 W (numsV [(tLet,3),(tConst,4)]) tVar _ 2 _ _ rfl rfl rfl Tryz.underlying89 (by decide +kernel),
  upd_last 89 3 W (numsV [(tConst,4),(tVar,2)]) tLet _ 2 _ _ rfl rfl rfl Tryz.underlying89 (by decide +kernel),
  upd_last 89 3 W (numsV [(tConst,4),(tLet,3)]) tVar _ 2 _ _ rfl rfl rfl Tryz.underlying89 (by decide +kernel),
  fun s=>(look_nums W.heap.size 3 [(tVar,2),(tLet,3),(tConst,4)] s _ (heap_new _ _)).trans (by rw[dc_abc s];rfl),
  fun s=>(look_nums W.heap.size 3 [(tVar,2),(tConst,4),(tLet,3)] s _ (heap_new _ _)).trans (by rw[dc_acb s];rfl),
  fun s=>(look_nums W.heap.size 3 [(tLet,3),(tVar,2),(tConst,4)] s _ (heap_new _ _)).trans (by rw[dc_bac s];rfl),
  fun s=>(look_nums W.heap.size 3 [(tLet,3),(tConst,4),(tVar,2)] s _ (heap_new _ _)).trans (by rw[dc_bca s];rfl),
  fun s=>(look_nums W.heap.size 3 [(tConst,4),(tVar,2),(tLet,3)] s _ (heap_new _ _)).trans (by rw[dc_cab s];rfl),
  fun s=>(look_nums W.heap.size 3 [(tConst,4),(tLet,3),(tVar,2)] s _ (heap_new _ _)).trans (by rw[dc_cba s];rfl)⟩
def TokS (c:PC)(w W:World):Prop:=W.heap[c.P]? = w.heap[c.P]?∧W.heap[c.tb]? = w.heap[c.tb]?
section
variable {c:PC} {w W:World} (h:TokS c w W)
include c w W h
theorem TokS.cell (o:Nat):W.cell? ⟨c.P,o,none⟩=w.cell? ⟨c.P,o,none⟩:=World.cell?_of_block (w:=w) h.1
theorem TokS.tok (o:Nat):W.cell? ⟨c.tb,o,none⟩=w.cell? ⟨c.tb,o,none⟩:=World.cell?_of_block (w:=w) h.2
theorem TokS.alloc (hp:c.P<W.heap.size)(ht:c.tb<W.heap.size)(o:Obj):TokS c w (W.alloc o):=⟨(Below.heap_alloc W o _ hp).trans h.1,(Below.heap_alloc W o _ ht).trans h.2⟩
theorem TokS.set {N o:Nat}{v:Value}(hp:c.P≠N)(ht:c.tb≠N):TokS c w (W.setCell ⟨N,o,none⟩ v):=⟨(Below.heap_setCell W ⟨N,o,none⟩ v _ hp).trans h.1,(Below.heap_setCell W ⟨N,o,none⟩ v _ ht).trans h.2⟩
end
theorem viaM {G:Array MapEntry→Prop}{goal:Prop}(h1:(∀ m,G m)→goal)(h2:∀ m,G m):goal:=h1 h2
theorem Stn.decl {c:PC}{w:World}{i:Nat}{W W0:World}(h:Stn c w i W)(hlo:c.lo≤w.heap.size)(h0:W0=W.drew)(o:Obj)(k:Int):Stk c w k i ((W0.setCell ⟨w.heap.size,0,none⟩ (.int .i64 k)).alloc o):=by
 subst h0
 exact((h.below (Below.refl W.heap.size W).drew).kind hlo k).below ((Below.refl _ _).alloc (Nat.le_refl _) o)
open zrqds in
theorem rst_decl {c:PC}{F:Fns}(hF:RCt c F)(hN:∃ k,FNx c.l k F)(hK:FOk F)(w:World)(d i:Nat)(r:PR Tr)(hd:d≤30)(tg:ByteArray)(kd:Int)(hdc:(tg=tVar∧kd=2)∨(tg=tLet∧kd=3)∨(tg=tConst∧kd=4))(hf:fx c.l i=tg)(hs:r=declP c.l F d i)(ho:r≠.out)(h:Ps c w i 0 (-1)) :
  Calls Tryz.prog 111 #[pPtr c,.int .i64 (d:Int)] w (QPost c w (NV w.heap.size) ZN r):=by
 have h9:=h
 exact zrbb
open zrqdt in
theorem rst_try_a {c:PC}{F:Fns}(hF:RCt c F)(hN:∃ k,FNx c.l k F)(hK:FOk F)(w:World)(d i:Nat)(r:PR Tr)(hd:d≤30)(er:Int)(pl:Nat)(hf:fx c.l i=tTry)(hb0:blockP c.l F d (i+1)=.bad er pl)(hs:r=(blockP c.l F d (i+1)).bind fun b i1=>(catchP c.l F d i1).bind fun cc i2=>(finallyP c.l F d i2).bind fun f i3=>if cc.length+f.length=0 then badF c.l 3 i3 else .ok (.mk 12 noText 0 (b::(cc++f))) i3)(ho:r≠.out)(h:Ps c w i 0 (-1)) :
  Calls Tryz.prog 111 #[pPtr c,.int .i64 (d:Int)] w (QPost c w (NV w.heap.size) ZN r):=by
 exact zrv
open zrqdu in
theorem rst_try_b {c:PC}{F:Fns}(hF:RCt c F)(hN:∃ k,FNx c.l k F)(hK:FOk F)(w:World)(d i:Nat)(r:PR Tr)(hd:d≤30)(b:Tr)(j:Nat)(hf:fx c.l i=tTry)(hb0:blockP c.l F d (i+1)=.ok b j)(hc0:¬ fx c.l j=tCatch)(hf0:¬ fx c.l j=tFinally)(hs:r=(blockP c.l F d (i+1)).bind fun b i1=>(catchP c.l F d i1).bind fun cc i2=>(finallyP c.l F d i2).bind fun f i3=>if cc.length+f.length=0 then badF c.l 3 i3 else .ok (.mk 12 noText 0 (b::(cc++f))) i3)(ho:r≠.out)(h:Ps c w i 0 (-1)) :
  Calls Tryz.prog 111 #[pPtr c,.int .i64 (d:Int)] w (QPost c w (NV w.heap.size) ZN r):=by
 exact zrv
open zrqdv in
theorem rst_try_c {c:PC}{F:Fns}(hF:RCt c F)(hN:∃ k,FNx c.l k F)(hK:FOk F)(w:World)(d i:Nat)(r:PR Tr)(hd:d≤30)(b:Tr)(j:Nat)(hf:fx c.l i=tTry)(hb0:blockP c.l F d (i+1)=.ok b j)(hc0:¬ fx c.l j=tCatch)(hf0:fx c.l j=tFinally)(hs:r=(blockP c.l F d (i+1)).bind fun b i1=>(catchP c.l F d i1).bind fun cc i2=>(finallyP c.l F d i2).bind fun f i3=>if cc.length+f.length=0 then badF c.l 3 i3 else .ok (.mk 12 noText 0 (b::(cc++f))) i3)(ho:r≠.out)(h:Ps c w i 0 (-1)) :
  Calls Tryz.prog 111 #[pPtr c,.int .i64 (d:Int)] w (QPost c w (NV w.heap.size) ZN r):=by
 exact zrv
theorem viaB {H G:World→ByteArray→Prop}{goal:Prop}(h1:(∀ w s,H w s→G w s)→goal)(h2:∀ w s,H w s→G w s):goal:=h1 h2
open zrqdw in
theorem rst_try_d {c:PC}{F:Fns}(hF:RCt c F)(hN:∃ k,FNx c.l k F)(hK:FOk F)(w:World)(d i:Nat)(r:PR Tr)(hd:d≤30)(b:Tr)(j:Nat)(hf:fx c.l i=tTry)(hb0:blockP c.l F d (i+1)=.ok b j)(hc0:fx c.l j=tCatch)(hno:∀ k3 b2 k4,blockP c.l F d k3=.ok b2 k4→∀ s k1 k2,mustP c.l tOpen (j+1)=.ok () k1→nameP c.l k1=.ok s k2→mustP c.l tShut k2=.ok () k3→False)(hs:r=(blockP c.l F d (i+1)).bind fun b i1=>(catchP c.l F d i1).bind fun cc i2=>(finallyP c.l F d i2).bind fun f i3=>if cc.length+f.length=0 then badF c.l 3 i3 else .ok (.mk 12 noText 0 (b::(cc++f))) i3)(ho:r≠.out)(h:Ps c w i 0 (-1)) :
  Calls Tryz.prog 111 #[pPtr c,.int .i64 (d:Int)] w (QPost c w (NV w.heap.size) ZN r):=by
 exact zrv
open zrqdx in
theorem rst_try_f {c:PC}{F:Fns}(hF:RCt c F)(hN:∃ k,FNx c.l k F)(hK:FOk F)(w:World)(d i:Nat)(r:PR Tr)(hd:d≤30)(b:Tr)(j:Nat)(s:ByteArray)(k1 k2 k3 k4:Nat)(b2:Tr)(hf:fx c.l i=tTry)(hb0:blockP c.l F d (i+1)=.ok b j)(hc0:fx c.l j=tCatch)(hr1:mustP c.l tOpen (j+1)=.ok () k1)(hr2:nameP c.l k1=.ok s k2)(hr3:mustP c.l tShut k2=.ok () k3)(hr4:blockP c.l F d k3=.ok b2 k4)(hs:r=(blockP c.l F d (i+1)).bind fun b i1=>(catchP c.l F d i1).bind fun cc i2=>(finallyP c.l F d i2).bind fun f i3=>if cc.length+f.length=0 then badF c.l 3 i3 else .ok (.mk 12 noText 0 (b::(cc++f))) i3)(ho:r≠.out)(h:Ps c w i 0 (-1)) :
  Calls Tryz.prog 111 #[pPtr c,.int .i64 (d:Int)] w (QPost c w (NV w.heap.size) ZN r):=by
 exact zrv
theorem rest_any {c:PC}{F:Fns}(hF:RCt c F)(hN:∃ k,FNx c.l k F)(hK:FOk F):RestC c F where
 choice:=by
  intro w d i r hd hf hs ho h;unfold choiceP at hs;rw[tx_of (by decide) hf,show hdKind tIf=7 from by decide +kernel] at hs;exact rst_if hF hN hK w d i r hd hf hs ho h
 attempt:=by
  intro w d i r hd hf hs ho h;unfold attemptP at hs;have hm:mustP c.l tTry i=.ok () (i+1):=by unfold mustP;rw[if_pos hf]
  rw[hm,bind_ok] at hs
  cases hb:blockP c.l F d (i+1) with
  | out=>rw[hb] at hs;exact absurd hs ho
  | bad er pl=>exact rst_try_a hF hN hK w d i r hd er pl hf hb hs ho h
  | ok b j=>
   by_cases hc:fx c.l j=tCatch
   ·by_cases hno:∃ k3 b2 k4,blockP c.l F d k3=.ok b2 k4∧∃ s k1 k2,mustP c.l tOpen (j+1)=.ok () k1∧nameP c.l k1=.ok s k2∧mustP c.l tShut k2=.ok () k3
    ·obtain⟨k3,b2,k4,h4,s,k1,k2,h1,h2,h3⟩:=hno;exact rst_try_f hF hN hK w d i r hd b j s k1 k2 k3 k4 b2 hf hb hc h1 h2 h3 h4 hs ho h
    ·exact rst_try_d hF hN hK w d i r hd b j hf hb hc (fun k3 b2 k4 h4 s k1 k2 h1 h2 h3=>hno ⟨k3,b2,k4,h4,s,k1,k2,h1,h2,h3⟩) hs ho h
   ·by_cases hf0:fx c.l j=tFinally
    ·exact rst_try_c hF hN hK w d i r hd b j hf hb hc hf0 hs ho h
    ·exact rst_try_b hF hN hK w d i r hd b j hf hb hc hf0 hs ho h
 decl:=by
  intro w d i r hd hf hs ho h
  rcases hf with hf|hf|hf
  ·exact rst_decl hF hN hK w d i r hd tVar 2 (Or.inl ⟨rfl,rfl⟩) hf hs ho h
  ·exact rst_decl hF hN hK w d i r hd tLet 3 (Or.inr (Or.inl ⟨rfl,rfl⟩)) hf hs ho h
  ·exact rst_decl hF hN hK w d i r hd tConst 4 (Or.inr (Or.inr ⟨rfl,rfl⟩)) hf hs ho h
theorem rfns_all {c:PC}(hE:Ends c.l)(k:Nat):RCt c (rfns c.l k):=rfns_does hE (fun _ hF hN hK=>rest_any hF hN hK) k
end Go.Proofs.YtoimgcjbcbhclaaGreatDoor
