/-
  The document's parser: a whole text.
-/
import Derived.Test.YtoimgcjbcbhclaaGreatDoorWt38
import Derived.Test.YtoimgcjbcbhclaaGreatDoorWt36
set_option maxRecDepth 100000
set_option maxHeartbeats 16000000
namespace Go.Proofs.YtoimgcjbcbhclaaGreatDoor
open Go.RowKit
def RpPost (r:PaR)(w:World)(e:Ending)(w':World):Prop:=
 match r with
 | .ok t=>∃ p,e=.returned (.tuple #[nPtr p,.agg #[.int .i64 0,.int .i64 (-1)]])∧NAt (From w.heap.size) w' t p∧Below w.heap.size w w'
 | _=>∃ er pl:Int,er≠0∧e=.returned (.tuple #[.pointer none,.agg #[.int .i64 er,.int .i64 pl]])∧Below w.heap.size w w'
theorem rp_bad {r:PaR}{w w':World}{er pl:Int}(hr:∀ t,r≠.ok t)(he:er≠0)(hb:Below w.heap.size w w'):RpPost r w (.returned (.tuple #[.pointer none,.agg #[.int .i64 er,.int .i64 pl]])) w':=by
 cases r with
 | ok t=>exact absurd rfl (hr t)
 | bare=>exact⟨er,pl,he,rfl,hb⟩
 | «at» a b=>exact⟨er,pl,he,rfl,hb⟩
section
variable {w1:World} {R:Nat} {x y:Value} (a b:Value)
include w1 R x y a b
theorem res_set (hb:w1.heap[R]? = some (.cells #[x,y] 86 (0,0))):((w1.setCell ⟨R,0,none⟩ a).setCell ⟨R,1,none⟩ b).heap[R]? = some (.cells #[a,b] 86 (0,0)):=by
 have h1:(w1.setCell ⟨R,0,none⟩ a).heap[R]? = some (.cells #[a,y] 86 (0,0)):=by rw[heap_set hb];rfl
 rw[heap_set h1]
 rfl
theorem res_cells (o:Obj)(hb:w1.heap[R]? = some (.cells #[x,y] 86 (0,0))):(((w1.setCell ⟨R,0,none⟩ a).setCell ⟨R,1,none⟩ b).alloc o).cell? ⟨R,0,none⟩=some a∧(((w1.setCell ⟨R,0,none⟩ a).setCell ⟨R,1,none⟩ b).alloc o).cell? ⟨R,1,none⟩=some b:=by
 have h:=(Below.heap_alloc _ o _ (lt_of_heap (res_set a b hb))).trans (res_set a b hb)
 exact⟨by rw[cell_of h];rfl,by rw[cell_of h];rfl⟩
end
theorem rparse_toks (ws:List ByteArray)(s:ByteArray)(w:World)(er:Int)(p:Nat)(he:er≠0)(hr:∀ t,rparseS ws s≠.ok t)(hL:RefLists ws w)(hT:∀ W,RefLists ws W→Calls Tryz.prog 109 #[.string s] W (UPost (.bad er p) W)):Calls Tryz.prog 46 #[.string s] w (RpPost (rparseS ws s) w):=by
 have hB0:Below w.heap.size w (w.alloc (.cells #[.int .i64 0,.int .i64 0] 86)):=(Below.refl _ _).alloc (Nat.le_refl _) _
 have HC:=hide (hT _ (hL.later hB0))
 have HB0:=hide hB0
 have HR:=hide hr
 have hb0:(er != 0)=true:=bne_iff_ne.2 he
 clear hT hL hr hB0
 go_enter Tryz.func46,Tryz.ntmps46
 go_wp2_with fail
 refine cm HC.out ?_
 rintro e w1 ⟨rfl,hb⟩
 have rb:w1.heap[w.heap.size]? = some (.cells #[.int .i64 0,.int .i64 0] 86 (0,0)):=(hb.block _ (by simp)).trans (heap_new _ _)
 have r0:w1.cell? ⟨w.heap.size,0,none⟩=some (.int .i64 0):=by rw[cell_of rb];rfl
 have r1:w1.cell? ⟨w.heap.size,1,none⟩=some (.int .i64 0):=by rw[cell_of rb];rfl
 have rf:=frozen_of rb
 have rf0:=rf 0
 have rf1:=rf 1
 have hrl:=lt_of_heap rb
 obtain⟨q0,q1⟩:=res_cells (.int .i64 er) (.int .i64 (p:Int)) (.cells #[.int .i64 er,.int .i64 (p:Int)] 86) rb
 have HB:=hide (HB0.out.trans (hb.mono (by simp)))
 clear hb HC rb
 go_wp2_with fail
 refine wp_region_any (by kernel_rfl) ?_
 change wpAny _ _ _ _ _ _ _ (World.drew _)
 refine wt 1 (.pointer none) ?_
 refine wr1 0 fun K hK=>?_
 go_simp
 refine hK _ _ ?_
 clear hK K
 refine wr1 2 fun K hK=>?_
 go_simp
 refine hK _ _ ?_
 clear hK K
 refine wpAny_done (by kernel_rfl) ?_ _
 go_simp
 go_wp2
 exact bodyPost_ret (v:=.tuple #[.pointer none,.agg #[.int .i64 er,.int .i64 (p:Int)]]) (by simp[results,Tryz.results46,go_sem,q0,q1]) rfl (rp_bad HR.out he ((((HB.out.setCell (p:=⟨w.heap.size,0,none⟩) (Nat.le_refl _) _).setCell (p:=⟨w.heap.size,1,none⟩) (Nat.le_refl _) _).alloc (by simp;omega) _).drew))
def paOf:PR Tr→PaR
 | .ok t _=>if 1500<t.count then .bare else .ok t
 | .bad er p=>.at er p
 | .out=>.bare
structure Pgm (c:PC)(wb:World)(N:Nat)(acc:List Tr)(u:Value)(qs:List Nat)(j:Nat)(W:World):Prop where
 ps:Ps c W j 0 (-1)
 op:Open N W (.mk 1 noText 0 acc) N u qs
 ap:Ap c.P N wb W
structure PgBad (c:PC)(wb:World)(N:Nat)(er pl:Int)(j:Nat)(W:World):Prop where
 ps:Ps c W j er pl
 ap:Ap c.P N wb W
structure POk (c:PC)(wb:World)(N Z:Nat)(acc:List Tr)(u:Value)(qs:List Nat)(x:Tr)(j:Nat)(wc:World)(pc:Nat):Prop where
 pg:Pgm c wb N acc u qs j wc
 nd:NAts (fun b=>Z≤b) wc [x] [pc]
 kb:NAts (fun b=>(N≤b∧b≠N∧u.ownBlock≠some b)∧b<Z) wc acc qs
structure PBad (c:PC)(wb:World)(N:Nat)(acc:List Tr)(u:Value)(qs:List Nat)(er pl:Int)(wc:World)(pc:Nat):Prop where
 pg:∃ j,PgBad c wb N er pl j wc
 op:Open N wc (.mk 1 noText 0 acc) N u qs
 he:er≠0
theorem Open.kv {B:Nat}{w:World}{t:Tr}{p:Nat}{u:Value}{ps:List Nat}(h:Open B w t p u ps):KV B w t.kids u:=⟨ps,h.row,NAts.mono (fun _ hb _=>⟨hb.1,hb.2.2⟩) _ _ h.kids⟩
theorem pgm_new {w2:World}{l:List Tk}{g cap P:Nat}{cur:Array Value}(hP:w2.heap.size=P)(hE:Ends l)(h0:0<l.length)(hl:l.length≤3001)(hh:w2.heap[g]? = some (.cells cur 167 (0,0)))(h1:l.length≤cap)(h2:cap≤maxLen)(h3:cur.size=cap * 4)(h4:cur.toList.take (l.length * 4)=tksCells l) :
  Pgm ⟨P,l,g,cap,P+1⟩ (w2.alloc (.cells #[.slice (some ⟨g,0,none⟩) l.length cap,.int .i64 0,.int .i64 0,.int .i64 (-1)] 166)) (P+1) [] (.slice none 0 0) [] 0 ((w2.alloc (.cells #[.slice (some ⟨g,0,none⟩) l.length cap,.int .i64 0,.int .i64 0,.int .i64 (-1)] 166)).alloc (nodeObj 1 noText 0 (.slice none 0 0))):=by
 subst hP
 have hg:=lt_of_heap hh
 refine⟨⟨⟨hE,⟨cur,?_,h1,h2,h3,h4⟩,?_,hl,⟨?_,?_⟩,?_⟩,?_,h0⟩,⟨Nat.le_refl _,?_,owns_nil,by nofun,NAts.nil⟩,?_⟩
 ·show ((w2.alloc _).alloc _).heap[g]? = _
  rw[Below.heap_alloc _ _ _ (by simp;omega),Below.heap_alloc _ _ _ hg]
  exact hh
 ·show g≠w2.heap.size
  omega
 ·show g<w2.heap.size+1
  omega
 ·show w2.heap.size<w2.heap.size+1
  omega
 ·show w2.heap.size+1≤_
  simp
 ·show ((w2.alloc _).alloc _).heap[w2.heap.size]? = _
  rw[Below.heap_alloc _ _ _ (by simp),heap_new];rfl
 ·show _=some (nodeObj 1 noText 0 (.slice none 0 0))
  have h:=heap_new (w2.alloc (.cells #[.slice (some ⟨g,0,none⟩) l.length cap,.int .i64 0,.int .i64 0,.int .i64 (-1)] 166)) (nodeObj 1 noText 0 (.slice none 0 0));simpa using h
 ·exact(Ap.refl _ _ _).alloc (by simp) _
theorem Open.text {B N:Nat}{w:World}{kd n:Int}{tx:ByteArray}{ts:List Tr}{u:Value}{ps:List Nat}(h:Open B w (.mk kd tx n ts) N u ps)(x:ByteArray):Open B (w.setCell ⟨N,1,none⟩ (.string x)) (.mk kd x n ts) N u ps:=by
 have hb:∀ b,b≠N→(w.setCell ⟨N,1,none⟩ (.string x)).heap[b]? = w.heap[b]?:=fun b hb=>Below.heap_setCell _ _ _ b hb
 refine⟨h.low,by rw[heap_set h.blk];rfl,?_,h.own,?_⟩
 ·exact owns_stay (I:=fun b=>b≠N) (fun b h1 _=>hb b h1) (fun g hg e=>h.own (by rw[hg,e])) h.row
 ·exact NAts.later (fun b h1 _=>hb b h1.2.1) _ _ h.kids
theorem Pgm.later {c:PC}{wb:World}{N:Nat}{acc:List Tr}{u:Value}{qs:List Nat}{j:Nat}{W W':World}(h:Pgm c wb N acc u qs j W)(hP:c.P<N)(hb:Below W.heap.size W W'):Pgm c wb N acc u qs j W':=
 ⟨h.ps.later hb,h.op.stay (Ap.of hb) hP,h.ap.trans ((Ap.of hb).mono (Nat.le_of_lt (lt_of_heap h.op.blk)))⟩
theorem PgBad.later {c:PC}{wb:World}{N:Nat}{er pl:Int}{j:Nat}{W W':World}(h:PgBad c wb N er pl j W)(hN:N≤W.heap.size)(hb:Below W.heap.size W W'):PgBad c wb N er pl j W':=
 ⟨h.ps.later hb,h.ap.trans ((Ap.of hb).mono hN)⟩
theorem fin_below {w w1 wb W:World}{P N:Nat}(hb:Below w.heap.size w w1)(h1:Below w1.heap.size w1 wb)(ha:Ap P N wb W)(hP:w1.heap.size≤P)(hN:P≤N):Below w.heap.size w W:=
 hb.trans (((h1.trans ((ha.mono (Nat.le_trans hP hN)).below hP))).mono hb.size)
theorem bare_any (n:Int)(w:World):Calls Tryz.prog 59 #[.int .i64 n] w fun e w'=>e=.returned (.agg #[.int .i64 n,.int .i64 (-1)])∧Below w.heap.size w w':=by
 go_enter Tryz.func59,Tryz.ntmps59
 go_wp2_with fail
 have q0:((w.alloc (.cells #[.int .i64 0,.int .i64 0] 86)).setCell ⟨w.heap.size,0,none⟩ (.int .i64 n)).heap[w.heap.size]? = some (.cells #[.int .i64 n,.int .i64 0] 86 (0,0)):=by rw[heap_set (heap_new _ _)];rfl
 exact bodyPost_ret (v:=.agg #[.int .i64 n,.int .i64 (-1)]) (by simp[results,Tryz.results59,go_sem]) rfl ⟨rfl,(Below.refl _ _).alloc (Nat.le_refl _) _⟩
theorem rparse_main (s:ByteArray)(w:World)(l:List Tk)(F:Fns)(r:PR Tr)(hE:Ends l)(h0:0<l.length)(hl:l.length≤3001)(ws:List ByteArray)(hL:RefLists ws w)(hT:∀ W,RefLists ws W→Calls Tryz.prog 109 #[.string s] W (UPost (.ok l) W))
  (hF:∀ c:PC,c.l=l→RCt c F) (hN:∃ k,FNx l k F) (hK:FOk F) (hs:r=progP l F) (ho:r≠.out) (hc:∀ t j,r=.ok t j→t.count≤90000) :
  Calls Tryz.prog 46 #[.string s] w (RpPost (paOf r) w):=by
 obtain⟨i0,hi0,hz0,hz1,hz2⟩:=info_parts info22
 have f0:=hL.f0
 have f1:=hL.f1
 have hB0:Below w.heap.size w (w.alloc (.cells #[.int .i64 0,.int .i64 0] 86)):=(Below.refl _ _).alloc (Nat.le_refl _) _
 have HC:=hide (hT _ (hL.later hB0))
 have HB0:=hide hB0
 have HF:=hide hF
 have HNX:=hide hN
 have HKO:=hide hK
 have HO:=hide ho
 have HCN:=hide hc
 have hlt0:1<w.heap.size:=lt_of_cell' f0
 unfold progP at hs
 have HS:=hide hs
 obtain⟨Q,hQ⟩:∃ Q,Q=RpPost (paOf r) w:=⟨_,rfl⟩
 rw[←hQ]
 have HQ:=hide hQ
 clear hT hF hN hK hs ho hc hQ hB0 hL
 go_enter Tryz.func46,Tryz.ntmps46
 go_wp2_with fail
 refine cm HC.out ?_
 rintro e w1 ⟨v,rfl,hown,hb1⟩
 rcases hown.2 with hn|⟨g,cap,cur,rfl,hg,hh,h1,h2,h3,h4⟩
 ·omega
 have hB1:=HB0.out.trans (hb1.mono (by simp))
 have rb:w1.heap[w.heap.size]? = some (.cells #[.int .i64 0,.int .i64 0] 86 (0,0)):=(hb1.block _ (by simp)).trans (heap_new _ _)
 have hgl:=lt_of_heap hh
 have HP0:=hide (pgm_new (P:=w1.heap.size+1) (w2:=w1.alloc (.cells #[.int .i64 0,.int .i64 (-1)] 86)) (by simp) hE h0 hl ((Below.heap_alloc _ _ _ hgl).trans hh) h1 h2 h3 h4)
 have e0:w1.cell? ⟨1,0,none⟩=some (.int .i64 0):=by rw[World.cell?_of_block (w:=w) (hB1.block 1 hlt0)];exact f0
 have e1:w1.cell? ⟨1,1,none⟩=some (.int .i64 (-1)):=by rw[World.cell?_of_block (w:=w) (hB1.block 1 hlt0)];exact f1
 have hlt1:1<w1.heap.size:=lt_of_cell' e0
 have HB1:=hide hB1
 have HRB:=hide rb
 have hrl:=lt_of_heap rb
 have Hf0:=hide f0
 have Hf1:=hide f1
 clear hown hb1 hB1 hh h1 h2 h3 h4 HC f0 f1 rb
 go_wp2_with fail
 obtain⟨c,hcc⟩:∃ c:PC,c=(⟨w1.heap.size+1,l,g,cap,w1.heap.size+1+1⟩:PC):=⟨_,rfl⟩
 have cP:c.P=w1.heap.size+1:=by rw[hcc]
 have cl:c.l=l:=by rw[hcc]
 have ctb:c.tb=g:=by rw[hcc]
 have ccp:c.cap=cap:=by rw[hcc]
 have clo:c.lo=w1.heap.size+1+1:=by rw[hcc]
 have HP1:=HP0
 rw[←hcc] at HP1
 have HcP:=hide cP
 have Hcl:=hide cl
 have Hctb:=hide ctb
 have Hccp:=hide ccp
 have Hclo:=hide clo
 clear hcc HP0 cP cl ctb ccp clo
 go_loopg [] F.fuel (fun k wr=>(∃ acc j u qs,(progLoop l F k acc j).bind (fun ts i=>PR.ok (codeT (.mk 1 noText 0 ts)) i)=r∧Pgm c ((w1.alloc (.cells #[.int .i64 0,.int .i64 (-1)] 86)).alloc (.cells #[.slice (some ⟨g,0,none⟩) l.length cap,.int .i64 0,.int .i64 0,.int .i64 (-1)] 166)) (w1.heap.size+1+1) acc u qs j wr∧acc.length≤j∧(∀ t ∈ acc,t.kd=15→∃ x y,t.kids=x::y))∨(∃ er pl j,r=.bad er pl∧er≠0∧PgBad c ((w1.alloc (.cells #[.int .i64 0,.int .i64 (-1)] 86)).alloc (.cells #[.slice (some ⟨g,0,none⟩) l.length cap,.int .i64 0,.int .i64 0,.int .i64 (-1)] 166)) (w1.heap.size+1+1) er (pl:Int) j wr))
 case atStart=>exact Or.inl ⟨[],0,_,_,HS.out.symm,HP1.out,Nat.zero_le _,by simp⟩
 case round=>
  clear HS HP1 e0 e1
  rcases hrel with ⟨acc,j,u,qs,hq,hpg,hle,hall⟩|⟨er,pl,j,hq,he,hpg⟩
  ·obtain⟨k,rfl⟩:∃ k,gk=k+1:=by
    exact zbed
   have HPG:=hide hpg;have HALL:=hide hall;have hjl:j<l.length:=by have h:=hpg.ps.lt;rw[Hcl.out] at h;exact h
   have x0:=hpg.ps.c0;rw[HcP.out,Hctb.out,Hcl.out,Hccp.out] at x0;have x1:=hpg.ps.c1;rw[HcP.out] at x1;have hR:=hpg.ps.rlt;rw[HcP.out] at hR;have hTl:=hpg.ps.base.tlt;rw[Hctb.out] at hTl
   have k0:=hpg.ps.toks.1;rw[Hctb.out,Hcl.out] at k0;have hlt:(j:Int)<(l.length:Int):=by omega
   have hc1:=rok_new hpg.ps.drew;unfold pPtr at hc1;rw[HcP.out] at hc1;have HC1:=hide hc1;clear hc1
   by_cases hx:(tkA l j).kd=6
   ·have HQ6:Hid (r=.ok (.mk 1 (strictS acc) 0 acc) j):=by
     have h1:=hq;unfold progLoop at h1;rw[if_pos hx,bind_ok,codeT_block] at h1;exact h1.symm
    have b6:((tkA l j).kd != 6)=false:=by rw[hx];rfl
    clear hq hpg hall hx;go_wp2_with fail;refine wp_region_held (S:=fun W=>W=wr.drew) (by kernel_rfl) ?_;change wpAnyH _ _ _ _ _ _ _ _ (World.drew _)
    refine wg 0 (.pointer (some ⟨w1.heap.size+1,0,none⟩)) rfl (Or.inl ⟨by kernel_rfl,fun W hW=>by cases hW;go_simp⟩) rfl ?_
    refine wq1 1 fun K hK=>?_;go_simp;refine cm HC1.out ?_;rintro e w2 ⟨rfl,rfl⟩;refine hK _ _ rfl (fun _=>?_);clear hK K
    refine wg 2 (.bool true) rfl (Or.inl ⟨by kernel_rfl,fun W hW=>by cases hW;go_simp⟩) rfl ?_
    refine wg 3 (.pointer (some ⟨w1.heap.size+1,0,none⟩)) rfl (Or.inl ⟨by kernel_rfl,fun W hW=>by cases hW;go_simp⟩) rfl ?_
    refine wg 4 (.pointer (some ⟨w1.heap.size+1,0,none⟩)) rfl (Or.inl ⟨by kernel_rfl,fun W hW=>by cases hW;go_simp⟩) rfl ?_
    refine wg 5 (.pointer (some ⟨w1.heap.size+1,0,none⟩)) rfl (Or.inl ⟨by kernel_rfl,fun W hW=>by cases hW;go_simp⟩) rfl ?_
    refine wg 6 (.slice (some ⟨g,0,none⟩) l.length cap) rfl (Or.inl ⟨by kernel_rfl,fun W hW=>by cases hW;go_simp⟩) rfl ?_
    refine wg 7 (.pointer (some ⟨w1.heap.size+1,0,none⟩)) rfl (Or.inl ⟨by kernel_rfl,fun W hW=>by cases hW;go_simp⟩) rfl ?_
    refine wg 8 (.pointer (some ⟨w1.heap.size+1,0,none⟩)) rfl (Or.inl ⟨by kernel_rfl,fun W hW=>by cases hW;go_simp⟩) rfl ?_
    refine wg 9 (.pointer (some ⟨w1.heap.size+1,1,none⟩)) rfl (Or.inl ⟨by kernel_rfl,fun W hW=>by cases hW;go_simp⟩) rfl ?_
    refine wg 10 (.int .i64 (j:Int)) rfl (Or.inl ⟨by kernel_rfl,fun W hW=>by cases hW;go_simp⟩) rfl ?_
    refine wg 11 (.pointer (some ⟨g,j * 4,none⟩)) rfl (Or.inl ⟨by kernel_rfl,fun W hW=>by cases hW;go_simp⟩) rfl ?_
    refine wg 12 (.pointer (some ⟨g,j * 4,none⟩)) rfl (Or.inl ⟨by kernel_rfl,fun W hW=>by cases hW;go_simp⟩) rfl ?_
    refine wg 13 (.int .i64 (tkA l j).kd) rfl (Or.inl ⟨by kernel_rfl,fun W hW=>by cases hW;go_simp⟩) rfl ?_
    refine wg 14 (.bool false) rfl (Or.inl ⟨by kernel_rfl,fun W hW=>by cases hW;go_simp⟩) rfl ?_
    refine wg 15 (.bool false) rfl (Or.inl ⟨by kernel_rfl,fun W hW=>by cases hW;go_simp⟩) rfl ?_
    refine wpAnyH_done (by kernel_rfl) ?_ _;go_simp;go_wp2_with fail;have hPN:c.P<(w1.heap.size+1+1):=by rw[HcP.out];omega
    have HWB:Hid (Below w1.heap.size w1 ((w1.alloc (.cells #[.int .i64 0,.int .i64 (-1)] 86)).alloc (.cells #[.slice (some ⟨g,0,none⟩) l.length cap,.int .i64 0,.int .i64 0,.int .i64 (-1)] 166))):=((Below.refl _ _).alloc (Nat.le_refl _) _).alloc (by simp) _
    have HPG2:=hide (HPG.out.later hPN (Below.refl _ _).drew);have hc2:=rok_new HPG2.out.ps;unfold pPtr at hc2;rw[HcP.out] at hc2;have HC2:=hide hc2;clear hc2 HC1 x0 x1 k0;refine cm HC2.out ?_
    rintro e w2 ⟨rfl,rfl⟩;clear HC2;have hc3:=(node_cells HPG2.out.op.blk).2.2.2.1;have hcf:=(node_cells HPG2.out.op.blk).2.2.2.2;have hc1:=(node_cells HPG2.out.op.blk).2.1;have hcf1:=hcf 1
    have hcl:=lt_of_heap HPG2.out.op.blk;obtain⟨ua,uc,hue⟩:=HPG2.out.op.shape;subst hue;have HC3:=hide (strict_any HPG2.out.op.kv HALL.out (by show acc.length≤100000;omega))
    go_wp2_with fail;refine cm HC3.out ?_;rintro e w2 ⟨rfl,rfl⟩;clear HC3;have HOT:=hide (HPG2.out.op.text (strictS acc))
    have HAT:Hid (Ap c.P (w1.heap.size+1+1) ((w1.alloc (.cells #[.int .i64 0,.int .i64 (-1)] 86)).alloc (.cells #[.slice (some ⟨g,0,none⟩) l.length cap,.int .i64 0,.int .i64 0,.int .i64 (-1)] 166)) (wr.drew.setCell ⟨(w1.heap.size+1+1),1,none⟩ (.string (strictS acc)))):=HPG2.out.ap.setCell (p:=⟨(w1.heap.size+1+1),1,none⟩) (Or.inl (Nat.le_refl _)) _
    have hcnt:=unhide HCN _ _ HQ6.out;have HC4:=hide (all_any _ (.mk 1 (strictS acc) 0 acc) (Nat.le_refl _) (w1.heap.size+1+1) _ (NAt.mono (fun _ _ _=>trivial) _ _ (nv_at HOT.out.nv)) (by omega))
    go_wp2_with fail;refine cm HC4.out ?_;rintro e w5 ⟨⟨v5,q5,rfl,hown5⟩,hb5⟩;obtain⟨va,vc,rfl⟩:=row_shut hown5
    have HA5:Hid (Ap c.P (w1.heap.size+1+1) ((w1.alloc (.cells #[.int .i64 0,.int .i64 (-1)] 86)).alloc (.cells #[.slice (some ⟨g,0,none⟩) l.length cap,.int .i64 0,.int .i64 0,.int .i64 (-1)] 166)) w5):=HAT.out.trans ((Ap.of hb5).mono (by simp;omega))
    have HN5:=hide (NAt.later (fun b _ hl=>hb5.block b hl) _ _ (nv_at HOT.out.nv));clear hown5 hb5 HC4 hc1 hc3 hcf hcf1 hcl
    have hbz:Below w.heap.size w w5:=fin_below HB1.out HWB.out HA5.out (by rw[HcP.out];omega) (by rw[HcP.out];omega)
    have rbz:(w5).heap[w.heap.size]? = some (.cells #[.int .i64 0,.int .i64 0] 86 (0,0)):=(HA5.out.block w.heap.size (by omega) (by rw[HcP.out];omega)).trans ((HWB.out.block w.heap.size hrl).trans HRB.out)
    have r0:(w5).cell? ⟨w.heap.size,0,none⟩=some (.int .i64 0):=by rw[cell_of rbz];rfl
    have r1:(w5).cell? ⟨w.heap.size,1,none⟩=some (.int .i64 0):=by rw[cell_of rbz];rfl
    have rf:=frozen_of rbz;have rf0:=rf 0;have rf1:=rf 1;have hrz:=lt_of_heap rbz;obtain⟨n,hn⟩:∃ n,n=(Tr.mk 1 (strictS acc) 0 acc).count:=⟨_,rfl⟩;rw[←hn] at hcnt ⊢
    by_cases hlim:1500<n
    ·have HC6:=hide (bare_any 4 w5);have HR:Hid (∀ t,paOf r≠.ok t):=by
      intro t;rw[HQ6.out]
      show (if 1500<(Tr.mk 1 (strictS acc) 0 acc).count then PaR.bare else PaR.ok _)≠PaR.ok t
      rw[←hn,if_pos hlim]
      nofun
     have hgt:decide ((1500:Int)<(n:Int))=true:=decide_eq_true (by omega);clear HQ6 HOT HAT HPG2 HPG;go_wp2_with fail;refine cm HC6.out ?_;rintro e w6 ⟨rfl,hb6⟩
     have hbz6:Below w.heap.size w w6:=hbz.trans (hb6.mono (by omega));have rb6:=(hb6.block _ hrz).trans rbz;have s0:w6.cell? ⟨w.heap.size,0,none⟩=some (.int .i64 0):=by rw[cell_of rb6];rfl
     have s1:w6.cell? ⟨w.heap.size,1,none⟩=some (.int .i64 0):=by rw[cell_of rb6];rfl
     have sf:=frozen_of rb6;have sf0:=sf 0;have sf1:=sf 1;have hs6:=lt_of_heap rb6;have sr:=res_set (.int .i64 4) (.int .i64 (-1)) rb6
     have q0:((w6.setCell ⟨w.heap.size,0,none⟩ (.int .i64 4)).setCell ⟨w.heap.size,1,none⟩ (.int .i64 (-1))).cell? ⟨w.heap.size,0,none⟩=some (.int .i64 4):=by rw[cell_of sr];rfl
     have q1:((w6.setCell ⟨w.heap.size,0,none⟩ (.int .i64 4)).setCell ⟨w.heap.size,1,none⟩ (.int .i64 (-1))).cell? ⟨w.heap.size,1,none⟩=some (.int .i64 (-1)):=by rw[cell_of sr];rfl
     clear hb6 HC6 rb6 rbz r0 r1 rf rf0 rf1 sr;go_wp2_with fail
     exact bodyPost_ret (v:=.tuple #[.pointer none,.agg #[.int .i64 4,.int .i64 (-1)]]) (by simp[results,Tryz.results46,go_sem,q0,q1]) rfl (by rw[HQ.out];exact rp_bad HR.out (by decide) (((hbz6.setCell (p:=⟨w.heap.size,0,none⟩) (Nat.le_refl _) _).setCell (p:=⟨w.heap.size,1,none⟩) (Nat.le_refl _) _)))
    ·have hgt:decide ((1500:Int)<(n:Int))=false:=decide_eq_false (by omega);have HR:Hid (paOf r=.ok (.mk 1 (strictS acc) 0 acc)):=by
      rw[HQ6.out]
      show (if 1500<(Tr.mk 1 (strictS acc) 0 acc).count then PaR.bare else PaR.ok _)=_
      rw[←hn,if_neg hlim]
     have z0:w5.cell? ⟨1,0,none⟩=some (.int .i64 0):=by rw[World.cell?_of_block (w:=w) (hbz.block 1 hlt0)];exact unhide Hf0
     have z1:w5.cell? ⟨1,1,none⟩=some (.int .i64 (-1)):=by rw[World.cell?_of_block (w:=w) (hbz.block 1 hlt0)];exact unhide Hf1
     clear HQ6 HOT HAT HPG2 HPG;go_wp2_with fail;have sr:=res_set (.int .i64 0) (.int .i64 (-1)) rbz
     have q0:((w5.setCell ⟨w.heap.size,0,none⟩ (.int .i64 0)).setCell ⟨w.heap.size,1,none⟩ (.int .i64 (-1))).cell? ⟨w.heap.size,0,none⟩=some (.int .i64 0):=by rw[cell_of sr];rfl
     have q1:((w5.setCell ⟨w.heap.size,0,none⟩ (.int .i64 0)).setCell ⟨w.heap.size,1,none⟩ (.int .i64 (-1))).cell? ⟨w.heap.size,1,none⟩=some (.int .i64 (-1)):=by rw[cell_of sr];rfl
     clear sr rbz;refine wp_region_any (by kernel_rfl) ?_;change wpAny _ _ _ _ _ _ _ (World.drew _);refine wt 0 (nPtr (w1.heap.size+1+1)) ?_;refine wt 2 (nPtr (w1.heap.size+1+1)) ?_;refine wr1 1 fun K hK=>?_
     go_simp;refine hK _ _ ?_;clear hK K;refine wr1 3 fun K hK=>?_;go_simp;refine hK _ _ ?_;clear hK K;refine wpAny_done (by kernel_rfl) ?_ _;go_simp
     go_wp2
     refine bodyPost_ret (v:=.tuple #[nPtr (w1.heap.size+1+1),.agg #[.int .i64 0,.int .i64 (-1)]]) (by simp[results,Tryz.results46,go_sem,q0,q1]) rfl ?_;rw[HQ.out,HR.out]
     have hlow:∀ b,w1.heap.size+1+1≤b→b≠w.heap.size:=fun b hb e=>by omega
     refine⟨_,rfl,NAt.mono (fun b hb _=>by have h1:w1.heap.size+1+1≤b:=hb;show w.heap.size≤b;omega) _ _ (NAt.later (I:=fun b=>w1.heap.size+1+1≤b) (fun b hb _=>?_) _ _ HN5.out),?_⟩
     ·show ((w5.setCell ⟨w.heap.size,0,none⟩ (.int .i64 0)).setCell ⟨w.heap.size,1,none⟩ (.int .i64 (-1))).heap[b]? = _
      rw[Below.heap_setCell _ ⟨w.heap.size,1,none⟩ _ b (hlow b hb),Below.heap_setCell _ ⟨w.heap.size,0,none⟩ _ b (hlow b hb)]
     ·exact((((hbz.setCell (p:=⟨w.heap.size,0,none⟩) (Nat.le_refl _) _).setCell (p:=⟨w.heap.size,1,none⟩) (Nat.le_refl _) _))).drew
   ·have HQ6:Hid ((deepP l F.st 0 j).bind (fun t i1=>(progLoop l F k (acc++[t]) i1).bind fun ts i=>PR.ok (codeT (.mk 1 noText 0 ts)) i)=r):=by
     have h1:=hq;unfold progLoop at h1;rw[if_neg hx] at h1;rw[←h1]
     cases deepP l F.st 0 j <;> rfl
    have b6:((tkA l j).kd != 6)=true:=bne_iff_ne.2 hx;clear hq hpg hall hx
    cases hr:deepP l F.st 0 j with
    | out=>rw[hr] at HQ6;exact absurd HQ6.out.symm HO.out
    | bad er pl=>
     have HRR:=hide hr;rw[hr] at HQ6;have HQ7:Hid (r=.bad er pl):=HQ6.out.symm;clear hr HQ6;go_wp2_with fail;refine wp_region_held (S:=fun W=>W=wr.drew) (by kernel_rfl) ?_
     change wpAnyH _ _ _ _ _ _ _ _ (World.drew _);refine wg 0 (.pointer (some ⟨w1.heap.size+1,0,none⟩)) rfl (Or.inl ⟨by kernel_rfl,fun W hW=>by cases hW;go_simp⟩) rfl ?_
     refine wq1 1 fun K hK=>?_;go_simp;refine cm HC1.out ?_;rintro e w2 ⟨rfl,rfl⟩;refine hK _ _ rfl (fun _=>?_);clear hK K
     refine wg 2 (.bool true) rfl (Or.inl ⟨by kernel_rfl,fun W hW=>by cases hW;go_simp⟩) rfl ?_
     refine wg 3 (.pointer (some ⟨w1.heap.size+1,0,none⟩)) rfl (Or.inl ⟨by kernel_rfl,fun W hW=>by cases hW;go_simp⟩) rfl ?_
     refine wg 4 (.pointer (some ⟨w1.heap.size+1,0,none⟩)) rfl (Or.inl ⟨by kernel_rfl,fun W hW=>by cases hW;go_simp⟩) rfl ?_
     refine wg 5 (.pointer (some ⟨w1.heap.size+1,0,none⟩)) rfl (Or.inl ⟨by kernel_rfl,fun W hW=>by cases hW;go_simp⟩) rfl ?_
     refine wg 6 (.slice (some ⟨g,0,none⟩) l.length cap) rfl (Or.inl ⟨by kernel_rfl,fun W hW=>by cases hW;go_simp⟩) rfl ?_
     refine wg 7 (.pointer (some ⟨w1.heap.size+1,0,none⟩)) rfl (Or.inl ⟨by kernel_rfl,fun W hW=>by cases hW;go_simp⟩) rfl ?_
     refine wg 8 (.pointer (some ⟨w1.heap.size+1,0,none⟩)) rfl (Or.inl ⟨by kernel_rfl,fun W hW=>by cases hW;go_simp⟩) rfl ?_
     refine wg 9 (.pointer (some ⟨w1.heap.size+1,1,none⟩)) rfl (Or.inl ⟨by kernel_rfl,fun W hW=>by cases hW;go_simp⟩) rfl ?_
     refine wg 10 (.int .i64 (j:Int)) rfl (Or.inl ⟨by kernel_rfl,fun W hW=>by cases hW;go_simp⟩) rfl ?_
     refine wg 11 (.pointer (some ⟨g,j * 4,none⟩)) rfl (Or.inl ⟨by kernel_rfl,fun W hW=>by cases hW;go_simp⟩) rfl ?_
     refine wg 12 (.pointer (some ⟨g,j * 4,none⟩)) rfl (Or.inl ⟨by kernel_rfl,fun W hW=>by cases hW;go_simp⟩) rfl ?_
     refine wg 13 (.int .i64 (tkA l j).kd) rfl (Or.inl ⟨by kernel_rfl,fun W hW=>by cases hW;go_simp⟩) rfl ?_
     refine wg 14 (.bool true) rfl (Or.inl ⟨by kernel_rfl,fun W hW=>by cases hW;go_simp⟩) rfl ?_
     refine wg 15 (.bool true) rfl (Or.inl ⟨by kernel_rfl,fun W hW=>by cases hW;go_simp⟩) rfl ?_
     refine wpAnyH_done (by kernel_rfl) ?_ _;go_simp;clear HC1;go_wp2_with fail;have hPN:c.P<(w1.heap.size+1+1):=by rw[HcP.out];omega
     have HPD:=hide ((HPG.out.later hPN (Below.refl _ _).drew).later hPN (Below.refl _ _).drew)
     have hcs:=(unhide HF c Hcl.out).st wr.drew.drew 0 j (.bad er pl) (by omega) ((congrArg (fun l=>deepP l F.st 0 j) Hcl.out).trans HRR.out).symm (by nofun) HPD.out.ps;unfold pPtr at hcs
     rw[HcP.out,show (((0:Nat):Int)+1)=1 from rfl] at hcs;have HC:=hide hcs;obtain⟨ua,uc,hue⟩:=HPD.out.op.shape;subst hue;have hc3:=(node_cells HPD.out.op.blk).2.2.2.1
     have hcf:=(node_cells HPD.out.op.blk).2.2.2.2;have hcl:(w1.heap.size+1+1)<wr.heap.size:=lt_of_heap HPD.out.op.blk;clear hcs x0 x1 k0
     refine via2 (H:=PBad c ((w1.alloc (.cells #[.int .i64 0,.int .i64 (-1)] 86)).alloc (.cells #[.slice (some ⟨g,0,none⟩) l.length cap,.int .i64 0,.int .i64 0,.int .i64 (-1)] 166)) (w1.heap.size+1+1) acc (.slice ua acc.length uc) qs er pl) (G:=?G1) (fun CONT=>?_) ?_
     rotate_left
     ·refine wp_region_any (by kernel_rfl) ?_;change wpAny _ _ _ _ _ _ _ (World.drew _);refine wt 0 (nPtr (w1.heap.size+1+1)) ?_;refine wt 1 (nPtr (w1.heap.size+1+1)) ?_
      refine wt 2 (nPtr (w1.heap.size+1+1)) ?_;refine wt 3 (.pointer (some ⟨(w1.heap.size+1+1),3,none⟩)) ?_;refine wt 5 (.pointer (some ⟨w1.heap.size+1,0,none⟩)) ?_
      refine wr2 4 6 (fun K hK=>?_) fun K hK=>?_
      ·go_simp;refine hK _ _ ?_;clear hK K;refine wr1 6 fun K hK=>?_;go_simp;refine cm HC.out ?_;rintro e wc ⟨⟨vc,rfl,pc,rfl⟩,hpc,he,ha⟩;have HOc:=hide (HPD.out.op.stay ha hPN)
       have HHY:Hid (PBad c ((w1.alloc (.cells #[.int .i64 0,.int .i64 (-1)] 86)).alloc (.cells #[.slice (some ⟨g,0,none⟩) l.length cap,.int .i64 0,.int .i64 0,.int .i64 (-1)] 166)) (w1.heap.size+1+1) acc _ qs er pl wc pc):=⟨hpc.elim fun j hp=>⟨j,hp,HPD.out.ap.trans (ha.mono (Nat.le_of_lt (lt_of_heap HPD.out.op.blk)))⟩,HOc.out,he⟩
       have gc3:=(node_cells HOc.out.blk).2.2.2.1;have gcf:=(node_cells HOc.out.blk).2.2.2.2;have gcl:=lt_of_heap HOc.out.blk;clear ha hpc;exact zbew
      ·go_simp;refine cm HC.out ?_;rintro e wc ⟨⟨vc,rfl,pc,rfl⟩,hpc,he,ha⟩;have HOc:=hide (HPD.out.op.stay ha hPN)
       have HHY:Hid (PBad c ((w1.alloc (.cells #[.int .i64 0,.int .i64 (-1)] 86)).alloc (.cells #[.slice (some ⟨g,0,none⟩) l.length cap,.int .i64 0,.int .i64 0,.int .i64 (-1)] 166)) (w1.heap.size+1+1) acc _ qs er pl wc pc):=⟨hpc.elim fun j hp=>⟨j,hp,HPD.out.ap.trans (ha.mono (Nat.le_of_lt (lt_of_heap HPD.out.op.blk)))⟩,HOc.out,he⟩
       have gc3:=(node_cells HOc.out.blk).2.2.2.1;have gcf:=(node_cells HOc.out.blk).2.2.2.2;have gcl:=lt_of_heap HOc.out.blk;clear ha hpc;exact zbcv
     ·intro wc pc hY;have HHY:=hide hY;clear hY;have gc3:=(node_cells HHY.out.op.blk).2.2.2.1;have gcf:=(node_cells HHY.out.op.blk).2.2.2.2;have gcl:=lt_of_heap HHY.out.op.blk;have hle2:=hle
      refine wr1 8 fun K hK=>?_
      refine step_append_lies _ rfl _ _ 46 rfl (w1.heap.size+1+1) 22 i0 (.pointer none) 1 8 Tryz.underlying46 hi0 hz0 hz1 hz2 rfl (by decide) _ _ _ rfl (by have h:=HHY.out.op.row;rw[show qs.length=acc.length from NAts.length _ _ HHY.out.op.kids] at h;exact h.alloc _) ⟨wc.heap.size,0,none⟩ 1 1 [nPtr pc] rfl rfl (one_cells wc pc _ rfl) (one_one pc) (by decide) (by show acc.length+1≤maxLen;unfold maxLen;omega) (by have hkl:(Tr.mk 1 noText 0 acc).kids.length=acc.length:=rfl;omega) (by simp;omega) (wc.heap.size+1) (by simp) ?_
      intro g2 cap2 w3 hown3 hgr3 hg3 _;refine hK _ _ ?_;clear hK K
      have hbb:w3.heap[(w1.heap.size+1+1)]? = wc.heap[(w1.heap.size+1+1)]?:=(hgr3.block (w1.heap.size+1+1) (by simp;omega) (fun e=>HHY.out.op.own e.symm)).trans (Below.heap_alloc wc _ (w1.heap.size+1+1) gcl)
      have HNW:∀ v,Hid ((w3.setCell ⟨(w1.heap.size+1+1),3,none⟩ v).heap[(w1.heap.size+1+1)]? = some (nodeObj 1 noText 0 v)):=fun v=>by
       show _=_
       rw[heap_set (hbb.trans HHY.out.op.blk)];rfl
      have HBW:∀ v,Hid (Below (w1.heap.size+1+1) wc (w3.setCell ⟨(w1.heap.size+1+1),3,none⟩ v)):=fun v=>HHY.out.op.grows ((Below.refl _ wc).alloc (Nat.le_of_lt gcl) _) (by simp;omega) hgr3
      have hp3c:w3.cell? ⟨(w1.heap.size+1+1),3,none⟩=_:=(World.cell?_of_block (w:=wc) hbb).trans gc3
      have hp3f:w3.frozen? ⟨(w1.heap.size+1+1),3,none⟩=false:=(World.frozen?_of_block (w:=wc) hbb).trans (gcf 3);have hw3:(w1.heap.size+1+1)<w3.heap.size:=lt_of_heap (hbb.trans HHY.out.op.blk)
      clear hown3 hgr3 hg3 hbb gc3 gcf gcl;refine wt 9 (nPtr (w1.heap.size+1+1)) ?_;refine wt 10 (.pointer (some ⟨(w1.heap.size+1+1),3,none⟩)) ?_;refine wr1 11 fun K hK=>?_;go_simp;refine hK _ _ ?_
      clear hK K hp3c hp3f hw3;refine wpAny_done (by kernel_rfl) ?_ _;go_simp;go_wp2_with fail
      go_roundg k
      case measure=>omega
      case rel=>
       obtain⟨jc,hpc⟩:=HHY.out.pg;exact Or.inr ⟨er,pl,jc,HQ7.out,HHY.out.he,hpc.ps.ap (unhide (HBW _)) (by rw[Hclo.out];exact Nat.le_refl _),hpc.ap.trans (Ap.of (unhide (HBW _)))⟩
    | ok t j2=>
     have HRR:=hide hr;rw[hr] at HQ6;have HQ7:Hid ((progLoop l F k (acc++[t]) j2).bind (fun ts i=>PR.ok (codeT (.mk 1 noText 0 ts)) i)=r):=unhide HQ6;clear hr HQ6;go_wp2_with fail
     refine wp_region_held (S:=fun W=>W=wr.drew) (by kernel_rfl) ?_;change wpAnyH _ _ _ _ _ _ _ _ (World.drew _)
     refine wg 0 (.pointer (some ⟨w1.heap.size+1,0,none⟩)) rfl (Or.inl ⟨by kernel_rfl,fun W hW=>by cases hW;go_simp⟩) rfl ?_
     refine wq1 1 fun K hK=>?_;go_simp;refine cm HC1.out ?_;rintro e w2 ⟨rfl,rfl⟩;refine hK _ _ rfl (fun _=>?_);clear hK K
     refine wg 2 (.bool true) rfl (Or.inl ⟨by kernel_rfl,fun W hW=>by cases hW;go_simp⟩) rfl ?_
     refine wg 3 (.pointer (some ⟨w1.heap.size+1,0,none⟩)) rfl (Or.inl ⟨by kernel_rfl,fun W hW=>by cases hW;go_simp⟩) rfl ?_
     refine wg 4 (.pointer (some ⟨w1.heap.size+1,0,none⟩)) rfl (Or.inl ⟨by kernel_rfl,fun W hW=>by cases hW;go_simp⟩) rfl ?_
     refine wg 5 (.pointer (some ⟨w1.heap.size+1,0,none⟩)) rfl (Or.inl ⟨by kernel_rfl,fun W hW=>by cases hW;go_simp⟩) rfl ?_
     refine wg 6 (.slice (some ⟨g,0,none⟩) l.length cap) rfl (Or.inl ⟨by kernel_rfl,fun W hW=>by cases hW;go_simp⟩) rfl ?_
     refine wg 7 (.pointer (some ⟨w1.heap.size+1,0,none⟩)) rfl (Or.inl ⟨by kernel_rfl,fun W hW=>by cases hW;go_simp⟩) rfl ?_
     refine wg 8 (.pointer (some ⟨w1.heap.size+1,0,none⟩)) rfl (Or.inl ⟨by kernel_rfl,fun W hW=>by cases hW;go_simp⟩) rfl ?_
     refine wg 9 (.pointer (some ⟨w1.heap.size+1,1,none⟩)) rfl (Or.inl ⟨by kernel_rfl,fun W hW=>by cases hW;go_simp⟩) rfl ?_
     refine wg 10 (.int .i64 (j:Int)) rfl (Or.inl ⟨by kernel_rfl,fun W hW=>by cases hW;go_simp⟩) rfl ?_
     refine wg 11 (.pointer (some ⟨g,j * 4,none⟩)) rfl (Or.inl ⟨by kernel_rfl,fun W hW=>by cases hW;go_simp⟩) rfl ?_
     refine wg 12 (.pointer (some ⟨g,j * 4,none⟩)) rfl (Or.inl ⟨by kernel_rfl,fun W hW=>by cases hW;go_simp⟩) rfl ?_
     refine wg 13 (.int .i64 (tkA l j).kd) rfl (Or.inl ⟨by kernel_rfl,fun W hW=>by cases hW;go_simp⟩) rfl ?_
     refine wg 14 (.bool true) rfl (Or.inl ⟨by kernel_rfl,fun W hW=>by cases hW;go_simp⟩) rfl ?_
     refine wg 15 (.bool true) rfl (Or.inl ⟨by kernel_rfl,fun W hW=>by cases hW;go_simp⟩) rfl ?_
     refine wpAnyH_done (by kernel_rfl) ?_ _;go_simp;clear HC1;go_wp2_with fail;have hPN:c.P<(w1.heap.size+1+1):=by rw[HcP.out];omega
     have HPD:=hide ((HPG.out.later hPN (Below.refl _ _).drew).later hPN (Below.refl _ _).drew)
     have hcs:=(unhide HF c Hcl.out).st wr.drew.drew 0 j (.ok t j2) (by omega) ((congrArg (fun l=>deepP l F.st 0 j) Hcl.out).trans HRR.out).symm (by nofun) HPD.out.ps;unfold pPtr at hcs
     rw[HcP.out,show (((0:Nat):Int)+1)=1 from rfl] at hcs;have HC:=hide hcs;obtain⟨ua,uc,hue⟩:=HPD.out.op.shape;subst hue;have hc3:=(node_cells HPD.out.op.blk).2.2.2.1
     have hcf:=(node_cells HPD.out.op.blk).2.2.2.2;have hcl:(w1.heap.size+1+1)<wr.heap.size:=lt_of_heap HPD.out.op.blk;clear hcs x0 x1 k0
     refine via2 (H:=POk c ((w1.alloc (.cells #[.int .i64 0,.int .i64 (-1)] 86)).alloc (.cells #[.slice (some ⟨g,0,none⟩) l.length cap,.int .i64 0,.int .i64 0,.int .i64 (-1)] 166)) (w1.heap.size+1+1) wr.drew.drew.heap.size acc (.slice ua acc.length uc) qs t j2) (G:=?G2) (fun CONT=>?_) ?_
     rotate_left
     ·refine wp_region_any (by kernel_rfl) ?_;change wpAny _ _ _ _ _ _ _ (World.drew _);refine wt 0 (nPtr (w1.heap.size+1+1)) ?_;refine wt 1 (nPtr (w1.heap.size+1+1)) ?_
      refine wt 2 (nPtr (w1.heap.size+1+1)) ?_;refine wt 3 (.pointer (some ⟨(w1.heap.size+1+1),3,none⟩)) ?_;refine wt 5 (.pointer (some ⟨w1.heap.size+1,0,none⟩)) ?_
      refine wr2 4 6 (fun K hK=>?_) fun K hK=>?_
      ·go_simp;refine hK _ _ ?_;clear hK K;refine wr1 6 fun K hK=>?_;go_simp;refine cm HC.out ?_;rintro e wc ⟨⟨vc,rfl,pc,rfl,hnc⟩,hpc,ha⟩;have HOc:=hide (HPD.out.op.stay ha hPN)
       have HHY:Hid (POk c ((w1.alloc (.cells #[.int .i64 0,.int .i64 (-1)] 86)).alloc (.cells #[.slice (some ⟨g,0,none⟩) l.length cap,.int .i64 0,.int .i64 0,.int .i64 (-1)] 166)) (w1.heap.size+1+1) wr.drew.drew.heap.size acc _ qs t j2 wc pc):=⟨⟨hpc,HOc.out,HPD.out.ap.trans (ha.mono (Nat.le_of_lt (lt_of_heap HPD.out.op.blk)))⟩,NAts.cons hnc NAts.nil,HPD.out.op.kb ha hPN⟩
       have gc3:=(node_cells HOc.out.blk).2.2.2.1;have gcf:=(node_cells HOc.out.blk).2.2.2.2;have gcl:=lt_of_heap HOc.out.blk;clear ha hpc hnc;exact zbew
      ·go_simp;refine cm HC.out ?_;rintro e wc ⟨⟨vc,rfl,pc,rfl,hnc⟩,hpc,ha⟩;have HOc:=hide (HPD.out.op.stay ha hPN)
       have HHY:Hid (POk c ((w1.alloc (.cells #[.int .i64 0,.int .i64 (-1)] 86)).alloc (.cells #[.slice (some ⟨g,0,none⟩) l.length cap,.int .i64 0,.int .i64 0,.int .i64 (-1)] 166)) (w1.heap.size+1+1) wr.drew.drew.heap.size acc _ qs t j2 wc pc):=⟨⟨hpc,HOc.out,HPD.out.ap.trans (ha.mono (Nat.le_of_lt (lt_of_heap HPD.out.op.blk)))⟩,NAts.cons hnc NAts.nil,HPD.out.op.kb ha hPN⟩
       have gc3:=(node_cells HOc.out.blk).2.2.2.1;have gcf:=(node_cells HOc.out.blk).2.2.2.2;have gcl:=lt_of_heap HOc.out.blk;clear ha hpc hnc;exact zbcv
     ·intro wc pc hY;have HHY:=hide hY;clear hY;have gc3:=(node_cells HHY.out.pg.op.blk).2.2.2.1;have gcf:=(node_cells HHY.out.pg.op.blk).2.2.2.2;have gcl:=lt_of_heap HHY.out.pg.op.blk;have hle2:=hle
      refine wr1 8 fun K hK=>?_
      refine step_append_lies _ rfl _ _ 46 rfl (w1.heap.size+1+1) 22 i0 (.pointer none) 1 8 Tryz.underlying46 hi0 hz0 hz1 hz2 rfl (by decide) _ _ _ rfl (by have h:=HHY.out.pg.op.row;rw[show qs.length=acc.length from NAts.length _ _ HHY.out.pg.op.kids] at h;exact h.alloc _) ⟨wc.heap.size,0,none⟩ 1 1 [nPtr pc] rfl rfl (one_cells wc pc _ rfl) (one_one pc) (by decide) (by show acc.length+1≤maxLen;unfold maxLen;omega) (by have hkl:(Tr.mk 1 noText 0 acc).kids.length=acc.length:=rfl;omega) (by simp;omega) (wc.heap.size+1) (by simp) ?_
      intro g2 cap2 w3 hown3 hgr3 hg3 _;refine hK _ _ ?_;clear hK K
      have HEV:=hide (Open.push2 HHY.out.pg.op (HPD.out.op.apart2 (Nat.le_of_lt (lt_of_heap HPD.out.op.blk)) (Nat.le_refl _) HHY.out.nd HHY.out.kb) rfl hown3 hgr3 hg3)
      have hbb:w3.heap[(w1.heap.size+1+1)]? = wc.heap[(w1.heap.size+1+1)]?:=(hgr3.block (w1.heap.size+1+1) (by simp;omega) (fun e=>HHY.out.pg.op.own e.symm)).trans (Below.heap_alloc wc _ (w1.heap.size+1+1) gcl)
      have HNW:∀ v,Hid ((w3.setCell ⟨(w1.heap.size+1+1),3,none⟩ v).heap[(w1.heap.size+1+1)]? = some (nodeObj 1 noText 0 v)):=fun v=>by
       show _=_
       rw[heap_set (hbb.trans HHY.out.pg.op.blk)];rfl
      have HBW:∀ v,Hid (Below (w1.heap.size+1+1) wc (w3.setCell ⟨(w1.heap.size+1+1),3,none⟩ v)):=fun v=>HHY.out.pg.op.grows ((Below.refl _ wc).alloc (Nat.le_of_lt gcl) _) (by simp;omega) hgr3
      have hp3c:w3.cell? ⟨(w1.heap.size+1+1),3,none⟩=_:=(World.cell?_of_block (w:=wc) hbb).trans gc3
      have hp3f:w3.frozen? ⟨(w1.heap.size+1+1),3,none⟩=false:=(World.frozen?_of_block (w:=wc) hbb).trans (gcf 3);have hw3:(w1.heap.size+1+1)<w3.heap.size:=lt_of_heap (hbb.trans HHY.out.pg.op.blk)
      clear hown3 hgr3 hg3 hbb gc3 gcf gcl;refine wt 9 (nPtr (w1.heap.size+1+1)) ?_;refine wt 10 (.pointer (some ⟨(w1.heap.size+1+1),3,none⟩)) ?_;refine wr1 11 fun K hK=>?_;go_simp;refine hK _ _ ?_
      clear hK K hp3c hp3f hw3;refine wpAny_done (by kernel_rfl) ?_ _;go_simp;go_wp2_with fail
      go_roundg k
      case measure=>omega
      case rel=>
       obtain⟨qs2,hOq⟩:=Open.of_ev HEV.out (unhide (HNW _))
       refine Or.inl ⟨acc++[t],j2,_,qs2,HQ7.out,⟨HHY.out.pg.ps.ap (unhide (HBW _)) (by rw[Hclo.out];exact Nat.le_refl _),hOq,HHY.out.pg.ap.trans (Ap.of (unhide (HBW _)))⟩,?_,?_⟩
       ·have hgt:j<j2:=by
         obtain⟨kk,hkk⟩:=unhide HNX;exact((deepP_nx (l:=l) (d:=0) (hkk.st (0+1) j hjl)).2 t j2 HRR.out).1
        simp;omega
       ·exact zbhm
  ·have hPN:c.P<(w1.heap.size+1+1):=by rw[HcP.out];omega
   have HWB:Hid (Below w1.heap.size w1 ((w1.alloc (.cells #[.int .i64 0,.int .i64 (-1)] 86)).alloc (.cells #[.slice (some ⟨g,0,none⟩) l.length cap,.int .i64 0,.int .i64 0,.int .i64 (-1)] 166))):=((Below.refl _ _).alloc (Nat.le_refl _) _).alloc (by simp) _
   have HPG:=hide hpg;have HQ6:=hide hq;have hc1:=rok_old he hpg.ps.drew;unfold pPtr at hc1;rw[HcP.out] at hc1;have HC1:=hide hc1;clear hq hpg hc1;go_wp2_with fail
   refine wp_region_held (S:=fun W=>W=wr.drew) (by kernel_rfl) ?_;change wpAnyH _ _ _ _ _ _ _ _ (World.drew _)
   refine wg 0 (.pointer (some ⟨w1.heap.size+1,0,none⟩)) rfl (Or.inl ⟨by kernel_rfl,fun W hW=>by cases hW;go_simp⟩) rfl ?_
   refine wq1 1 fun K hK=>?_;go_simp;refine cm HC1.out ?_;rintro e w2 ⟨rfl,rfl⟩;refine hK _ _ rfl (fun _=>?_);clear hK K
   refine wg 2 (.bool false) rfl (Or.inl ⟨by kernel_rfl,fun W hW=>by cases hW;go_simp⟩) rfl ?_
   refine wg 3 undef rfl (Or.inr ⟨by kernel_rfl,rfl⟩) rfl ?_;refine wg 4 undef rfl (Or.inr ⟨by kernel_rfl,rfl⟩) rfl ?_;refine wg 5 undef rfl (Or.inr ⟨by kernel_rfl,rfl⟩) rfl ?_
   refine wg 6 undef rfl (Or.inr ⟨by kernel_rfl,rfl⟩) rfl ?_;refine wg 7 undef rfl (Or.inr ⟨by kernel_rfl,rfl⟩) rfl ?_;refine wg 8 undef rfl (Or.inr ⟨by kernel_rfl,rfl⟩) rfl ?_
   refine wg 9 undef rfl (Or.inr ⟨by kernel_rfl,rfl⟩) rfl ?_;refine wg 10 undef rfl (Or.inr ⟨by kernel_rfl,rfl⟩) rfl ?_;refine wg 11 undef rfl (Or.inr ⟨by kernel_rfl,rfl⟩) rfl ?_
   refine wg 12 undef rfl (Or.inr ⟨by kernel_rfl,rfl⟩) rfl ?_;refine wg 13 undef rfl (Or.inr ⟨by kernel_rfl,rfl⟩) rfl ?_;refine wg 14 undef rfl (Or.inr ⟨by kernel_rfl,rfl⟩) rfl ?_
   refine wg 15 (.bool false) rfl (Or.inl ⟨by kernel_rfl,fun W hW=>by cases hW;go_simp⟩) rfl ?_
   refine wpAnyH_done (by kernel_rfl) ?_ _;go_simp;clear HC1;go_wp2_with fail;have hsN:(w1.heap.size+1+1)≤wr.heap.size:=by have h:=HPG.out.ap.size;simp at h;exact h
   have HPG2:=hide (HPG.out.later hsN (Below.refl _ _).drew);have hc2:=rok_old he HPG2.out.ps;unfold pPtr at hc2;rw[HcP.out] at hc2;have HC2:=hide hc2;clear hc2;refine cm HC2.out ?_;rintro e w2 ⟨rfl,rfl⟩
   clear HC2;have y2:=HPG.out.ps.c2;rw[HcP.out] at y2;have y3:=HPG.out.ps.c3;rw[HcP.out] at y3;have hyl:=HPG.out.ps.rlt;rw[HcP.out] at hyl;have HA5:=hide HPG.out.ap
   have HR:Hid (∀ t,paOf r≠.ok t):=by
    intro t;rw[HQ6.out]
    nofun
   have hbz:Below w.heap.size w wr:=fin_below HB1.out HWB.out HA5.out (by rw[HcP.out];omega) (by rw[HcP.out];omega)
   have rbz:(wr).heap[w.heap.size]? = some (.cells #[.int .i64 0,.int .i64 0] 86 (0,0)):=(HA5.out.block w.heap.size (by omega) (by rw[HcP.out];omega)).trans ((HWB.out.block w.heap.size hrl).trans HRB.out)
   have r0:(wr).cell? ⟨w.heap.size,0,none⟩=some (.int .i64 0):=by rw[cell_of rbz];rfl
   have r1:(wr).cell? ⟨w.heap.size,1,none⟩=some (.int .i64 0):=by rw[cell_of rbz];rfl
   have rf:=frozen_of rbz;have rf0:=rf 0;have rf1:=rf 1;have hrz:=lt_of_heap rbz;clear HPG HPG2 HQ6;go_wp2_with fail;have sr:=res_set (.int .i64 er) (.int .i64 (pl:Int)) rbz
   have q0:((wr.setCell ⟨w.heap.size,0,none⟩ (.int .i64 er)).setCell ⟨w.heap.size,1,none⟩ (.int .i64 (pl:Int))).cell? ⟨w.heap.size,0,none⟩=some (.int .i64 er):=by rw[show ((wr.setCell ⟨w.heap.size,0,none⟩ (.int .i64 er)).setCell ⟨w.heap.size,1,none⟩ (.int .i64 (pl:Int))).cell? _=_ from cell_of (w:=(wr.setCell ⟨w.heap.size,0,none⟩ (.int .i64 er)).setCell ⟨w.heap.size,1,none⟩ (.int .i64 (pl:Int))) sr 0];rfl
   have q1:((wr.setCell ⟨w.heap.size,0,none⟩ (.int .i64 er)).setCell ⟨w.heap.size,1,none⟩ (.int .i64 (pl:Int))).cell? ⟨w.heap.size,1,none⟩=some (.int .i64 (pl:Int)):=by rw[show ((wr.setCell ⟨w.heap.size,0,none⟩ (.int .i64 er)).setCell ⟨w.heap.size,1,none⟩ (.int .i64 (pl:Int))).cell? _=_ from cell_of (w:=(wr.setCell ⟨w.heap.size,0,none⟩ (.int .i64 er)).setCell ⟨w.heap.size,1,none⟩ (.int .i64 (pl:Int))) sr 1];rfl
   clear sr rbz;refine wp_region_any (by kernel_rfl) ?_;change wpAny _ _ _ _ _ _ _ (World.drew _);refine wt 0 (.pointer (some ⟨w1.heap.size+1,0,none⟩)) ?_
   refine wt 1 (.pointer (some ⟨w1.heap.size+1,0,none⟩)) ?_;refine wt 2 (.pointer (some ⟨w1.heap.size+1,2,none⟩)) ?_;refine wt 4 (.pointer none) ?_;refine wr1 3 fun K hK=>?_;go_simp;refine hK _ _ ?_
   clear hK K;refine wr1 5 fun K hK=>?_;go_simp;refine hK _ _ ?_;clear hK K;refine wpAny_done (by kernel_rfl) ?_ _;go_simp
   go_wp2
   exact bodyPost_ret (v:=.tuple #[.pointer none,.agg #[.int .i64 er,.int .i64 (pl:Int)]]) (by simp[results,Tryz.results46,go_sem,q0,q1]) rfl (by rw[HQ.out];exact rp_bad HR.out he ((((hbz.setCell (p:=⟨w.heap.size,0,none⟩) (Nat.le_refl _) _).setCell (p:=⟨w.heap.size,1,none⟩) (Nat.le_refl _) _))).drew.drew)
theorem tPM_not:∀ g ∈ signsS,g≠tPM:=by decide +kernel
theorem rparse_any (ws:List ByteArray)(s:ByteArray)(w:World)(hs:s.size≤3000)(hL:RefLists ws w)(hws:∀ x ∈ ws,sgP 2 x=none):Calls Tryz.prog 46 #[.string s] w (RpPost (rparseS ws s) w):=by
 have hT:∀ W,RefLists ws W→Calls Tryz.prog 109 #[.string s] W (UPost (toksR ws signsS s (pastN gapB s 0) []) W):=fun W h=>refTokens_any ws s W hs h
 cases hl:toksR ws signsS s (pastN gapB s 0) [] with
 | bad er p=>
  have he:=toks_er ws signsS s rf_signs_pos _ _ [] er p rfl (pastN_le gapB s 0 (Nat.zero_le _)) hl;rw[hl] at hT;exact rparse_toks ws s w er p he (fun t h=>by unfold rparseS at h;rw[hl] at h;cases h) hL hT
 | ok l=>
  rw[hl] at hT;have hE:=toks_ends rf_signs_pos hl;have hN:=toks_noSg rf_signs_pos hws tPM_not hl;have h3:l.length≤3001:=by omega
  have hto:=rprog_total hE.1 hE.2.1 h3;have hpt:=prog_total hE.1 hE.2.1 h3;have hr:rparseS ws s=paOf (progP l (rfns l KK)):=by
   unfold rparseS;rw[hl];simp only
   cases progP l (rfns l KK) <;> rfl
  rw[hr];refine rparse_main s w l (rfns l KK) _ hE.1 hE.2.1 h3 ws hL hT (fun c hc=>?_) ⟨KK,rfns_nx hE.1 KK⟩ (rfns_ok l KK) rfl hto.1 (fun t j h=>?_)
  ·subst hc;exact rfns_all hE.1 KK
  ·rcases rprog_imp hN.1 hN.2 KK KK t j h with h2|h2
   ·have h4:=prog_cb (fns_cb KK) h2;have h5:=hpt.2 t j h2;omega
   ·exact absurd h2 hpt.1
end Go.Proofs.YtoimgcjbcbhclaaGreatDoor
namespace Go.Proofs.YtoimgcjbcbhclaaGreatDoor
open Go.ChangeShapes Go.WideShapes Go.ChangeAt Go.WideMaps Go.WideElems Go.RowKit
def jn (a b:ByteArray):ByteArray:=⟨(a.data.toList++10::b.data.toList).toArray⟩
def shRd (D:Nat):Rd→Rd
 | .tok kd tx n e=>.tok kd tx n (D+e)
 | .bad er p=>.bad er (D+p)
def shTk (D:Nat)(t:Tk):Tk:=⟨t.kd,t.tx,t.n,D+t.pl⟩
end Go.Proofs.YtoimgcjbcbhclaaGreatDoor
