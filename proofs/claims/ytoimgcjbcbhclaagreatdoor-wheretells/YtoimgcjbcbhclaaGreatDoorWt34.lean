/-
  The document's parser: values of one token or in signs of their own.
-/
import Derived.Test.YtoimgcjbcbhclaaGreatDoorWt33
import Derived.Laws.IdiomRangeMap
import Derived.Maps.RangeRun
set_option maxRecDepth 100000
set_option maxHeartbeats 16000000
namespace Go.Proofs.YtoimgcjbcbhclaaGreatDoor
open Go.RowKit
abbrev boxA (c:PC):Obj:=.cells #[pPtr c] 164
abbrev boxB (d:Nat):Obj:=.cells #[.int .i64 (d:Int)] 3
abbrev tokO (t:Tk):Obj:=.cells #[.int .i64 t.kd,.string t.tx,.int .i64 t.n,.int .i64 (t.pl:Int)] 167
theorem new_obj {w:World}{o:Obj}{g:Nat}(hg:g=w.heap.size):(w.alloc o).heap[g]? = some o:=by subst hg;exact heap_new _ _
theorem nv_leaf2 {B:Nat}{w:World}(hB:B≤w.heap.size)(kd:Int)(tx:ByteArray)(z:Int)(q:Nat)(hq:q=w.heap.size):NV B (w.alloc (nodeObj kd tx z (.slice none 0 0))) (.mk kd tx z []) (nPtr q):=by subst hq;exact nv_leaf hB kd tx z
section
variable (c:PC) (w:World) (d:Nat) (o:Obj)
include c w d o
theorem box2_new (hP:c.P<w.heap.size):Box2 c w.heap.size (w.heap.size+1) d (((w.alloc (boxA c)).alloc (boxB d)).alloc o).drew:=by
 refine⟨⟨?_,by omega⟩,⟨?_,by omega⟩⟩
 ·show (((w.alloc (boxA c)).alloc (boxB d)).alloc o).heap[w.heap.size]? = _
  rw[Below.heap_alloc _ _ _ (by simp;omega),Below.heap_alloc _ _ _ (by simp)]
  exact heap_new _ _
 ·show (((w.alloc (boxA c)).alloc (boxB d)).alloc o).heap[w.heap.size+1]? = _
  rw[Below.heap_alloc _ _ _ (by simp)];exact new_obj (by simp)
theorem fst_ap:Ap c.P w.heap.size w (((w.alloc (boxA c)).alloc (boxB d)).alloc o).drew:=
 ((((Ap.refl c.P w.heap.size w).alloc (Nat.le_refl _) _).alloc (by simp) _).alloc (by simp;omega) _).drew
end
section
variable {c:PC} (w:World) (d i:Nat)
include c w d i
open zrqde in
theorem rfirst_name (hk:(tkA c.l i).kd=1)(h:Ps c w i 0 (-1)) :
  Calls Tryz.prog 297 #[pPtr c,.int .i64 (d:Int)] w (QPost c w (NV w.heap.size) ZN (.ok (.mk 23 (tkA c.l i).tx 0 []) (i+1))):=by
 exact zeaq
open zrqdf in
theorem rfirst_num (hk:(tkA c.l i).kd=3)(h:Ps c w i 0 (-1)) :
  Calls Tryz.prog 297 #[pPtr c,.int .i64 (d:Int)] w (QPost c w (NV w.heap.size) ZN (.ok (.mk 17 noText (tkA c.l i).n []) (i+1))):=by
 exact zeaq
open zrqdg in
theorem rfirst_str (hk:(tkA c.l i).kd=4)(h:Ps c w i 0 (-1)) :
  Calls Tryz.prog 297 #[pPtr c,.int .i64 (d:Int)] w (QPost c w (NV w.heap.size) ZN (.ok (.mk 18 (tkA c.l i).tx 0 []) (i+1))):=by
 exact zeaq
end
section
variable {c:PC} {F:Fns} (hF:RCt c F)
include c F hF
open zrqcz in
theorem rfirst_par (w:World)(d i:Nat)(r:PR Tr)(hd:d≤30)(hn1:(tkA c.l i).kd≠1)(hn3:(tkA c.l i).kd≠3)(hn4:(tkA c.l i).kd≠4)(hf:fx c.l i=tOpen)(hs:r=inParP c.l F d i)(ho:r≠.out)(h:Ps c w i 0 (-1)) :
  Calls Tryz.prog 297 #[pPtr c,.int .i64 (d:Int)] w (QPost c w (NV w.heap.size) ZN r):=by
 exact zrq
open zrqda in
theorem rfirst_fun (hN:∃ k,FNx c.l k F)(hK:FOk F)(w:World)(d i:Nat)(r:PR Tr)(hd:d≤30)(hn1:(tkA c.l i).kd≠1)(hn3:(tkA c.l i).kd≠3)(hn4:(tkA c.l i).kd≠4)(hnp:¬ fx c.l i=tOpen)(hf:fx c.l i=tFunction)(hs:r=rlambdaP c.l F d i)(ho:r≠.out)(h:Ps c w i 0 (-1)) :
  Calls Tryz.prog 297 #[pPtr c,.int .i64 (d:Int)] w (QPost c w (NV w.heap.size) ZN r):=by
 have hm:mustP c.l tFunction i=.ok () (i+1):=by unfold mustP;rw[if_pos hf]
 unfold rlambdaP at hs
 rw[hm,bind_ok] at hs
 exact zrq
open zrqdb in
theorem rfirst_obj (w:World)(d i:Nat)(r:PR Tr)(hd:d≤30)(hn1:(tkA c.l i).kd≠1)(hn3:(tkA c.l i).kd≠3)(hn4:(tkA c.l i).kd≠4)(hnp:¬ fx c.l i=tOpen)(hnf:¬ fx c.l i=tFunction)(hf:fx c.l i=tLBrace)(hs:r=robjectP c.l F d i)(ho:r≠.out)(h:Ps c w i 0 (-1)) :
  Calls Tryz.prog 297 #[pPtr c,.int .i64 (d:Int)] w (QPost c w (NV w.heap.size) ZN r):=by
 have hm:mustP c.l tLBrace i=.ok () (i+1):=by unfold mustP;rw[if_pos hf]
 unfold robjectP at hs
 rw[hm,bind_ok] at hs
 exact zrq
end
section
variable {c:PC} (w:World) (d i:Nat) (hn1:(tkA c.l i).kd≠1) (hn3:(tkA c.l i).kd≠3) (hn4:(tkA c.l i).kd≠4) (hnp:¬ fx c.l i=tOpen) (hnf:¬ fx c.l i=tFunction) (hnb:¬ fx c.l i=tLBrace)
include c w d i hn1 hn3 hn4 hnp hnf hnb
open zrqdc in
theorem rfirst_lit (hk2:(tkA c.l i).kd=2)(hlk:0<litK (tkA c.l i).tx)(h:Ps c w i 0 (-1)) :
  Calls Tryz.prog 297 #[pPtr c,.int .i64 (d:Int)] w (QPost c w (NV w.heap.size) ZN (.ok (.mk (litK (tkA c.l i).tx) noText 0 []) (i+1))):=by
 have hl:i+1<c.l.length:=next_lt h.base.ends h.lt (by rw[hk2];decide)
 have bk:((tkA c.l i).kd==2)=true:=beq_iff_eq.2 hk2
 clear hk2
 exact zrq
open zrqdd in
theorem rfirst_no (hno:¬ ((tkA c.l i).kd=2∧0<litK (tkA c.l i).tx))(h:Ps c w i 0 (-1)) :
  Calls Tryz.prog 297 #[pPtr c,.int .i64 (d:Int)] w (QPost c w (NV w.heap.size) ZN (badF c.l 3 i)):=by
 exact zrq
end
theorem rpairs_nil {c:PC}{F:Fns}(hF:RCt c F)(w:World)(d i g o:Nat)(r:PR Tr)(hd:d≤30)(hs:r=rpairs c.l F d [] i)(ho:r≠.out)(h:Ps c w i 0 (-1)) :
  Calls Tryz.prog 254 #[pPtr c,.int .i64 (d:Int),.slice (some ⟨g,o,none⟩) 0 0] w (QPost c w (NV w.heap.size) ZN r):=by
 have HC:=hide (hF.sg w d i r hd hs ho h)
 have HO:=hide ho
 clear h hs ho hF
 go_enter Tryz.func254,Tryz.ntmps254
 exact zbdb
def PairC (c:PC)(F:Fns)(d g o:Nat)(ls:List ByteArray):Prop:=∀ w i r,r=rpairs c.l F d ls i→r≠.out→Ps c w i 0 (-1)→w.heap[g]? = some (.cells lvCells 9 (0,0))→Calls Tryz.prog 254 #[pPtr c,.int .i64 (d:Int),.slice (some ⟨g,o,none⟩) ls.length ls.length] w (QPost c w (NV w.heap.size) ZN r)
theorem nv_at {B:Nat}{w:World}{t:Tr}{q:Nat}(h:NV B w t (nPtr q)):NAt (fun b=>B≤b) w t q:=by
 exact zbhk
theorem ops_made2 (W:World)(N:Nat)(hN:N=W.heap.size):∃ m1 m2 m3 m4 m5 m6 m7:Array MapEntry,
  (Instr.makeMap 89 none).run Tryz.prog W.drew.drew=.ok (.map (some N)) (W.alloc (.map #[] 0)).drew.drew
  ∧ (Instr.mapUpdate 89 (.map (some N)) (.string tOr) (.int .i64 25)).run Tryz.prog (W.alloc (.map #[] 0)).drew.drew=.ok () (W.alloc (.map m1 1)).drew.drew
  ∧ (Instr.mapUpdate 89 (.map (some N)) (.string tAnd) (.int .i64 26)).run Tryz.prog (W.alloc (.map m1 1)).drew.drew=.ok () (W.alloc (.map m2 2)).drew.drew
  ∧ (Instr.mapUpdate 89 (.map (some N)) (.string tSame) (.int .i64 27)).run Tryz.prog (W.alloc (.map m2 2)).drew.drew=.ok () (W.alloc (.map m3 3)).drew.drew
  ∧ (Instr.mapUpdate 89 (.map (some N)) (.string tLess) (.int .i64 28)).run Tryz.prog (W.alloc (.map m3 3)).drew.drew=.ok () (W.alloc (.map m4 4)).drew.drew
  ∧ (Instr.mapUpdate 89 (.map (some N)) (.string tAdd) (.int .i64 29)).run Tryz.prog (W.alloc (.map m4 4)).drew.drew=.ok () (W.alloc (.map m5 5)).drew.drew
  ∧ (Instr.mapUpdate 89 (.map (some N)) (.string tSub) (.int .i64 30)).run Tryz.prog (W.alloc (.map m5 5)).drew.drew=.ok () (W.alloc (.map m6 6)).drew.drew
  ∧ (Instr.mapUpdate 89 (.map (some N)) (.string tMul) (.int .i64 31)).run Tryz.prog (W.alloc (.map m6 6)).drew.drew=.ok () (W.alloc (.map m7 7)).drew.drew
  ∧ ∀ s,(Instr.lookup 89 (.map (some N)) (.string s) false).run Tryz.prog (W.alloc (.map m7 7)).drew.drew=.ok (.int .i64 (opK s)) (W.alloc (.map m7 7)).drew.drew:=by
 subst hN
 exact ops_made W.drew.drew
theorem fits_ways (s x:ByteArray) :
  (fitsB s x=true∧(x.toList==s.toList)=true)∨(fitsB s x=true∧(x.toList==s.toList)=false∧(s.toList==[43,45])=true∧(x.toList==[43])=true)
  ∨ (fitsB s x=true∧(x.toList==s.toList)=false∧(s.toList==[43,45])=true∧(x.toList==[43])=false∧(x.toList==[45])=true)
  ∨ (fitsB s x=false∧(x.toList==s.toList)=false∧(s.toList==[43,45])=false)
  ∨ (fitsB s x=false∧(x.toList==s.toList)=false∧(s.toList==[43,45])=true∧(x.toList==[43])=false∧(x.toList==[45])=false):=by
 unfold fitsB
 by_cases h1:x=s
 ·exact Or.inl ⟨by simp[h1],tl_eq h1⟩
 ·by_cases h2:s=tPM
  ·by_cases h3:x=tAdd
   ·exact Or.inr (Or.inl ⟨by simp[h2,h3],tl_ne h1,tl_eqL (b:=tPM) rfl h2,tl_eqL (b:=tAdd) rfl h3⟩)
   ·by_cases h4:x=tSub
    ·exact Or.inr (Or.inr (Or.inl ⟨by simp[h2,h4],tl_ne h1,tl_eqL (b:=tPM) rfl h2,tl_neL (b:=tAdd) rfl h3,tl_eqL (b:=tSub) rfl h4⟩))
    ·exact Or.inr (Or.inr (Or.inr (Or.inr ⟨by simp[h1,h3,h4],tl_ne h1,tl_eqL (b:=tPM) rfl h2,tl_neL (b:=tAdd) rfl h3,tl_neL (b:=tSub) rfl h4⟩)))
  ·exact Or.inr (Or.inr (Or.inr (Or.inl ⟨by simp[h1,h2],tl_ne h1,tl_neL (b:=tPM) rfl h2⟩)))
section
variable {c:PC} {F:Fns} {d g o:Nat} {s:ByteArray} {rest:List ByteArray} (hg:g≠c.P) (hso:lvCells[o]? = some (.string s))
include c F d g o s rest hg hso
open zrqdh in
theorem rpairs_more (hz:rest≠[])(hC:PairC c F d g (o+1) rest):PairC c F d g o (s::rest):=by
 intro w i r hs ho h hk
 unfold rpairs at hs
 have HLT:=hide h.rlt
 have HSO:=hide hso
 have HO:=hide ho
 have HS:=hide hs
 have HK:=hide hk
 have HGN:=hide hg
 have HC:=hide (fun r hr ho=>hC w i r hr ho h hk)
 have HPC:=hide hC
 clear hs ho hso
 unfold PairC at HPC
 simp only[List.length_cons]
 obtain⟨n,hn⟩:∃ n,rest.length=n:=⟨_,rfl⟩
 rw[hn] at HC HPC
 rw[hn]
 have hn0:¬ n=0:=by rw[←hn];intro h0;exact hz (List.length_eq_zero_iff.1 h0)
 have b0:(((n:Nat):Int)+1==0)=false:=beq_eq_false_iff_ne.2 (by omega)
 clear hz hn
 clear h hk hC hg
 cases hr:rpairs c.l F d rest i with
 | out=>rw[hr] at HS;exact absurd HS.out HO.out
 | bad er pl=>
  exact zbcw
 | ok t0 j0=>
  have HC':=hide (HC.out _ hr.symm (by nofun));rw[hr] at HS;have HS2:Hid (rpairLoop c.l (rpairs c.l F d rest) s F.fuel t0 j0=r):=HS.out.symm;exact zrei
open zrqdi in
theorem rpairs_one (hz:rest=[])(hC:PairC c F d g o rest):PairC c F d g o (s::rest):=by
 intro w i r hs ho h hk
 unfold rpairs at hs
 have HLT:=hide h.rlt
 have HSO:=hide hso
 have HO:=hide ho
 have HS:=hide hs
 have HK:=hide hk
 have HGN:=hide hg
 have HC:=hide (fun r hr ho=>hC w i r hr ho h hk)
 have HPC:=hide hC
 clear hs ho hso
 subst hz
 simp only[List.length_cons,List.length_nil,Nat.zero_add]
 unfold PairC at HPC
 simp only[List.length_nil] at HC HPC
 clear h hk hC hg
 cases hr:rpairs c.l F d [] i with
 | out=>rw[hr] at HS;exact absurd HS.out HO.out
 | bad er pl=>
  exact zbcw
 | ok t0 j0=>
  have HC':=hide (HC.out _ hr.symm (by nofun));rw[hr] at HS;have HS2:Hid (rpairLoop c.l (rpairs c.l F d []) s F.fuel t0 j0=r):=HS.out.symm;exact zrei
end
theorem rpairs_any {c:PC}{F:Fns}(hF:RCt c F){d g:Nat}(hd:d≤30)(hg:g≠c.P):∀ (ls:List ByteArray) (o:Nat),lvls.drop o=ls→PairC c F d g o ls
 | [],o,_=>fun w i r hs ho h _=>rpairs_nil hF w d i g o r hd hs ho h
 | s::rest,o,he=>by
  have h1:lvls[o]? = some s:=by
   have:(lvls.drop o)[0]? = some s:=by rw[he];rfl
   rw[List.getElem?_drop] at this;exact this
  have h2:lvls.drop (o+1)=rest:=by
   have:(lvls.drop o).tail=rest:=by rw[he];rfl
   rw[List.tail_drop] at this;exact this
  have h3:lvCells[o]? = some (.string s):=by
   unfold lvCells;rw[List.getElem?_toArray,List.getElem?_map,h1];rfl
  by_cases hz:rest=[]
  ·exact rpairs_one hg h3 hz (by rw[hz];exact fun w i r hs ho h _=>rpairs_nil hF w d i g o r hd hs ho h)
  ·exact rpairs_more hg h3 hz (rpairs_any hF hd hg rest (o+1) h2)
theorem rpr_any {c:PC}{F:Fns}(hF:RCt c F)(w:World)(d i:Nat)(r:PR Tr)(g:Nat)(hd:d≤30)(hs:r=rpr c.l F 2 d i)(ho:r≠.out)(h:Ps c w i 0 (-1))(hk:w.heap[g]? = some (.cells lvCells 9 (0,0)))(hg:g≠c.P) :
  Calls Tryz.prog 254 #[pPtr c,.int .i64 (d:Int),.slice (some ⟨g,0,none⟩) 6 6] w (QPost c w (NV w.heap.size) ZN r):=
 rpairs_any hF hd hg lvls 0 rfl w i r hs ho h hk
abbrev lvO:Obj:=.cells #[.string tOr,.string tAnd,.string tSame,.string tLess,.string tPM,.string tMul] 9
theorem rvalue_any {c:PC}{F:Fns}(hF:RCt c F)(w:World)(d i:Nat)(r:PR Tr)(hd:d≤30)(hs:r=deepP c.l (valueP c.l F) d i)(ho:r≠.out)(h:Ps c w i 0 (-1)) :
  Calls Tryz.prog 193 #[pPtr c,.int .i64 ((d:Int)+1)] w (QPost c w (NV w.heap.size) ZN r):=by
 have HC:=hide (rok_new h)
 have HO:=hide ho
 have HLT:=hide h.rlt
 have HP:=hide h
 unfold deepP at hs
 by_cases h30:d=30
 ·rw[if_pos h30] at hs;have hq:r=.bad 4 (tkA c.l i).pl:=hs;subst hq;subst h30;have HC2:=hide (rfail_new c w i 4 (by decide) h);clear h hs ho hF;go_enter Tryz.func193,Tryz.ntmps193;go_wp2_with fail
  refine cm HC.out ?_;rintro e w1 ⟨rfl,rfl⟩;clear HC;go_wp2_with fail;refine cm HC2.out ?_;rintro e w2 ⟨⟨v,rfl,q,rfl⟩,hp,he,ha⟩;have HP2:=hide hp;have HA2:=hide ha;clear hp ha HC2 HP;exact zbda
 ·rw[if_neg h30] at hs;have hd2:d+1≤30:=by omega
  have hdd:decide ((30:Int)<(d:Int)+1)=false:=decide_eq_false (by omega);unfold valueP at hs;have h1:=h.c1;have f1:=h.fz 1;have hR:=h.rlt;have HS:=hide hs;have HF:=hide hF;have HH:=hide h
  have hcast:(((d+1:Nat):Nat):Int)=(d:Int)+1:=by omega
  have HCP:=hide (fun r hr ho=>hF.pr (w.alloc lvO) (d+1) i r w.heap.size hd2 hr ho (h.alloc lvO) (heap_new _ _) (Nat.ne_of_gt h.rlt));rw[hcast] at HCP
  have HAL:Hid (Ap c.P w.heap.size w (w.alloc lvO)):=(Ap.refl c.P w.heap.size w).alloc (Nat.le_refl _) _;clear h hs ho hF h30 hcast
  cases hr:F.pr 2 (d+1) i with
  | out=>rw[hr] at HS;exact absurd HS.out HO.out
  | bad er pl=>
   have HC2:=hide (HCP.out _ hr.symm (by nofun));rw[hr] at HS;have hq:r=.bad er pl:=unhide HS;subst hq;clear hr HCP HS;go_enter Tryz.func193,Tryz.ntmps193;go_wp2_with fail;refine cm HC.out ?_
   rintro e w1 ⟨rfl,rfl⟩;clear HC;go_wp2_with fail;refine cm HC2.out ?_;rintro e w2 ⟨⟨v,rfl,q,rfl⟩,⟨j,hp⟩,he,ha⟩;have HP2:=hide hp;have HA2:=hide (HAL.out.next ha)
   have HC3:=hide (rnext_old c w2 j er pl he tEq hp);clear hp ha HC2 HAL h1 f1;go_wp2_with fail;refine cm HC3.out ?_;rintro e w3 ⟨rfl,hb⟩;have HP3:=hide (HP2.out.later hb)
   have HA3:=hide (HA2.out.next (Ap.of hb));clear hb HC3;go_wp2_with fail;go_ret;exact⟨⟨_,rfl,_,rfl⟩,⟨j,HP3.out⟩,he,HA3.out⟩
  | ok t i1=>
   have HC2:=hide (HCP.out _ hr.symm (by nofun));rw[hr] at HS
   have HS2:Hid (r=if fx c.l i1=tEq then (if t.kd=23∨t.kd=36 then (deepP c.l F.vl (d+1) (i1+1)).bind fun v i2=>.ok (.mk 24 noText 0 [t,v]) i2 else badF c.l 1 i) else .ok t i1):=unhide HS
   clear hr HCP HS;go_enter Tryz.func193,Tryz.ntmps193;go_wp2_with fail;refine cm HC.out ?_;rintro e w1 ⟨rfl,rfl⟩;clear HC;go_wp2_with fail;refine cm HC2.out ?_;rintro e w2 ⟨⟨v,rfl,q,rfl,hn⟩,hp,ha⟩
   have HP2:=hide hp;have HA2:=hide (HAL.out.next ha);have HN2:Hid (NV w1.heap.size w2 t (nPtr q)):=NV.mono ⟨q,rfl,hn⟩ HAL.out.size;have HC3:=hide (rnext_any c w2 i1 tEq (by decide) hp)
   have hfl:=fx_lt hp.base.ends hp.lt (s:=tEq);have HFL:=hide hfl;clear hp ha hn HC2 HAL h1 f1 hR hfl
   by_cases hx:fx c.l i1=tEq
   ·rw[decide_eq_true hx] at HC3;rw[if_pos hx] at HS2;have hl:=HFL.out hx (by decide);clear hx HFL;go_wp2_with fail;refine cm HC3.out ?_;rintro e w3 ⟨rfl,hb⟩;have HP3:=hide (HP2.out.later hb)
    have HA3:=hide (HA2.out.next (Ap.of hb));have HN3:=hide (NV.later HN2.out (Ap.of (R:=c.P) hb) HLT.out);clear hb HC3 HN2 HP2 HA2;obtain⟨u0,ps0,hblk,_⟩:=NAt.opens (nv_at HN3.out)
    have kk:w3.cell? ⟨q,0,none⟩=some (.int .i64 t.kd):=by rw[cell_of hblk];rfl
    have hql:=lt_of_heap hblk;have h1:=HP3.out.c1;have f1:=HP3.out.fz 1;have hR:=HP3.out.rlt;have hl3:=HP3.out.base.len;have hlt:(i1:Int)<(c.l.length:Int):=by have:=HP3.out.lt;omega
    clear hblk
    by_cases ht:t.kd=23∨t.kd=36
    ·rw[if_pos ht] at HS2;have hnj:((i1:Int)+1)=(((i1+1:Nat)):Int):=by omega
     have HP4:Hid (Ps c (w3.setCell ⟨c.P,1,none⟩ (.int .i64 ((i1:Int)+1))) (i1+1) 0 (-1)):=by rw[hnj];exact HP3.out.step hl
     have HA4:Hid (Ap c.P w1.heap.size w1 (w3.setCell ⟨c.P,1,none⟩ (.int .i64 ((i1:Int)+1)))):=HA3.out.setCell (p:=⟨c.P,1,none⟩) (Or.inr rfl) _
     have HN4:Hid (NV w1.heap.size (w3.setCell ⟨c.P,1,none⟩ (.int .i64 ((i1:Int)+1))) t (nPtr q)):=NV.later HN3.out ((Ap.refl c.P w3.heap.size w3).setCell (p:=⟨c.P,1,none⟩) (Or.inr rfl) _) HLT.out
     have hcast2:((d+1:Nat):Int)+1=(d:Int)+1+1:=by omega
     cases hr2:deepP c.l F.vl (d+1) (i1+1) with
     | out=>rw[hr2] at HS2;exact absurd HS2.out HO.out
     | bad er pl=>
      have hc4:=HF.out.vl _ (d+1) (i1+1) _ hd2 hr2.symm (by nofun) HP4.out;rw[hcast2] at hc4;have HC4:=hide hc4;rw[hr2] at HS2;have hq:r=.bad er pl:=unhide HS2;subst hq;clear hr2 HS2 hc4 hcast2 hnj
      rcases ht with ht|ht
      ·have b1:(t.kd != 23)=false:=by rw[ht];rfl
       exact zbdt
      ·have b1:(t.kd != 23)=true:=by rw[ht];rfl
       have b2:(t.kd != 36)=false:=by rw[ht];rfl
       exact zbdt
     | ok v j2=>
      have hc4:=HF.out.vl _ (d+1) (i1+1) _ hd2 hr2.symm (by nofun) HP4.out;rw[hcast2] at hc4;have HC4:=hide hc4;rw[hr2] at HS2;have hq:r=.ok (.mk 24 noText 0 [t,v]) j2:=unhide HS2;subst hq
      clear hr2 HS2 hc4 hcast2 hnj
      rcases ht with ht|ht
      ·have b1:(t.kd != 23)=false:=by rw[ht];rfl
       exact zbde
      ·have b1:(t.kd != 23)=true:=by rw[ht];rfl
       have b2:(t.kd != 36)=false:=by rw[ht];rfl
       exact zbde
    ·rw[if_neg ht] at HS2;have hq:r=.bad 1 (tkA c.l i).pl:=unhide HS2;subst hq;have b1:(t.kd != 23)=true:=bne_iff_ne.2 fun h=>ht (Or.inl h)
     have b2:(t.kd != 36)=true:=bne_iff_ne.2 fun h=>ht (Or.inr h);have HP4:Hid (Ps c (w3.setCell ⟨c.P,1,none⟩ (.int .i64 (i:Int))) i 0 (-1)):=HP3.out.step HH.out.lt
     have HA4:Hid (Ap c.P w1.heap.size w1 (w3.setCell ⟨c.P,1,none⟩ (.int .i64 (i:Int)))):=HA3.out.setCell (p:=⟨c.P,1,none⟩) (Or.inr rfl) _;have HC4:=hide (rfail_new c _ i 1 (by decide) HP4.out);clear ht HS2
     go_wp2_with fail;refine cm HC4.out ?_;rintro e w4 ⟨⟨v,rfl,q4,rfl⟩,hp4,he,ha4⟩;have HP5:=hide hp4;have HA5:=hide (HA4.out.next ha4);clear hp4 ha4 HC4;go_wp2_with fail;go_ret
     exact⟨⟨_,rfl,_,rfl⟩,HP5.out,he,HA5.out⟩
   ·rw[decide_eq_false hx] at HC3;rw[if_neg hx] at HS2;have hq:r=.ok t i1:=unhide HS2;subst hq;clear hx HFL HS2;go_wp2_with fail;refine cm HC3.out ?_;rintro e w3 ⟨rfl,hb⟩
    have HP3:=hide (HP2.out.later hb);have HA3:=hide (HA2.out.next (Ap.of hb));have HN3:=hide (NV.later HN2.out (Ap.of (R:=c.P) hb) HLT.out);clear hb HC3 HN2 HP2 HA2;go_wp2_with fail;go_ret
    exact⟨⟨_,rfl,HN3.out⟩,HP3.out,HA3.out⟩
end Go.Proofs.YtoimgcjbcbhclaaGreatDoor
namespace Go.Proofs.YtoimgcjbcbhclaaGreatDoor
open Go.RowKit
open Go.ChangeMaps (setBlock)
def uns:List (ByteArray × Int):=[(tNot,32),(tTypeof,33),(tDelete,34)]
def unM:Array MapEntry:=mapOf (numsV uns)
theorem un_sg (x:ByteArray):(look2 uns x).map (fun k=>k)=(sgP 1 x).map (·.kd):=by
 unfold look2 uns
 by_cases h1:x=tNot
 ·subst h1;rfl
 ·by_cases h2:x=tTypeof
  ·subst h2;rfl
  ·by_cases h3:x=tDelete
   ·subst h3;rfl
   ·have e1:sgP 1 x=none:=by
     cases hs:sgP 1 x with
     | none=>rfl
     | some s=>
      unfold sgP at hs;rw[Option.filter_eq_some_iff] at hs;obtain⟨q1,q2⟩:=hs;unfold sgOf at q1;have q3:x=s.tx:=by simpa using List.find?_some q1
      have q4:=List.mem_of_find?_eq_some q1;have q5:s.parts=1:=by simpa using q2
      have key:∀ s ∈ sgs,s.parts=1→s.tx=tNot∨s.tx=tTypeof∨s.tx=tDelete:=by decide +kernel
      rcases key s q4 q5 with h|h|h
      ·exact absurd (q3.trans h) h1
      ·exact absurd (q3.trans h) h2
      ·exact absurd (q3.trans h) h3
    rw[e1];simp[h1,h2,h3]
theorem uns_made (W:World):∃ m1 m2:Array MapEntry,
  (Instr.makeMap 89 none).run Tryz.prog W=.ok (.map (some W.heap.size)) (W.alloc (.map #[] 0))
  ∧ (Instr.mapUpdate 89 (.map (some W.heap.size)) (.string tNot) (.int .i64 32)).run Tryz.prog (W.alloc (.map #[] 0))=.ok () (W.alloc (.map m1 1))
  ∧ (Instr.mapUpdate 89 (.map (some W.heap.size)) (.string tTypeof) (.int .i64 33)).run Tryz.prog (W.alloc (.map m1 1))=.ok () (W.alloc (.map m2 2))
  ∧ (Instr.mapUpdate 89 (.map (some W.heap.size)) (.string tDelete) (.int .i64 34)).run Tryz.prog (W.alloc (.map m2 2))=.ok () (W.alloc (.map unM 3))
  ∧ (Instr.range 89 (.map (some W.heap.size))).run Tryz.prog (W.alloc (.map unM 3))=.ok (.pointer (some ⟨W.heap.size+1,0,none⟩)) ((W.alloc (.map unM 3)).alloc (.mapIter (some W.heap.size) 3 #[] 3)):=by
 refine⟨mapOf (numsV (uns.take 1)),mapOf (numsV (uns.take 2)),mkMap 89 W,?_,?_,?_,?_⟩
 ·exact upd_last 89 3 W [] tNot _ 0 _ _ rfl rfl rfl Tryz.underlying89 rfl
 ·exact upd_last 89 3 W (numsV (uns.take 1)) tTypeof _ 1 _ _ rfl rfl rfl Tryz.underlying89 (by decide +kernel)
 ·exact upd_last 89 3 W (numsV (uns.take 2)) tDelete _ 2 _ _ rfl rfl rfl Tryz.underlying89 (by decide +kernel)
 ·have:=run_range_map (P:=Tryz.prog) (W.alloc (.map unM 3)) 89 9 3 W.heap.size unM 3 Tryz.underlying89 (heap_new _ _);rw[World.size_alloc] at this;exact this
structure Itr (M:Nat)(seen:Array Nat)(W:World):Prop where
 it:W.heap[M+1]? = some (.mapIter (some M) 3 seen 3)
 mp:W.heap[M]? = some (.map unM 3)
theorem left_push (seen:Array Nat)(e:MapEntry)(he:e ∈ (leftOf unM seen).toList):(leftOf unM (seen.push e.born)).size<(leftOf unM seen).size:=by
 have h1:leftOf unM (seen.push e.born)=(leftOf unM seen).filter (fun x=>!(x.born==e.born)):=by
  unfold leftOf;rw[Array.filter_filter]
  congr 1
  funext x
  rw[Array.contains_push]
  cases (x.born==e.born) <;> cases seen.contains x.born <;> rfl
 rw[h1]
 generalize leftOf unM seen=L at he
 have h2:(L.filter (fun x=>!(x.born==e.born))).toList=L.toList.filter (fun x=>!(x.born==e.born)):=Array.toList_filter
 have h3:(L.toList.filter (fun x=>!(x.born==e.born))).length<L.toList.length:=List.length_filter_lt_length_iff_exists.2 ⟨e,he,by simp⟩
 rw[←h2] at h3
 rw[Array.length_toList,Array.length_toList] at h3;exact h3
theorem unM_mem {e:MapEntry}(h:e ∈ unM.toList):(e.key=.string tNot∧e.val=.int .i64 32)∨(e.key=.string tTypeof∧e.val=.int .i64 33)∨(e.key=.string tDelete∧e.val=.int .i64 34):=by
 have:unM.toList=[⟨.string tNot,.int .i64 32,0⟩,⟨.string tTypeof,.int .i64 33,1⟩,⟨.string tDelete,.int .i64 34,2⟩]:=rfl
 rw[this] at h
 rcases List.mem_cons.1 h with rfl|h
 ·exact Or.inl ⟨rfl,rfl⟩
 rcases List.mem_cons.1 h with rfl|h
 ·exact Or.inr (Or.inl ⟨rfl,rfl⟩)
 rcases List.mem_cons.1 h with rfl|h
 ·exact Or.inr (Or.inr ⟨rfl,rfl⟩)
 cases h
theorem left_mem {seen:Array Nat}{e:MapEntry}(h:e ∈ (leftOf unM seen).toList):e ∈ unM.toList∧seen.contains e.born=false:=by
 unfold leftOf at h
 rw[Array.toList_filter,List.mem_filter] at h
 exact⟨h.1,by simpa using h.2⟩
theorem itr_step {M:Nat}{seen:Array Nat}{W:World}(h:Itr M seen W)(ty:TypeId) :
  ((leftOf unM seen).size=0∧(Instr.next (.pointer (some ⟨M+1,0,none⟩)) false ty).run Tryz.prog W=.ok (.tuple #[.bool false]) W) ∨
  ∃ e ∈ (leftOf unM seen).toList,∃ X:World,(Instr.next (.pointer (some ⟨M+1,0,none⟩)) false ty).run Tryz.prog W=.ok (.tuple #[.bool true,e.key,e.val]) X
   ∧ (Instr.entry (.pointer (some ⟨M+1,0,none⟩))).run Tryz.prog X=.ok (.tuple #[e.key,e.val]) X∧Itr M (seen.push e.born) X∧(∀ k,k≠M+1→X.heap[k]? = W.heap[k]?)∧X.os=W.os∧X.tape=W.tape∧X.output=W.output∧X.heap.size=W.heap.size:=by
 rcases run_next_at (P:=Tryz.prog) W ty (M+1) M 3 3 seen unM 3 h.it h.mp (by decide +kernel) (Nat.le_refl _) with hh|⟨e,he,w1,hw,hr⟩
 ·exact Or.inl hh
 ·refine Or.inr ⟨e,he,_,hr,?_⟩;have hl:M+1<W.heap.size:=lt_of_heap h.it
  have k1:∀ k,(setBlock w1 (M+1) (.mapIter (some M) 3 (seen.push e.born) 3)).heap[k]? = if k=M+1 then some (.mapIter (some M) 3 (seen.push e.born) 3) else W.heap[k]?:=by
   intro k
   rcases hw with rfl|rfl <;>
   ·unfold setBlock
    by_cases hk:k=M+1
    ·subst hk;simp[hl]
    ·rw[if_neg hk];simp[Ne.symm hk] <;> rfl
  have hI:Itr M (seen.push e.born) (setBlock w1 (M+1) (.mapIter (some M) 3 (seen.push e.born) 3)):=⟨by rw[k1,if_pos rfl],by rw[k1,if_neg (by omega)];exact h.mp⟩
  refine⟨run_entry_at _ (M+1) M 3 seen unM 3 e hI.it hI.mp (left_mem he).1 (by decide +kernel),hI,fun k hk=>by rw[k1,if_neg hk],?_,?_,?_,?_⟩
  ·rcases hw with rfl|rfl <;> rfl
  ·rcases hw with rfl|rfl <;> rfl
  ·rcases hw with rfl|rfl <;> rfl
  ·rcases hw with rfl|rfl <;> simp[setBlock]
end Go.Proofs.YtoimgcjbcbhclaaGreatDoor
namespace Go.Proofs.YtoimgcjbcbhclaaGreatDoor
open Go.RowKit
theorem rfirst_any {c:PC}{F:Fns}(hF:RCt c F)(hN:∃ k,FNx c.l k F)(hK:FOk F)(w:World)(d i:Nat)(r:PR Tr)(hd:d≤30)(hs:r=raloneP c.l F d i)(ho:r≠.out)(h:Ps c w i 0 (-1)) :
  Calls Tryz.prog 297 #[pPtr c,.int .i64 (d:Int)] w (QPost c w (NV w.heap.size) ZN r):=by
 unfold raloneP at hs
 by_cases h1:(tkA c.l i).kd=1
 ·rw[if_pos h1] at hs;subst hs;exact rfirst_name w d i h1 h
 ·rw[if_neg h1] at hs
  by_cases h3:(tkA c.l i).kd=3
  ·rw[if_pos h3] at hs;subst hs;exact rfirst_num w d i h3 h
  ·rw[if_neg h3] at hs
   by_cases h4:(tkA c.l i).kd=4
   ·rw[if_pos h4] at hs;subst hs;exact rfirst_str w d i h4 h
   ·rw[if_neg h4] at hs
    by_cases hp:fx c.l i=tOpen
    ·rw[if_pos hp] at hs;exact rfirst_par hF w d i r hd h1 h3 h4 hp hs ho h
    ·rw[if_neg hp] at hs
     by_cases hf:fx c.l i=tFunction
     ·rw[if_pos hf] at hs;exact rfirst_fun hF hN hK w d i r hd h1 h3 h4 hp hf hs ho h
     ·rw[if_neg hf] at hs
      by_cases hb:fx c.l i=tLBrace
      ·rw[if_pos hb] at hs;exact rfirst_obj hF w d i r hd h1 h3 h4 hp hf hb hs ho h
      ·rw[if_neg hb] at hs
       by_cases hl:(tkA c.l i).kd=2∧0<litK (tkA c.l i).tx
       ·rw[if_pos hl] at hs;subst hs;exact rfirst_lit w d i h1 h3 h4 hp hf hb hl.1 hl.2 h
       ·rw[if_neg hl] at hs;subst hs;exact rfirst_no w d i h1 h3 h4 hp hf hb hl h
end Go.Proofs.YtoimgcjbcbhclaaGreatDoor
