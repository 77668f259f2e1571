import Derived.Test.YticfnaiehdpbmaaGreatDoorProg
import Derived.WalkKit
import Derived.Deep.LoopGhost
import Derived.Deep.RegionWith
set_option maxRecDepth 100000
set_option maxHeartbeats 8000000
set_option linter.all false
namespace Go.Proofs.YticfnaiehdpbmaaGreatDoor
open Go.RowKit Go.Proofs.Tryz
section
def ga:=@List.getElem?_eq_getElem
def fK:=@if_neg
def gr:=@List.getElem?_eq_some_iff
def fL:=@if_pos
def gc:=@List.mem_singleton
def gf:=@List.mem_cons_self
def fM:=@Or.inl
def gd:=@Below.heap_alloc
def gs:=@World.cell?_of_block
def gj:=@List.length_append
def g3:=@List.take_succ_eq_append_getElem
def gt:=@List.mem_of_getElem?
def f3:=@Nat.zero_le
def gE:=@List.mem_cons_of_mem
def f2:=@Below.refl
def f9:=@Nat.le_trans
def gG:=@beq_eq_false_iff_ne
def gF:=@Nat.le_succ_of_le
def g8:=@List.getD_eq_getElem?_getD
def gu:=@List.length_map
def hm:=@List.getElem?_append_right
def ge:=@Nat.le_succ
def g6:=@World.frozen?_of_block
def fU:=@Or.inr
def gV:=@heap_setCell_other
def gL:=@List.length_cons
def hb:=@World.cell?_alloc_past
def g1:=@Below.heap_setCell
def gO:=@List.take_length
def gN:=@decide_eq_false
def gM:=@List.map_append
def ht:=@List.getElem?_append_left
def gT:=@List.getElem_mem
def gQ:=@Option.some.inj
def gU:=@List.mem_append
def hp:=@List.length_filter_le
def g7:=@Value.slice.injEq
def hc:=@Option.some.injEq
def gz:=@lt_of_block
def gP:=@List.mem_cons
def hn:=@Nat.lt_of_lt_of_le
def gW:=@List.map_cons
def hk:=@heap_setCell_same
def g4:=@decide_eq_true
def gR:=@Sem.run_bind
def hB:=@ByteArray.toList_eq
def h8:=@Array.getElem?_eq_some_iff
def h7:=@List.mem_of_find?_eq_some
def hG:=@World.grownBy_alloc
def hZ:=@List.getElem?_set_self
def jf:=@List.findIdx?_eq_some_iff_getElem
def hC:=@List.length_take
def ho:=@run_underlying
def hf:=@bodyPost_ret
def gY:=@info_parts
def hW:=@List.take_set_of_le
def hM:=@Result.andThen_ok
def hL:=@List.flatMap_cons
def h9:=@List.getElem?_set_ne
def iG:=@List.mem_or_eq_of_mem_set
def iD:=@List.drop_eq_getElem_cons
def g9:=@Nat.le_refl
def hD:=@heap_alloc_new
def hS:=@List.cons_append
def zalco:=@congrArg
def ip:=@World.cell?_alloc_at
def hR:=@List.nil_append
def ha:=@wpAny_done
def iB:=@List.take_of_length_le
def hy:=@List.mem_map
def i7:=@World.block_lt_of_cell?
def ia:=@List.filter_cons
def iq:=@List.append_assoc
def hH:=@underlying38
def jF:=@List.findIdx?_eq_none_iff
def iI:=@Bool.false_eq_true
def hT:=@Nat.lt_or_ge
def jc:=@List.length_eraseIdx
def jw:=@World.frozen?_alloc_old
def iK:=@World.ownsRow_nil
def iM:=@List.foldl_append
def iF:=@Int.toNat_natCast
def jl:=@List.flatMap_append
def jB:=@Array.getElem?_eq_none
def hQ:=@getD_set_ne
def zaldl:=@Tryz.underlying9
def jj:=@List.length_zipIdx
def i6:=@List.getElem?_map
def ib:=@Nat.zero_add
def io:=@Prod.mk.injEq
def lm:=@List.eq_nil_of_length_eq_zero
def im:=@Nat.le_of_eq
def jg:=@List.prefix_rfl
def i8:=@List.append_nil
def iW:=@DataW.agg.injEq
def iL:=@Addr.mk.injEq
def j3:=@List.take_append_drop
def jK:=@List.size_toArray
def jH:=@Function.comp_def
def jx:=@Bool.eq_false_iff
def jk:=@List.take_zero
def jz:=@List.not_mem_nil
def kq:=@List.take_succ_cons
def kz:=@List.getElem_of_mem
def lN:=@Array.setIfInBounds_comm
def jJ:=@wpList_load_row
def j9:=@World.size_setCell
def kh:=@List.set_cons_succ
def hz:=@if_true
def lI:=@List.length_eq_zero_iff
def iE:=@Nat.add_mul
def j7:=@wpList_append_own
def kc:=@of_decide_eq_true
def jM:=@List.find?_map
def i1:=@Nat.zero_mul
def iY:=@Nat.add_zero
def lh:=@List.length_singleton
def k6:=@Array.getElem?_toList
def zalev:=@Tryz.underlying3
def ki:=@Nat.lt_succ_self
def j6:=@List.getElem_map
def j8:=@List.any_eq_true
def kw:=@Bool.and_eq_true
def kX:=@Region.noSelect_spec
def k3:=@List.mem_append_left
def kk:=@List.find?_cons
def kj:=@List.any_append
def kl:=@Bool.eq_iff_iff
def ju:=@underlying26
def iH:=@eq_of_beq
def zalfk:=@Tryz.underlying169
def lJ:=@List.zipIdx_append
def lz:=@List.find?_eq_none
def lx:=@List.filter_append
def jb:=@bind_assoc
def mA:=@List.getElem?_eq_none_iff
def zalfq:=@Tryz.underlying42
def mM:=@List.mem_of_mem_eraseIdx
def mQ:=@List.getElem?_take_of_lt
def h6:=@Ne.symm
def ng:=@Nat.add_sub_cancel_left
def mO:=@List.getElem?_cons_zero
def lB:=@beq_self_eq_true
def kZ:=@Region.free_spec
def k9:=@List.zipIdx_cons
def lu:=@List.length_tail
def ll:=@List.drop_length
def iC:=@if_false
def mZ:=@Option.map_eq_some_iff
def j4:=@underlying42
def kn:=@List.map_set
def jL:=@beq_iff_eq
def lf:=@Nat.not_lt_zero
def lL:=@Nat.min_eq_left
def ls:=@List.mem_filter
def k1:=@List.foldl_cons
def lG:=@List.filter_nil
def ni:=@ownsRow_setCell_other
def mN:=@List.set_append_right
def lH:=@List.take_take
def j2:=@underlying9
def mB:=@List.getD_cons_zero
def mX:=@Array.length_toList
def iJ:=@wpS_seq
def k5:=@wp_region_any
def lM:=@underlying231
def lF:=@underlying196
def lv:=@Tryz.ntmps236
def lj:=@Nat.add_assoc
def zalgz:=@Tryz.underlying127
def mH:=@Nat.lt_of_le_of_lt
def m2:=@Int.lt_of_lt_of_le
def km:=@wpS_region
def kv:=@ready_mono
def kx:=@Calls.mono
def mW:=@List.nodup_append
def mz:=@DataW.trod_struct
def ly:=@underlying77
def k7:=@underlying22
def lA:=@Tryz.func236
def lp:=@List.map_map
def jt:=@or_false
def jA:=@ntmps196
def js:=@and_true
def o1:=@List.find?_eq_some_iff_getElem
def zalhs:=@Tryz.underlying4
def m5:=@Option.bind_some
def ku:=@mem_ready
def oT:=@List.take_append_of_le_length
def mp:=@Oper.upon_value
def mE:=@List.length_nil
def m8:=@List.find?_some
def mJ:=@List.filter_map
def jC:=@ntmps53
def jE:=@func196
def nh:=@List.mem_range
def m1:=@IntWalk.i64_in
def kC:=@true_and
def kD:=@ntmps294
def j5:=@ntmps104
def oM:=@Option.filter_eq_some_iff
def mU:=@underlying272
def mw:=@List.map_take
def m6:=@Bool.false_or
def mP:=@AllReady.cons
structure Kk (C:Prop):Prop where
 o:C
def O6{a:Prop}(b:a):Kk a:=⟨b⟩
attribute [go_sem] results108 results109 results110 results111 results112 results113 results114 results115 results116 results117 results141 results143 results144 results145 results15 results184 results196 results200 results201 results202 results215 results256 results257 results258 results259 results260 results261 results262 results263 results264 results265 results266 results27 results28 results29 results292 results293 results294 results295 results298 results30 results300 results301 results312 results320 results321 results322 results323 results340 results342 results36 results53 results60 results68 results9
variable {P:Program} {cI:Func} {R:Ending->World->Prop} {u:Act} {w:World} {v:Value}
def XW (cx:R (.returned v) w)(X:(results cI u.tmps).run P w=.ok v w:=by simp[results,go_sem,bm,be,bj])(aJ:u.defers=[]:=by rfl):bodyPost P cI R .ret u w:=⟨aJ,v,X,cx⟩
def Xp (cx:R (.returned v) w)(X:(results cI u.tmps).run P w=.ok v w:=by simp[results,go_sem,bn,bm,bj,bo])(aJ:u.defers=[]:=by rfl):bodyPost P cI R .ret u w:=⟨aJ,v,X,cx⟩
def nz (cx:R (.returned v) w)(X:(results cI u.tmps).run P w=.ok v w:=by simp[results,go_sem,bm,be,bj,vU])(aJ:u.defers=[]:=by rfl):bodyPost P cI R .ret u w:=⟨aJ,v,X,cx⟩
def Vm (bQ:R (.returned v) w)(X:(results cI u.tmps).run P w=.ok v w:=by simp[results,go_sem])(aJ:u.defers=[]:=by rfl):bodyPost P cI R .ret u w:=⟨aJ,v,X,bQ⟩
def od (bQ:R (.returned v) w)(X:(results cI u.tmps).run P w=.ok v w:=by simp[results,go_sem,z])(aJ:u.defers=[]:=by rfl):bodyPost P cI R .ret u w:=⟨aJ,v,X,bQ⟩
def pQ (cx:R (.returned v) w)(X:(results cI u.tmps).run P w=.ok v w:=by simp[results,go_sem,bn,bm,bj,bo,vU])(aJ:u.defers=[]:=by rfl):bodyPost P cI R .ret u w:=⟨aJ,v,X,cx⟩
end
section
variable {G L:Prop}
def uB (j:L)(h:Kk L->G:=by
  intro aX;refine up 5 aj 0 a ?_;refine up 6 aj 0 a ?_;refine up 7 aj 1 a ?_;exact aX.o
 ):G:=h ⟨j⟩
def vq (j:L)(h:Kk L->G:=by
  intro aX;refine kI ?_;refine uk 4 ci.out a ?_;refine up 5 bI 0 a ?_;exact aX.o
 ):G:=h ⟨j⟩
def Hg (j:L)(h:Kk L->G:=by
  intro aX;refine uh 11 undef (a) ?_ (bi:=Or.inr ⟨by kernel_rfl,rfl⟩);refine uh 12 undef (a) ?_ (bi:=Or.inr ⟨by kernel_rfl,rfl⟩);exact aX.o
 ):G:=h ⟨j⟩
def A3 (h:G:=by
  rw[<-aD] at X ⊢;obtain⟨p,B⟩:=xE ((((w.alloc (.cells #[O5 k] 62)).alloc (.cells #[O3 t,O3 r,Pv A,.pointer d] 73)).alloc (.cells #[.slice ua f E] 311)).alloc (.cells #[O3 0,O3 0,Qn] 65));have ap:Pn w p:=by rw[B];exact((QJ.alloc P7 _).alloc RQ _).alloc RQ _
  obtain⟨bo,bx⟩:=xE w.heap.size;obtain⟨l,bB⟩:=xE (w.heap.size+1);obtain⟨bu,aW⟩:=xE (w.heap.size+1+1);obtain⟨H,aI⟩:=xE (w.heap.size+1+1+1);have bM:p.heap[bo]? = some (PZ #[O5 k] 62):=by rw[B,bx];exact fY (fY (fY (Ph _ _)))
  have bQ:p.heap[l]? = some (PZ #[O3 t,O3 r,Pv A,.pointer d] 73):=aL6
  have bO:p.heap[bu]? = some (PZ #[.slice ua f E] 311):=aL1
  have bq:p.heap[H]? = some (PZ #[O3 0,O3 0,Qn] 65):=aLZ
  have cg:w.heap.size<=H:=O9;have ch:w.heap.size<=l:=O9;have cR:l≠H:=O9;have D:=aF.fH ap;exact(o).o):G:=h
def Co (h:G:=by
  have S := @run_callFunc_extern prog 62 _ (λc => ReflectliteValue.unpack (c.getD 0 (.tuple #[]))) func62 Qs Qs Qs Qs; have X := @run_callFunc_extern prog 63 _ (ReflectliteValue.methodAny (ReflectliteValue.valueError "reflectlite.Value.Type" 0) (λt _ _ _ => ReflectliteType.toType t)) func63 Qs Qs Qs Qs; have ac := @run_callFunc_extern prog 64 _ (ReflectliteValue.method (ReflectliteValue.valueError "reflectlite.Value.IsNil" 0) ReflectliteValue.isNil) func64 Qs Qs Qs Qs
  have ad := @run_callFunc_extern prog 371 _ (ReflectliteType.abiMethod λt => do pure (.int .u8 (<- Rtype.kind t))) func371 Qs Qs Qs Qs; have T := @run_callFunc_extern prog 385 _ (ReflectliteType.method ReflectliteType.elem) func385 Qs Qs Qs Qs; have U := @run_callFunc_extern prog 386 _ (ReflectliteType.relation "Implements" ReflectliteType.implements_) func386 Qs Qs Qs Qs; have aj := R9.Ps; have ah := R9.aDt; have ai := R9.X2; exact(o).o):G:=h
def Aw (h:G:=by
  have aS:=ah.lt;obtain⟨l,q,r⟩:=d;obtain⟨w2,cq⟩:=xH ((w.alloc (.cells #[O3 l,O3 q,Pv r,.pointer o] 73)).alloc (.cells #[O3 0,O3 0,Qn] 65));have ap:Pn w w2:=by rw[cq.out];exact QJ.alloc P7 _
  obtain⟨cB,bu⟩:=xE w.heap.size;obtain⟨H,bh⟩:=xE (w.heap.size+1);have F:w2.heap[cB]? = some (PZ #[O3 l,O3 q,Pv r,.pointer o] 73):=by rw[cq.out,bu];exact fY (Ph _ _)
  have aW:w2.heap[H]? = some (PZ #[O3 0,O3 0,Qn] 65):=uK
  have bo:w.heap.size<=cB:=O9;have aY:w.heap.size<=H:=O9;exact(bK).o):G:=h
def Ie (h:G:=by
  have be:=Y (fX T);have bo:=fI T;clear T;go_enter func197,ntmps197;go_wp2_with fail;rw[<-F.out,<-H];clear H;refine UC 6 λa=>?_;refine iy ?_;refine aMk ?_;refine Rl 6 λK c=>?_;go_simp;refine Na ?_;rintro m E ⟨rfl,a7,aI⟩;refine ko c ?_;clear c K;have aJ:=(au.fH a).heap a7 aI;rw[<-ax.out] at aJ;have r:Ms M k I z E aN:=⟨_,_,_,_,aJ⟩;have ac:=(P8.of (L:=none) a (P6 bf)).trans (P8.jR aI);exact(C).o):G:=h
def Iy (h:G:=by
  have ap:=P8.of (L:=none) A (P6 aC);obtain⟨dY,dV,dZ,dX,ba⟩:=q;have au:=ba.fH A;have bf:=au.lt;have ah:=Y (λL (i:Pn D L)=>yC (au.fH i).hh s.go.sm O9 d b v);obtain⟨aN,ax⟩:=xH ({ g with M:=(g.M.write d b v).2 }:St);have bc:Sz (bD+1) aN:=by rw[ax.out];exact s.heap (Nat.le_succ _) (s.go.write d b v) (Zh _ _ _ _)
  rw[<-ax.out];exact(C).o):G:=h
def yy (h:G:=by
  refine wh 4 (Qi e) A.drew ?_;refine Ye 5 λK k=>?_;go_simp;refine aMm ?_;rintro m U ⟨rfl,ah⟩;have l:=A.drew.fH ah;have C:=R.next (Ap.of (RP.drew.trans ah));refine JD ?_;clear k K;exact(z).o):G:=h
def IY (h:G:=by
  obtain⟨aI,s⟩:=xH (w.alloc (.cells #[O3 a.k,O3 a.n,Pj a.s] 65));have bE:d<aI.heap.size:=by rw[s.out];exact ac
  rw[show w.alloc (vO a)=aI by rw[s.out]] at B r T ah S aJ U aV z;clear C bN h aW ai aX aY ac;go_enter func128,ntmps128;go_wp2_with fail;refine EM ?_;rintro i t ⟨rfl,bc⟩;rw[bc];clear bc;go_wp2_with fail;exact(O).o):G:=h
def HG (h:G:=by
  have cS:Hid (aY.heap[H]? = some (PZ #[O3 0,O3 0,Qn] 65)):=by show _=_;rw[bF,heap_setCell_other _ _ _ _ (Ne.symm bS)];exact O4 c9
  have cT:=dc.hX bT (λN O=>by rw[bF];exact heap_setCell_other _ _ _ _ (show N≠W by omega))
  have cu:Kp aj aY:=λN e m O B=>bT.rest N e m O (by rcases B with rfl|rfl <;> decide);exact(cp).o):G:=h
def KG (h:G:=by
  have N:hx l m (w.alloc mL):=r.fH QJ;have p:=Y X;have ai:=Y i;clear X i;go_enter func68,ntmps68;go_wp2_with fail;refine(Hj _).mono ?_;rintro aN ah ⟨x,rfl,⟨aQ,aO,rfl,aK,I⟩,n⟩;have aj:=Y (I ah RP);clear I;go_wp2_with fail;refine aMn ?_;rintro aL ak ⟨rfl,rfl⟩;go_wp2_with fail;exact(M).o):G:=h
def Ir (h:G:=by
  have o:=Wi u c w E A;have au:=Y (λk (j:Pn w k)=>Wi N g k (Qa.fH (Below.gx j) _ _ D) (A.fH j));rw[d] at o;rw[f] at au;obtain⟨x,am⟩:=xE (kO u.kd);rw[<-am] at o;obtain⟨O,I,M⟩:=x;obtain⟨y,bi⟩:=xE (kO N.kd);rw[<-bi] at au;obtain⟨a7,bc,be⟩:=y;exact(z).o):G:=h
def vL (h:G:=by
  obtain⟨D,F⟩:=xH (w.alloc (.cells #[O3 v.k,O3 v.n,Pj v.s] 65));obtain⟨aj,H⟩:=xE w.heap.size;have A:Pn w D:=by rw[F.out];exact QJ
  exact(C).o):G:=h
def I4 (h:G:=by
  refine k.out _ _ M (λ_=>?_);clear k K;refine Ye 5 λK k=>?_;go_simp;refine cm (ai.out _ M) ?_;rintro i r ⟨rfl,F⟩;obtain⟨I,H,A,D⟩:=aCi z F;obtain⟨T,O,U,ac,ad,ah⟩:=je D;have d:=I;have o:=H;have p:=Y A;have E:=Y D;clear A D;exact(B).o):G:=h
def Ef (h:G:=by
  have b9:=be.ie O Pm;have ai:=((b4.trans b6).hX O (Ws aY.out _ _ _ _)).trans (P8.of (L:=au) c (P6 b9.lt));have ad:=b9.fH c;have aO:=(aF.Rf O Pm).fH c;have aQ:=(b7.Uy O).fH c;rw[<-aV] at bf ai ad aO aQ;obtain⟨bn,bm,bj,bo,_,_⟩:=fN bf;exact(cf).o):G:=h
def Lq (h:G:=by
  unfold ke at d;go_wp2_with fail;refine cm d ?_;rintro m wt ⟨rfl,p⟩;have I:=O.next (Ap.of p);have E:=N.fH p;have q:=(p.block t.heap.size P7).trans ad.out;obtain⟨aJ,aO,aQ,aV,aK,aN⟩:=je q;have aX:=E.c1;have aW:=E.fz;have aS:=E.n3;exact(z).o):G:=h
def Hd (h:G:=by
  have t:=Y m;clear m;go_enter func143,ntmps143;go_wp2_with fail;refine(wq _).mono ?_;rintro aj N ⟨x,rfl,M,e⟩;obtain⟨z,l⟩:=ot e;have f:=e;go_wp2_with fail;have r:=tS c a x Rk N (by unfold maxLen;omega) O9 M
  rw[t.out] at r;refine r.mono ?_;exact(s).o):G:=h
def r6 (h:G:=by
  rw[<-cV.out] at cl b0 cZ ⊢;rw[<-T] at ck cU cY aN D A;exact(bK).o):G:=h
def KE (h:G:=by
  have s:6<w.heap.size:=(Array.getElem?_eq_some_iff.1 j).1;have O:=Y q;have t:=Y j;have M:=Y m;have N:=Y n;clear j m q n;go_enter func141,ntmps141;go_wp2_with fail;refine(axr _).mono ?_;rintro ai S ⟨x,rfl,I,e⟩;obtain⟨z,l⟩:=ot e;exact(k).o):G:=h
def JF (h:G:=by
  have O:=T8 A u v;have C:=Zy (h.fH z) W U e l;rw[show f.has e l=true by simp[Mo.has,O]] at C;have aD:Hid (∀ g,Pn w g->_):=λg i=>ZP (h.fH i) W U e l;have k:=Y A;have E:=Y u;have t:=Y v;have N:=Y O;exact(M).o):G:=h
def rZ (h:G:=by
  have bf:=ah.fH ap;have bE:=P8.of (L:=none) ap (P6 aS);exact(bK).o):G:=h
def zI (h:G:=by
  refine wg 6 (.tuple #[.nilFunc,Pv false]) rfl (Or.inl ⟨by kernel_rfl,λa s=>by have T:=ax.out a s;go_simp⟩) l ?_
  refine zle ?_;exact(z).o):G:=h
def vI (h:G:=by
  have O:=M.alloc M.size (.cells #[Qn,O3 0,O3 0,O3 0] 275);have N:=H.alloc (.cells #[Qn,O3 0,O3 0,O3 0] 275);exact(z).o):G:=h
def Ca (h:G:=by
  refine aMr ?_;refine nk ?_;refine uc 3 (O3 aV) rfl (Or.inl ⟨by kernel_rfl,λL q=>by have aO:=PN q (a1);go_simp⟩) (a) ?_
  refine DQ ?_;refine Jq ?_;refine uc 7 (O3 aW) rfl (Or.inl ⟨by kernel_rfl,λL q=>by have aO:=PN q (a6);go_simp⟩) (a) ?_
  exact(z).o):G:=h
def IC (h:G:=by
  obtain⟨A,b4⟩:=xH (.mk 12 O8 0 [N]:Tr);rw[<-b4.out] at M;have aX:Hid (A.fJ.length=1):=by
   show _=_
   rw[b4.out];rfl
  obtain⟨g,u0,dE,am,s⟩:=M.opens;have a6:g=wb.heap.size+1:=by simpa[O5] using am.symm
  rw[a6] at s;exact(aj).o):G:=h
def Bo (h:G:=by
  obtain⟨i,p,q⟩:=(o.out.fH F.out.below).cells;simp only[Tr.kd,Tr.tx,Tr.n] at i p q;have l:u<n.heap.size:=by have w:=o.out.lt;have t:=g.out.size;simp at t ⊢;omega
  obtain⟨R,S,U⟩:=g.out.wr.cells;have T:=g.out.wr.lt;exact(ak).o):G:=h
def Dg (h:G:=by
  have cZ:=c8.next f;obtain⟨bV,rfl,cV⟩:=(EV.mono cH c8.size).nv;have d:=QA 12 O8 (.slice (some (O7 wb.heap.size 0)) 1 1) (wb.alloc (.cells #[O5 bV] 22)) ⟨_,_,_,rfl⟩;go_wp2_with fail;refine cm d ?_;rintro m dF ⟨rfl,rfl⟩;exact(aj).o):G:=h
def Lf (h:G:=by
  rw[<-b1.out] at bc;rw[<-cC] at aC bc;have dy:=Y (fN (fQ cg cP.out));have dM:=fI (fQ cg cP.out);have dp:aj<c9.heap.size:=by rw[a1.out];exact cu.cells.1
  have dJ:=fV aC;have dq:=Y aD;have dt:=Y aC;exact(bK).o):G:=h
def KI (h:G:=by
  have eU:cC≠H:=O9;have cJ:W≠H:=O9;have cG:W≠F:=O9;have cM:F=H+1:=O9;have ac:W<F/\cC<F/\H<F/\w.heap.size<=F:=O9;have bY:=ah.fH bh;have ew:=P8.of (L:=au) bh (P6 aS);exact(bK).o):G:=h
def BH (h:G:=by
  have g:c.frozen? (O7 b 0)=false:=by rw[e,World.frozen?_alloc_old _ _ _ RQ,World.frozen?_alloc_old _ _ _ RQ];exact q
  have u:c.heap.size=a.heap.size+2:=by rw[e];simp
  have l:Pn a c:=by rw[e];exact QJ.alloc P7 _
  exact(o).o):G:=h
def xP (h:G:=by
  have cD:=A.ms.lt;have ek:D≠H:=λm=>by
   have ad:=A.vb;have ak:=fI bQ.out;omega
  exact(bK).o):G:=h
def AN (h:G:=by
  have dt:=q;have c8:=R.next f;have d:=RV a7 bc cC i bn _ rfl (by rw[O];nofun) dt
  rw[O] at d;go_wp2_with fail;refine cm d ?_;intro m wb p;obtain⟨⟨dG,rfl,cH⟩,q,f⟩:=p;exact(aj).o):G:=h
def EU (h:G:=by
  refine Mv ?_;rintro m ap ⟨rfl,aK⟩;obtain⟨k,C⟩:=xH (ap.alloc (.cells #[O3 a7,Pj bc,Pj be] 245));have t:=r.trans (aK.mono r.size);have l:Pn w k:=by rw[C.out];exact t.alloc t.size _
  exact(z).o):G:=h
def DL (h:G:=by
  refine cm (O4 dL aj ep) ?_;rintro m ez ⟨rfl,dG⟩;rw[dG];clear bu bh dG;obtain⟨bV,b0,bW,bY,bo,bZ⟩:=fN bx.out;have dn:=bo 2;clear bo;go_wp2_with fail;have bD:k<=W:=O9;exact(cp).o):G:=h
def zA (h:G:=by
  have dR:=Zg;have aS:=aF.lt;obtain⟨t,r,A⟩:=a;obtain⟨ua,E,bh⟩:=X.form;subst bh;exact(o).o):G:=h
def Hy (h:G:=by
  refine tW ?_;clear k K;refine wg 6 (.tuple #[.agg #[Pj x.tx,O3 x.kd,O3 x.parts,O3 x.str],Pv true]) rfl (Or.inl ⟨by kernel_rfl,λa l=>by have aj:=aG.out a l;go_simp⟩) d ?_
  refine Ju ?_;exact(B).o):G:=h
def IB (h:G:=by
  simp only[Value.slice.injEq] at bh;obtain⟨rfl,dA,rfl⟩:=bh;clear dA;have dE:q<w.heap.size+1:=O9;have dF:q<w.heap.size+1+1:=O9;have dG:q<w.heap.size+1+1+1:=O9;exact(o).o):G:=h
def I1 (h:G:=by
  have b2:=fQ ac (lq bF.out (O3 0) (O3 0) (Qn));have bv:=b7.ie aQ Pm;have aD:=(cG.hX aQ (UU a7.out _ _ _)).trans (P8.of (L:=none) ac (P6 bv.lt));have aC:=bv.fH ac;exact(bK).o):G:=h
def wy (h:G:=by
  have z:a.count=1+Tr.f1 a.fJ:=by cases a with|mk a7 r a6 bc=>exact fW _ _ _ _
  exact(bO).o):G:=h
def BJ (h:G:=by
  go_enter func267,ntmps267;go_wp2_with fail;refine cm C ?_;rintro c g ⟨rfl,i⟩;have d:=((Below.refl _ w).alloc Qp _).trans (i.mono P7);obtain⟨bm,a6,F,I,X⟩:=aD.out g d;exact(M).o):G:=h
def Kg (h:G:=by
  clear h;go_enter func347,ntmps347;go_wp2_with fail;refine pY ?_;refine FA ?_;refine wg 3 (.map (some e.mV)) rfl (Or.inl ⟨by kernel_rfl,λa s=>by have T:=QC.c5 s;go_simp⟩) A.drew ?_
  exact(z).o):G:=h
def yp (h:G:=by
  have U:=Y ac;have aV:=Y aY;obtain⟨aS,aO,aQ,aK,aN⟩:=info_parts Jt;exact(O).o):G:=h
def Kx (h:G:=by
  refine uh 8 (.pointer (some ⟨t,0,none⟩)) (a) ?_;refine uc 9 (.pointer (some ⟨i,0,none⟩)) rfl (Or.inl ⟨by kernel_rfl,λL b=>by have aO:=PN b (A);go_simp⟩) (a) ?_
  exact(F).o):G:=h
def GZ (h:G:=by
  have b4:Pn O F:=by rw[u];exact QJ
  have b1:=ax.trans (b4.mono ax.size);have w:=bm.trans (b1.mono bm.size);have b2:=Y (Qa.fH (Below.gx b1) _ _ cJ.out);exact(b3).o):G:=h
def K0 (h:G:=by
  have dH:=Y aW;have cS:=Y aI;obtain⟨cf,bK⟩:=xE e.p;have dP:f≠0:=by rw[aD];simp
  have dQ:¬ (f:Int)=0:=O9;have dO:(0:Int)<(f:Int):=O9;exact(o).o):G:=h
def HJ (h:G:=by
  have ax:Hid (∀ a:Pe,QC e a n c->(Instr.lookup 231 (.map (some e.mV)) (Pj (fx e.l n)) true).run prog a=.ok (.tuple #[.nilFunc,Pv false]) a):=λa s=>HD
  exact(z).o):G:=h
def DG (h:G:=by
  have eu:k<=W:=by have:=O4 bT;omega
  have bv:=Xq (b:=0) a1.out eu (O3 A);obtain⟨bF,bq⟩:=xE (bG.setCell (O7 W 0) (O3 A));exact(bK).o):G:=h
def Do (h:G:=by
  rw[bx] at d;go_wp2_with fail;refine cm d ?_;intro m cU p;obtain⟨⟨dA,rfl,rfl⟩,q,f⟩:=p;have cT:=q;have cz:=U.next f;exact(aj).o):G:=h
def Ks (h:G:=by
  rw[ak] at d;go_wp2_with fail;refine cm d ?_;intro m r p;obtain⟨⟨dB,rfl,rfl⟩,q,f⟩:=p;have aF:=q;have U:=au.next f;exact(aj).o):G:=h
def GT (h:G:=by
  go_wp2_with fail;have r:=tS c a x Xx S (by unfold maxLen;omega) O9 I
  rw[O.out] at r;refine r.mono ?_;rintro aj o ⟨rfl,rfl⟩;exact(k).o):G:=h
def HT (h:G:=by
  go_wp2_with fail;refine cm o ?_;rintro m R ⟨rfl,F⟩;have r:=F.alloc F.size (.cells #[O3 O,Pj I,Pj M] 245);go_wp2_with fail;exact(z).o):G:=h
def rL (h:G:=by
  have a1:=PN l s;have aI:=PN l aj;have aF:=PN l ac;have a6:=PN l B;have aJ:=PN l ai;have aG:=PN l ah;have bD:c<k.heap.size:=by have:=l.size;omega
  have bE:g<k.heap.size:=by have:=l.size;omega
  clear s aj ac B ai ah aY aZ;exact(b).o):G:=h
def wK (h:G:=by
  have ac:=I.alloc I.size (.cells #[O3 (Qe e.l n).kd,Pj (Qe e.l n).tx,O3 (Qe e.l n).n,O3 ((Qe e.l n).pl:Int)] 144);have ai:=E.alloc (.cells #[O3 (Qe e.l n).kd,Pj (Qe e.l n).tx,O3 (Qe e.l n).n,O3 ((Qe e.l n).pl:Int)] 144);exact(b).o):G:=h
def oK (h:G:=by
  have aZ:=aJ.kp (Kp.of ap);have bK{G}(h:G:=by
  exact(b).o):=O6 h;exact rZ):G:=h
def Gh (h:G:=by
  have bG:i<ax.heap.size:=by rw[t] at bh;simpa using bh
  clear a1;go_wp2_with fail;rw[<-t];clear t bI bK bL bv bG;exact(b).o):G:=h
def Yf (h:G:=by
  have bK{G}(h:G:=by
  have bC:cB≠H:=O9;exact oK):=O6 h;exact Aw):G:=h
def x0 (h:G:=by
  have bK{G}(h:G:=by
  have bB:cB≠H:=O9;exact(b).o):=O6 h;exact Aw):G:=h
def jq (h:G:=by
  have ap:Pn w w2:=by rw[cq.out];exact QJ.alloc P7 _
  obtain⟨W,bu⟩:=xE w.heap.size;obtain⟨H,bh⟩:=xE (w.heap.size+1);have F:w2.heap[W]? = some (PZ #[O3 l,O3 q,Pv r,.pointer o] 73):=by rw[cq.out,bu];exact fY (Ph _ _)
  exact(b).o):G:=h
def jY (h:G:=by
  have b3:w.heap.size<=W:=O9;have aY:w.heap.size<=H:=O9;have b6:W≠H:=O9;exact oK):G:=h
def sL (h:G:=by
  have ap:Pn w aj:=by rw[cq.out];exact QJ.alloc P7 _
  obtain⟨W,bu⟩:=xE w.heap.size;obtain⟨H,bh⟩:=xE (w.heap.size+1);exact(b).o):G:=h
def kJ (h:G:=by
  have z{G}(h:G:=by
  clear am bi;obtain⟨bC,bB,U,_⟩:=Qa.Uf E;obtain⟨s,aj,ac,_⟩:=fZ U;have aY:=fI U;obtain⟨u2,bx,T,_⟩:=Qa.Uf D;obtain⟨B,ai,ah,_⟩:=fZ T;have aZ:=fI T;clear U T;exact(b).o):=O6 h;exact Ir):G:=h
def pE (h:G:=by
  have cy:w.heap.size<=W:=O9;have bO:w.heap.size<=H:=O9;have bS:W≠H:=O9;exact(b).o):G:=h
def VF (h:G:=by
  have bQ:=Y aW;have a7:=Y aY;have bO:=bf.lt;have e1:=fI F;have b0:=aZ.cells.1;exact(b).o):G:=h
def p6 (h:G:=by
  obtain⟨b2,b0,b1,bY,bZ⟩:=info_parts hV;have dr:=h;have R:=Ap.refl e.R w.heap.size w;have o:=Y h.n3;clear h;go_enter func154,ntmps154;have d:=Qh e md w n i dr Pm;rw[bW] at d;go_wp2_with fail;refine cm d ?_;intro m cC p;obtain⟨⟨dD,rfl,rfl⟩,q,f⟩:=p;have aj{G}(h:G:=by
  have ds:=q;have aj{G}(h:G:=by
  obtain⟨M,C,D⟩:=made ds cZ (PE.cons cV PE.nil) (by simp[maxLen]) #[O5 bV] rfl 1 rfl 12 O8 (wb.heap.size+1) rfl;have aj{G}(h:G:=by
  exact(b).o):=O6 h;exact IC):=O6 h;exact Dg):=O6 h;exact AN):G:=h
def oW (h:G:=by
  have bW:w.heap.size<=W:=O9;have bQ:w.heap.size<=H:=O9;exact(b).o):G:=h
def sU (h:G:=by
  have z{G}(h:G:=by
  have z{G}(h:G:=by
  have z{G}(h:G:=by
  have d:=Xt e 0 U n c l;rw[F.out] at d;simp only[ml,n5,Option.isSome] at d;go_wp2_with fail;refine cm d ?_;rintro m t ⟨rfl,B⟩;have M:=C.next (Ap.of B);have H:=l.fH B;have z{G}(h:G:=by
  have D:(t.alloc (.cells #[Qn,O3 0,O3 0,O3 0] 275)).heap[t.heap.size]? = some (.cells #[Qn,O3 0,O3 0,O3 0] 275):=Ph _ _;have ad:=Y D;clear D;have d:=Ti e (t.alloc (.cells #[Qn,O3 0,O3 0,O3 0] 275)) n c N;have z{G}(h:G:=by
  clear q;exact wK):=O6 h;exact Lq):=O6 h;exact vI):=O6 h;exact zI):=O6 h;exact yy):=O6 h;exact Kg):G:=h
def tn (h:G:=by
  have cl:W≠H:=O9;have aZ:=aJ.kp (Kp.of bF);have bf:=ah.fH bF;exact(b).o):G:=h
def nC (h:G:=by
  generalize u.kd=aV at *
  generalize u.n=ax at *
  generalize u.tx=aD at *
  generalize N.kd=aW at *
  generalize N.n=aC at *
  generalize N.tx=bt at *
  go_enter func101,ntmps101;have z{G}(h:G:=by
  have z{G}(h:G:=by
  exact(b).o):=O6 h;exact EU):=O6 h;exact HT):G:=h
def nu (h:G:=by
  have bO:=bf.lt;have cD:=fI F;have b0:=aZ.cells.1;exact(b).o):G:=h
def jT (h:G:=by
  obtain⟨o,b1⟩:=xH (LA au);rw[<-b1.out];have aS:=ah.lt;obtain⟨l,q,r⟩:=p;obtain⟨w2,cq⟩:=xH ((w.alloc (.cells #[O3 l,O3 q,Pv r,.pointer o] 73)).alloc (.cells #[Pv false,O3 0,O3 0,Qn] 67));exact(b).o):G:=h
def x9 (h:G:=by
  have o{G}(h:G:=by
  obtain⟨f,aD⟩:=xE (List.length (v::aC));have o{G}(h:G:=by
  have cO:=Y bq;have cP:=P8.of (L:=none) ap (P6 aS);have dM:Ms M k I z p g:=⟨_,_,_,_,D⟩;have dC:=Y B;have a7:=Y cg;have dD:=Y bx;have dB:=Y bB;have o{G}(h:G:=by
  have b9:=X.fH ap;obtain⟨q,bD,dL,bh,dx,b2,cJ,cL⟩:=X.cells (i:=0) rfl;rw[Nat.zero_mul,Nat.add_zero] at b2 cJ cL;rw[ai] at b2;have o{G}(h:G:=by
  obtain⟨cK,bf,bG,_⟩:=bY.cells;rw[<-bK] at cK bf bG ⊢;have dt:cf<w.heap.size+1:=O9;have ds:cf<w.heap.size+1+1:=O9;have dy:cf<w.heap.size+1+1+1:=O9;exact(aK).o):=O6 h;exact IB):=O6 h;exact K0):=O6 h;exact A3):=O6 h;exact zA):G:=h
def E4 (h:G:=by
  have o{G}(h:G:=by
  exact(b).o):=O6 h;exact A3):G:=h
def ub (h:G:=by
  have aC:=q.lt;have C{G}(h:G:=by
  have T:D.heap[aj]? = some (ZK v):=by rw[F.out,H];exact Ph _ _
  have C{G}(h:G:=by
  rw[W] at ah;clear W;have C{G}(h:G:=by
  have aF:=ap.trans ac;have aG:=r.lt;exact(l).o):=O6 h;exact Ie):=O6 h;exact Iy):=O6 h;exact vL):G:=h
def nX (h:G:=by
  have bO{G}(h:G:=by
  have M:a.fJ.length<=20000:=by have:=Tq a.fJ;omega
  obtain⟨s,p⟩:=xE (w.alloc (.cells #[Pv b,Pv n,Pv c] 112));have o:Pn w s:=by rw[p];exact QJ
  have l:YO w.heap.size b n c s:=by rw[p];exact YO.new _ _ _ _
  have I:=h.fH o;obtain⟨aN,am,D,aO,R,X⟩:=h.cells;rw[k] at am;exact(m).o):=O6 h;exact wy):G:=h
def m9 (h:G:=by
  obtain⟨l,q,r⟩:=A;obtain⟨w2,aV⟩:=xH (w.alloc (.cells #[O3 l,O3 q,Pv r,.pointer o] 73));have ap:Pn w w2:=by rw[aV.out];exact QJ
  obtain⟨W,aD⟩:=xE w.heap.size;have F:w2.heap[W]? = some (PZ #[O3 l,O3 q,Pv r,.pointer o] 73):=by rw[aV.out,aD];exact Ph _ _
  exact(b).o):G:=h
def YU (h:G:=by
  rw[X] at d i;simp only[gb] at i;clear X;go_wp2_with fail;refine cm d ?_;exact(b).o):G:=h
def p4 (h:G:=by
  have C:=Y aJ;clear aJ;have M{G}(h:G:=by
  refine(wq _).mono ?_;rintro aD W ⟨aI,rfl,⟨aF,aC,rfl,ay,H⟩,ac⟩;have ad:=Y (H W RP);have o:=n.trans (ac.mono n.size);clear H;go_wp2_with fail;refine aMt ?_;rintro aG q ⟨rfl,rfl⟩;go_wp2_with fail;exact(g).o):=O6 h;exact KG):G:=h
def vW (h:G:=by
  have o{G}(h:G:=by
  have O:=R9.SM;have M:=R9.N7;have I:=R9.auR;have P:=R9.Tw;have F:=R9.auT;have H:=R9.M9;have B:0<a.heap.size:=HK
  obtain⟨c,e⟩:=xE ((a.alloc (.cells #[PL b 0] 123)).alloc (.cells #[PL 13 123,PL a.heap.size 0,.int .u64 150] 130));have R:((a.alloc (.cells #[PL b 0] 123)).alloc (.cells #[PL 13 123,PL a.heap.size 0,.int .u64 150] 130)).cell? (O7 0 0)=some (.iface 215 (.agg #[PL 13 31])):=IF
  have i:c.cell? (O7 a.heap.size 0)=some (PL b 0):=AC
  exact(f).o):=O6 h;exact Co):G:=h
def oh (h:G:=by
  have bO{G}(h:G:=by
  have bM:a.fJ.length<=20000:=by have:=Tq a.fJ;omega
  exact(b).o):=O6 h;exact wy):G:=h
def oL (h:G:=by
  rw[X] at d i;simp only[gb] at i;clear X;go_wp2_with fail;exact(b).o):G:=h
def s6 (h:G:=by
  have aS:=ah.lt;obtain⟨r,E,ap⟩:=D;obtain⟨o,⟨p,on,l⟩⟩:=aL;obtain⟨w2,aW⟩:=xE ((((w.alloc (.cells #[O3 r,O3 E,Pv ap,.pointer be] 73)).alloc (.cells #[Pv o,O3 p,O3 on,Pj l] 67)).alloc (.cells #[Pv false,O3 0,O3 0,Qn] 67)).alloc (.cells #[Ry] 122));have bh:Pn w w2:=by rw[aW];exact((QJ.alloc P7 _).alloc RQ _).alloc RQ _
  obtain⟨W,bO⟩:=xE w.heap.size;obtain⟨cC,b0⟩:=xE (w.heap.size+1);obtain⟨H,bu⟩:=xE (w.heap.size+2);obtain⟨F,cK⟩:=xE (w.heap.size+3);have cA:w2.heap[W]? = some (PZ #[O3 r,O3 E,Pv ap,.pointer be] 73):=by rw[aW,bO];exact fY (fY (fY (Ph _ _)))
  have cB:w2.heap[cC]? = some (PZ #[Pv o,O3 p,O3 on,Pj l] 67):=Ns
  have bV:w2.heap[H]? = some (PZ #[Pv false,O3 0,O3 0,Qn] 67):=aL4
  have aD:w2.heap[F]? = some (PZ #[Ry] 122):=Mw
  exact(b).o):G:=h
def wn (h:G:=by
  have k:=s;have cQ:=C;have cR:=D;clear am;obtain⟨dp,a1⟩:=xE ((wb.alloc (.cells #[O5 bV] 22)).alloc (Qc 12 O8 0 (.slice (some (O7 wb.heap.size 0)) 1 1)));rw[<-a1] at k cQ cR;rw[<-a6] at k;refine ve ?_;clear a1 a6;have d:=TM e VT dp t i cQ cB Pm;go_wp2_with fail;refine cm d ?_;rintro m a ⟨rfl,q,f⟩;have aY:=q;have au:=cR.next f;replace k:=Open.fH k (f) o.out;have d:=Qh e Rz a (t+1) i aY Pm;have aj{G}(h:G:=by
  replace k:=Open.fH k (f) o.out;have d:=gH e r i2 i aF;have aj{G}(h:G:=by
  replace k:=Open.fH k (f) o.out;have d:=Qh e Tt cU bo i cT Pm;rw[cA] at d;go_wp2_with fail;refine cm d ?_;intro m H p;obtain⟨⟨dz,rfl,rfl⟩,q,f⟩:=p;have dn:=q;have bv:=cz.next f;replace k:=Open.fH k (f) o.out;have cy:=RV a7 bc H.drew i bq _ rfl (by rw[b7];nofun) dn.drew
  rw[b7] at cy;obtain⟨bu,b6,cW⟩:=k.cell;obtain⟨ua,uc,aZ⟩:=k.shape;subst aZ;go_wp2_with fail;exact(b).o):=O6 h;exact Do):=O6 h;exact Ks):G:=h
def qf (h:G:=by
  have br:=PN t s;have bn:=PN t aj;have bq:=PN t ac;have bm:=PN t B;have bo:=PN t ai;have bu:=PN t ah;have bj:c<ap.heap.size:=by have:=t.size;omega
  have bv:g<ap.heap.size:=by have:=t.size;omega
  exact rL):G:=h
def qB (h:G:=by
  obtain⟨bG,bI,b8,bK,aG⟩:=h.c;have z:Pn w (w.alloc (vO a)):=QJ;have ah:=h.fH z;obtain⟨d,bv,v,ai,bu,aW,C,bx,ac,bF,aY,_⟩:=ah.ro.at_ (i:=n) (e:=x.h) (by simp[bN]);have B:=ra d bv _ n bu (w.alloc (vO a));rw[<-ai] at B;have S:(w.alloc (vO a)).ownsRow H 262 6 v x.cs.length (x.cs.flatMap Ce.h):=bx;have r:=wB d (n * 3) v x.cs H k (w.alloc (vO a)) (C 2 v rfl) S (by have:=ay.cs x (List.mem_of_getElem? bN);omega)
  have aX:=ay.cs x (List.mem_of_getElem? bN);have T:(w.alloc (vO a)).cell? (O7 d (n * 3+1))=some (O3 x.f6):=C 1 _ rfl;exact(b).o):G:=h
def tH (h:G:=by
  obtain⟨be,bY⟩:=xE (LA au);rw[<-bY];have aS:=ah.lt;obtain⟨r,E,ap⟩:=B;obtain⟨o,⟨p,on,l⟩⟩:=aL;obtain⟨w2,aW⟩:=xE (((w.alloc (.cells #[O3 r,O3 E,Pv ap,.pointer be] 73)).alloc (.cells #[Pv o,O3 p,O3 on,Pj l] 67)).alloc (.cells #[Pv false,O3 0,O3 0,Qn] 67));have bF:Pn w w2:=by rw[aW];exact(QJ.alloc P7 _).alloc RQ _
  obtain⟨W,bT⟩:=xE w.heap.size;obtain⟨bI,b1⟩:=xE (w.heap.size+1);obtain⟨H,bu⟩:=xE (w.heap.size+2);have F:w2.heap[W]? = some (PZ #[O3 r,O3 E,Pv ap,.pointer be] 73):=by rw[aW,bT];exact fY (fY (Ph _ _))
  have b7:w2.heap[bI]? = some (PZ #[Pv o,O3 p,O3 on,Pj l] 67):=aL9
  have b6:w2.heap[H]? = some (PZ #[Pv false,O3 0,O3 0,Qn] 67):=Pc
  exact(b).o):G:=h
def Ka (h:G:=by
  have C{G}(h:G:=by
  exact(l).o):=O6 h;exact Ie):G:=h
def BU (h:G:=by
  have M{G}(h:G:=by
  exact(g).o):=O6 h;exact KG):G:=h
def Xv (h:G:=by
  have bc:=qH N bf n;rw[if_neg O9] at bc;obtain⟨bA,D⟩:=xH u.p;rw[<-D.out] at b0 ⊢;exact(b).o):G:=h
def yq (h:G:=by
  go_enter func8,ntmps8;go_wp2_with fail;refine cm a6 ?_;rintro c bf ⟨m,rfl,j,a7⟩;have D:=a7;have cA:=Y j;clear j;go_wp2_with fail;refine cm (O4 be bf D) ?_;rintro c bh ⟨rfl,ak⟩;have C:=D.trans (ak.mono D.size);have bT:=Y (Qa.fH (Below.gx ak) _ _ cA.out);go_wp2_with fail;refine cm (O4 cE bh m _ C bT.out) ?_;rintro c bR ⟨⟨E,rfl,cx⟩,am⟩;have W:=C.trans (am.mono C.size);have cD:=Y (Qa.fH (Below.gx am) _ _ bT.out);have bV:=Y cx;go_wp2_with fail;refine cm (O4 bS bR E _ W bV.out) ?_
  rintro c cz ⟨⟨cG,rfl,cw⟩,ba⟩;have bU:=W.trans (ba.mono W.size);have cH:=Y (Qa.fH (Below.gx ba) _ _ cD.out);have bW:=Y (Qa.fH (Below.gx ba) _ _ bV.out);have cC:=O4 cr cz cG E _ _ cw bW.out;go_wp2_with fail;refine cm cC ?_;rintro c cy ⟨rfl,bc⟩;have bm:=bU.trans (bc.mono bU.size);have cu:=Y (Qa.fH (Below.gx bc) _ _ cH.out);have cJ:=Y (Qa.fH (Below.gx bc) _ _ bW.out);go_wp2_with fail;refine cm (O4 cB cy m _ bm cu.out) ?_;intro c O a8;exact(N).o):G:=h
def w1 (h:G:=by
  rw[bA] at T;rw[ad,Zx] at r;clear ad;have O{G}(h:G:=by
  refine cm r ?_;rintro i g ⟨rfl,A⟩;have br:Below (w.heap.size+1) (w.alloc (.cells #[O3 a.k,O3 a.n,Pj a.s] 65)) g:=by rw[<-s.out];exact A.mono (by rw[s.out];simp)
  obtain⟨ax,ak,ap,aC,bD⟩:=Yy br;have am:=z.trans (A.mono z.size);have D:=ah.fH A;have aD:=Qg S A;have au:d<g.heap.size:=Nat.lt_of_lt_of_le U.out A.size;have E:g.cell? (O7 d (n * 3+2))=some v:=(gD A (a:=(O7 d (n * 3+2))) U.out).trans aJ.out;have F:g.frozen? (O7 d (n * 3+2))=false:=(World.frozen?_of_block (w:=aI) (a:=(O7 d (n * 3+2))) (A.block d U.out)).trans (aV.out _);clear T;go_wp2_with fail;refine qe ?_;refine T0 ?_;exact(b).o):=O6 h;exact IY):G:=h
def un (h:G:=by
  have bO{G}(h:G:=by
  exact(b).o):=O6 h;exact wy):G:=h
def B3 (h:G:=by
  have C{G}(h:G:=by
  exact(l).o):=O6 h;exact Iy):G:=h
def UM (h:G:=by
  simp only[Value.slice.injEq] at B;obtain⟨rfl,_,rfl⟩:=B;exact(b).o):G:=h
def uu (h:G:=by
  have z{G}(h:G:=by
  exact(i).o):=O6 h;exact HT):G:=h
def uA (h:G:=by
  have w := @run_callFunc_extern prog 135 _ ReflectliteType.typeOf func135 Qs Qs Qs Qs; have v := @run_callFunc_extern prog 383 _ (ReflectliteType.relation "AssignableTo" ReflectliteType.assignableTo) func383 Qs Qs Qs Qs; have t := @run_callFunc_extern prog 136 _ (ReflectliteValue.method (ReflectliteValue.valueError "reflectlite.Value.Elem" 0) ReflectliteValue.elem) func136 Qs Qs Qs Qs; have z := @run_callFunc_extern prog 137 _ ReflectliteValue.set func137 Qs Qs Qs Qs
  have u:=@run_callFunc_extern prog 62 _ (λo=>ReflectliteValue.unpack (o.getD 0 (.tuple #[]))) func62 Qs Qs Qs Qs;have A:=R9.Pu;exact(d).o):G:=h
def C8 (h:G:=by
  have z{G}(h:G:=by
  have z{G}(h:G:=by
  exact(b).o):=O6 h;exact zI):=O6 h;exact yy):G:=h
def nI (h:G:=by
  obtain⟨bT,ac⟩:=xH u.p;rw[<-ac.out] at b0 ⊢;have a8:=Y f;exact(b).o):G:=h
def p3 (h:G:=by
  obtain⟨bU,dl,dk,cl,ck,bT,_⟩:=aJ.Zf (a:=0) O9;rw[ai] at cl;have aK:=bT.kp (Kp.of ap);obtain⟨dn,cV⟩:=xH u.p;obtain⟨t,T⟩:=xE bU.p;have cZ:=aJ.cells.1;have cU:=bT.cells.1;have cY:=aK.cells.1;have aN:=bT.cells.2.1;have D:=aK.cells.2.1;have A:=aK.cells.2.2.1;have dm:=fV ck;exact(b).o):G:=h
def xR (h:G:=by
  have aC:=q.lt;have C{G}(h:G:=by
  have T:D.heap[aj]? = some (ZK v):=by rw[F.out,H];exact Ph _ _
  exact(l).o):=O6 h;exact vL):G:=h
def YA (h:G:=by
  have aW:w2.heap[H]? = some (PZ #[Pv false,O3 0,O3 0,Qn] 67):=uK
  exact(b).o):G:=h
def xc (h:G:=by
  have bc:=qH aK bf bS;rw[if_neg O9] at bc;have cf:=ba.fH ap;obtain⟨aj,bq⟩:=xH u.p;rw[<-bq.out] at b0 ⊢;exact(b).o):G:=h
def wo (h:G:=by
  have A:=Y n;clear cA bV cB aD aW a e bW bQ cJ cG ac f n T tf S O;go_enter func201,ntmps201;go_wp2_with fail;refine J_ ?_;clear bO bu b0 cK cM;refine cm N ?_;rintro m wz ⟨rfl,i⟩;have aj:=Y (fQ i aO.out);have aN:=Y (fQ i aY.out);have aI:=bY.lt;have aK:=bY.fH i;have B:=aV.fH i;have aG:=ew.trans (P8.of (L:=au) i (P6 aI));obtain⟨a7,a1,a8,bi,ba,bc,bf,bq,bC⟩:=RN aj.out;obtain⟨bE,bv,bF,bG,bx,bA,bB,bD,bI⟩:=RN aN.out;go_wp2_with fail
  obtain⟨a6,aF,t,s,q,bn,bm,bj,bo⟩:=kH aj.out aQ.out aS aG aK (Pv o) (O3 p) (O3 on) (Pj l);rw[<-aF];exact(b).o):G:=h
def mx (h:G:=by
  go_wp2_with fail;refine iz ?_;clear bu bh;refine cm bc ?_;rintro m wz ⟨rfl,T,am⟩;have aN:=Y (am.fR bQ.out Pm);exact(b).o):G:=h
def YT (h:G:=by
  go_wp2_with fail;refine cm d ?_;intro m bF p;obtain⟨rfl,f⟩:=p;exact(b).o):G:=h
def G7 (h:G:=by
  have d3:=cO.lt;obtain⟨i,cL⟩:=xE bG.heap.size;have bD:k<=W:=O9;have cn:=Xq (b:=3) cK.out bD (PL i 0);have cP:=aw7 cK.out (PL i 0);obtain⟨cR,b4⟩:=xE (bG.setCell (O7 W 3) (PL i 0));have cJ:cR.heap.size=bG.heap.size:=by rw[b4];simp
  rw[<-b4] at cn cP;have d2:=cO.ie cn Pm;obtain⟨d,ck⟩:=xE (cR.alloc (.cells #[O3 0,O3 0,Qn] 65));have cl:Pn cR d:=by rw[ck];exact QJ
  have dm:d.heap[i]? = some (PZ #[O3 0,O3 0,Qn] 65):=by rw[ck,cL,<-cJ];exact Ph _ _
  have cw:=d2.fH cl;have bI:=Y (fQ cl cP);have dN:PU d (some i) (some vU):=dm;have dj:cR.heap[H]? = some (PZ #[O3 0,O3 0,Qn] 65):=cn.rest _ _ _ dk.out Pm;have en:=Y (fQ cl dj);have dK:Kp aj d:=λN e m O B=>Kp.of cl N e m (cn.rest N e m (dl N e m O B) (by rcases B with rfl|rfl <;> decide)) B;have eo:P8 none k w d:=(cM.hX cn (λN O=>by rw[b4];exact heap_setCell_other _ _ _ _ (show N≠W by omega))).trans (P8.of cl (by rw[cJ];exact P6 d3))
  have cZ:=cw.lt;have ek:w.heap.size<=i:=by have:=cM.below.size;omega
  have dI:k<=i:=O9;have em:i≠H:=λm=>by have:=fI dk.out;omega
  rw[<-cL,<-b4,<-ck];exact(b).o):G:=h
def xJ (h:G:=by
  obtain⟨bh,bi,aK,aL,S⟩:=h.c;have z:Pn w (w.alloc (vO a)):=QJ;have M{G}(h:G:=by
  unfold vO at C;clear v A u O aK aL;have M{G}(h:G:=by
  obtain⟨D,P,_,_,_⟩:=(h.fH d).c;exact(T).o):=O6 h;exact BJ):=O6 h;exact JF):G:=h
def JT (h:G:=by
  have C{G}(h:G:=by
  exact(p).o):=O6 h;exact vL):G:=h
def nw (h:G:=by
  obtain⟨cJ,cw,dP,bx,bq,cK,_⟩:=aZ.Zf (a:=0) O9;rw[ai] at bx;obtain⟨aj,a1⟩:=xH u.p;obtain⟨dQ,bS⟩:=xE cJ.p;exact(b).o):G:=h
def z1 (h:G:=by
  go_enter func348,ntmps348;have am:=Ti e w n c au;unfold ke at am;have aO:=ty (Qe e.l n);go_wp2_with fail;refine cm am ?_;rintro g wt ⟨rfl,H⟩;have o:=au.fH H;go_wp2_with fail;refine pY ?_;refine aMv ?_;refine wg 3 (.map (some e.mV)) rfl (Or.inl ⟨by kernel_rfl,λa s=>by have T:=QC.c5 s;go_simp⟩) o.drew ?_
  refine wh 4 (Qi e) o.drew ?_;refine Ye 5 λK k=>?_;go_simp;refine cm (TN e _ n c o.drew) ?_;rintro g f ⟨rfl,ap⟩;have l:=o.drew.fH ap;have p:=H.trans ((RP.drew.trans ap).mono H.size);refine JD ?_;clear k K;exact(b).o):G:=h
def xv (h:G:=by
  go_wp2_with fail;rw[<-C.out];have a:Below k.heap.size k k.drew:=(Below.refl _ _).drew;have z{G}(h:G:=by
  refine zlq ?_;refine uc 13 (O3 ax) rfl (Or.inl ⟨by kernel_rfl,λL q=>by have aO:=PN q (aF);go_simp⟩) (a) ?_
  refine aMw ?_;refine uc 17 (O3 aC) rfl (Or.inl ⟨by kernel_rfl,λL q=>by have aO:=PN q (aG);go_simp⟩) (a) ?_
  exact(b).o):=O6 h;exact Ca):G:=h
def rt (h:G:=by
  have z{G}(h:G:=by
  clear i;have A:=h;have R:=Ap.refl e.R w.heap.size w;have aI:=h.base.ends;have aG:=h.base.len;have F:=Y f;exact(b).o):=O6 h;exact HJ):G:=h
def oA (h:G:=by
  rw[X] at d i;simp only[QK] at i;clear X;go_wp2_with fail;exact(b).o):G:=h
def kM (h:G:=by
  have R:=Ap.refl e.R w.heap.size w;have o:=Y h.n3;exact(b).o):G:=h
def wZ (h:G:=by
  rintro wt O f a;have cn:=Y (a.fr.TL bc cg.out Pm Pm);have N:=Y (a.fr.TL bc cy.out Pm Pm);have cJ:=cu.trans a.fr;have cp:=a.ms;have dM:=a.er;have ac:=cC.TL a.fr bc;have cG:=a.la;have aI:=a.ms.lt;have aG:O≠H:=λm=>by
   have ad:=a.ob;have ak:=fI cg.out;omega
  obtain⟨t,⟨am,aC,aD⟩⟩:=A;obtain⟨a8,aO,bA,cH,bM,bZ,b2,dj,dl⟩:=RN cn.out;obtain⟨cS,cU,cV,dm,cW,c7,c9,dk,cQ⟩:=RN (a.o);obtain⟨dc,cK,dg,dh,cM,cP,cR,cT,di⟩:=RN N.out;exact(b).o):G:=h
def qO (h:G:=by
  intro f u a6 a7;have m:=Y a6;have o:=Y a7;have X:=Y (Kp.refl a b f);obtain⟨i,p,q⟩:=(o.out.fH X.out.below).cells;simp only[Tr.kd,Tr.tx,Tr.n] at i p q;have l:u<f.heap.size:=by have w:=o.out.lt;have t:=m.out.size;simp at t ⊢;omega
  exact(e).o):G:=h
def tN (h:G:=by
  have z:Pn w b:=by rw[t];exact QJ
  have i:=h.fH z;obtain⟨C,A,B,D,a1⟩:=Yy (a:=b) (by rw[t];exact RP)
  obtain⟨aN,r,_,s,I⟩:=i.c;rw[<-t];have E:b.ownsRow H 198 3 k c.Pz.length (flat (c.Pz.map Ro.h) m):=by have:=i.ro.row;rwa [List.length_map] at this
  clear t aO aQ b8 aS aN;refine qe ?_;refine Mm ?_;exact(f).o):G:=h
def HW (h:G:=by
  have z{G}(h:G:=by
  exact(b).o):=O6 h;exact HJ):G:=h
def r3 (h:G:=by
  have bK{G}(h:G:=by
  have b4:P8 none k w wz:=bE.trans A.fr;have cP:=Y (A.fr.fR cO.out Pm);clear cx;obtain⟨bI,bG,bT,bY,bU,bV,bW⟩:=Qb (A.v);exact(b).o):=O6 h;exact xP):G:=h
def lS (h:G:=by
  go_wp2_with fail;refine cm d ?_;rintro m bf ⟨rfl,rfl⟩;go_wp2;go_ret;exact(b).o):G:=h
def HC (h:G:=by
  obtain⟨bR,bQ,bT,b0,bW,bY,bZ,b2,b3⟩:=RN ac.out;go_wp2_with fail;obtain⟨a6,aV⟩:=xE (((((T.setCell (O7 H 0) (Pv true)).setCell (O7 H 1) (O3 am)).setCell (O7 H 2) (O3 aC)).setCell (O7 H 3) (Pj aD)).alloc (.cells #[Pv true,O3 am,O3 aC,Pj aD] 67));rw[<-aV];have bc:k<=H:=by have:=O4 aY;omega
  have O:=UY ac.out bc (Pv true) (O3 am) (O3 aC) (Pj aD);have c:=(Below.refl _ ((((T.setCell (O7 H 0) (Pv true)).setCell (O7 H 1) (O3 am)).setCell (O7 H 2) (O3 aC)).setCell (O7 H 3) (Pj aD))).alloc Qp (.cells #[Pv true,O3 am,O3 aC,Pj aD] 67);have bf:=fQ c (lR ac.out (Pv true) (O3 am) (O3 aC) (Pj aD));have cf{G}(h:G:=by
  exact(b).o):=O6 h;exact Ef):G:=h
def pT (h:G:=by
  obtain⟨bn,bo,b8,aC,B⟩:=h.c;have z:Pn w (w.alloc (vO a)):=QJ;exact(b).o):G:=h
def ox (h:G:=by
  go_wp2_with fail;obtain⟨bn,aV,aQ,aD,aC,bm,be,bj⟩:=iT bc.out a7.out aS bM bR (O3 W.k) (O3 W.n) (Pj W.s);refine wm ?_;exact(b).o):G:=h
def p1 (h:G:=by
  rw[<-a1.out] at bx b0;rw[<-bS] at bq aF
  rcases X:U.v (Pg C 0) ⟨l,q,r⟩ g with ⟨⟨f,E⟩,T⟩
  rw[X] at aF;have cA:=Y bx;have cZ:=Y bq;have ej:=fV bq;exact(b).o):G:=h
def yi (h:G:=by
  have ak{G}(h:G:=by
  have C:=Y (g.out.alloc (.cells #[.string ⟨#[]⟩,.int .i64 0,.int .i64 0,.int .i64 0] 275)).drew;have P:=Y (F.out.alloc g.out.size (.cells #[.string ⟨#[]⟩,.int .i64 0,.int .i64 0,.int .i64 0] 275)).drew;exact(e).o):=O6 h;exact Bo):G:=h
def sO (h:G:=by
  rw[cB] at dg;have di:=Y cB;clear cB;go_wp2_with fail;refine cm dg ?_;rintro m c9 ⟨rfl,cg⟩;have b9:=Y (fQ cg dj.out);have b7:=A.ms.fH cg;have ch:=dk.fH cg;have ck:=b4.trans (P8.of (L:=none) cg (P6 cD));have dr:=b7.lt;have cu:=dn.kp (Kp.of cg);have cf:=O4 dh;exact(b).o):G:=h
def xI (h:G:=by
  go_enter func291,ntmps291;go_wp2_with fail;rw[<-aV.out,<-aD];clear aD;refine UC 9 λa=>?_;refine iy ?_;refine Kt ?_;refine uk 8 aJ.out a ?_;refine Rl 9 λK c=>?_;go_simp;refine rR ?_;rintro m p ⟨rfl,bZ⟩;refine ko c ?_;clear c K;have aC:=a.trans bZ;have f:=aN.fH aC;have aF:=b3.trans (P8.of (L:=none) aC (P6 b4));have B:=yu bm f.bw (aI.kp (Kp.of aC));obtain⟨b1,_⟩:=f.hh.at_ 5 _ rfl;have b0:=f.lt;rw[<-bj.out] at B;exact(b).o):G:=h
def F0 (h:G:=by
  clear f;obtain⟨bu,ah,be,a7⟩:=O4 bf;have ad:=PE.length _ _ be;have ay:=QD ah;rw[ad] at ah;have a8:=Y ad;have ap:=aI.size;have z:=O4 aG;have ax:=Y ay;clear ay ad
  go_wp2_with (at_builtin;refine wpList_append_lies _ rfl _ _ 38 rfl w.heap.size 22 aZ Ry 1 8 underlying38 aX aY aV aW rfl Pm _ _ _ rfl (ah.alloc _) (O7 N.heap.size 0) 1 1 [O5 I] rfl rfl (SK N I _ rfl) (gZ I) Pm (by unfold maxLen;omega) O9 RQ (N.heap.size+1) P7 ?_)
  intro bc ba aC hown' ac au _;have aF:KV w.heap.size aC (g++[n]) (.slice (some (O7 bc 0)) (g.length+1) ba):=FB a7 (by rw[List.map_append];exact hown') (by simp[a8.out]) ac au
  have M:=(aI.alloc ap (.cells #[O5 I] 22)).grown ac RQ (λj W=>(O4 ax j W).2);have E:=c.ap (((Below.refl w.heap.size N).alloc ap (.cells #[O5 I] 22)).grown ac RQ (λj W=>(O4 ax j W).2)) aN.out;clear au;go_wp2_with fail;exact(b).o):G:=h
def q0 (h:G:=by
  have bD:Hid (QU a=true->∀ d,Pn w d->Pq 103 #[O5 i] d λm g=>(∃ f,m=PK (O5 f)/\TV d (Qz a 1) f)/\g=d):=λb8 d k=>HV a i d (cH d k) (by
   have:hr a.kd=2:=aL7
   omega) O9
  exact(b).o):G:=h
def JY (h:G:=by
  rintro wz D s A;have cx:=A.fr.fR bQ.out Pm;have b1:=Y cx;obtain⟨da,ch,dc,dd,de,dg,dO⟩:=Qb (cx);have bK{G}(h:G:=by
  exact(b).o):=O6 h;exact xP):G:=h
def xB (h:G:=by
  have cl:w.heap.size<=W:=O9;have aI:=bn.kp (Kp.of ap);have aJ:=Y aI.cells.2.2.1;have aN:=D.fH ap;have bM:=Y (fN F);have b3:=P8.of (L:=none) ap (P6 aG);obtain⟨aj,bj⟩:=xH u.p;obtain⟨R,s⟩:=xE d.2.tx;have b2:=aI.cells.1;rw[<-bj.out] at aJ b2 ⊢;rw[<-s] at aJ;have b4:=aN.lt;have cn:=fI F;have a1:=Y (λL (i:Pn w2 L)=>uH (aN.fH i).hh C.go.ok C.go.sm (P6 aQ) l R);exact(b).o):G:=h
def kP (h:G:=by
  rintro m aI ⟨⟨s,rfl,aG⟩,ah,ax⟩;refine ko c ?_;clear c K;exact(b).o):G:=h
def oa (h:G:=by
  have bc:=qH aK bf t;rw[if_neg O9] at bc;have cf:=B.fH ap;exact(b).o):G:=h
def y7 (h:G:=by
  have m:c.cell? (O7 b 0)=some Ry:=by rw[e,World.cell?_alloc_past _ _ _ RQ,World.cell?_alloc_past _ _ _ k];exact s
  have o{G}(h:G:=by
  have E:=R9.aqk (O7 a.heap.size 0) (O7 b 0) c i;rw[e] at E;exact(f).o):=O6 h;exact BH):G:=h
def zZ (h:G:=by
  rw[<-bE.out,<-b4];rw[<-b4] at bR b0;rw[<-ch] at bS aF;rw[<-bY] at aF
  rcases X:U.s (Pg q 0) ⟨r,E,ap⟩ d g with ⟨⟨A,a1,bh⟩,bq⟩
  rw[X] at aF;have cA:=Y bR;have cZ:=Y bS;have dn:=fV bS;have bK:=Y X;clear F b6 b7 aW X b4 ad bW bQ cl bR bS ch bY;go_enter func202,ntmps202;go_wp2_with fail;rw[<-cz.out,<-bu,<-b1,<-bT];clear bT bu b1 ck cB;go_wp2_with fail;exact(b).o):G:=h
def ym (h:G:=by
  have bK{G}(h:G:=by
  have aY:=Y cB;have bL:=Y aD;have dq:=Y aW;have aO:=Y bV;have aQ:=Y bQ;have aV:=am.fH bh;obtain⟨T,tf,S⟩:=p8 aD;have O:=ai.vn bY;exact(b).o):=O6 h;exact KI):G:=h
def pu (h:G:=by
  rcases X:U.v (Pg p 0) ⟨l,q,r⟩ g with ⟨⟨f,E⟩,C⟩
  exact(b).o):G:=h
def EB (h:G:=by
  go_enter func322,ntmps322;go_wp2_with fail;refine iz ?_;have cp{G}(h:G:=by
  have bT:=Xq (b:=2) bx.out bD (Pv false);have cA:=DM bx.out (Pv false);obtain⟨aY,bF⟩:=xE (aj.setCell (O7 W 2) (Pv false));rw[<-bF] at bT cA ⊢;have cf:=aF.ie bT Pm;have cp{G}(h:G:=by
  have dp:=cf.lt;exact(b).o):=O6 h;exact HG):=O6 h;exact DL):G:=h
def s7 (h:G:=by
  clear am;obtain⟨aZ,a1⟩:=xE ((wb.alloc (.cells #[O5 bV] 22)).alloc (Qc 12 O8 0 (.slice (some (O7 wb.heap.size 0)) 1 1)));exact(b).o):G:=h
def oJ (h:G:=by
  simp only[Value.slice.injEq,Option.some.injEq,Addr.mk.injEq,and_true,true_and] at A;obtain⟨rfl,rfl⟩:=A;exact(b).o):G:=h
def nN (h:G:=by
  go_enter func46,ntmps46;go_wp2_with fail;have a:Below w.heap.size w w.drew:=(Below.refl _ _).drew;exact(d).o):G:=h
def EN (h:G:=by
  have B{G}(h:G:=by
  have B{G}(h:G:=by
  refine Ye 11 λK k=>?_;go_simp;clear T O U ac ad ah;obtain⟨N,f⟩:=xE ((((r.setCell (O7 (w.heap.size+1) 0) (Pj x.tx)).setCell (O7 (w.heap.size+1) 1) (O3 x.kd)).setCell (O7 (w.heap.size+1) 2) (O3 x.parts)).setCell (O7 (w.heap.size+1) 3) (O3 x.str));exact(b).o):=O6 h;exact Hy):=O6 h;go_simp;exact I4):G:=h
def wG (h:G:=by
  have aK:=h.n3;have ai:Hid (∀ (w:Pe),QC e w n c->Pq 221 #[Qi e] w λi m=>i=PK (Pj g)/\Pn w m):=λw h=>by rw[ay];exact TN e w n c h
  clear h ay bA;go_enter func312,ntmps312;go_wp2_with fail;refine pY ?_;refine Nc ?_;refine wg 3 (.map (some e.mS)) rfl (Or.inl ⟨by kernel_rfl,λa l=>by have aj:=QC.c3 l;go_simp⟩) q ?_
  refine wh 4 (Qi e) q ?_;exact(b).o):G:=h
def KX (h:G:=by
  have M{G}(h:G:=by
  exact(b).o):=O6 h;exact BJ):G:=h
def o7 (h:G:=by
  go_wp2_with fail;refine cm s ?_;rintro f w' ⟨rfl,rfl⟩;go_wp2_with fail;refine cm z ?_;rintro f g ⟨rfl,d⟩;exact(b).o):G:=h
def rQ (h:G:=by
  rw[X] at aF;have cA:=Y bx;have cZ:=Y bq;have dz:=fV bq;exact(b).o):G:=h
def J6 (h:G:=by
  refine CS ?_;refine uc 7 (.slice (some ⟨t,0,none⟩) 2 E) rfl (Or.inl ⟨by kernel_rfl,λL b=>by have aO:=PN b (D);go_simp⟩) (a) ?_
  have F{G}(h:G:=by
  refine aMz ?_;refine uc 13 (.slice (some ⟨t,0,none⟩) 2 E) rfl (Or.inl ⟨by kernel_rfl,λL b=>by have aO:=PN b (D);go_simp⟩) (a) ?_
  refine uh 14 (.pointer (some ⟨t,1,none⟩)) (a) ?_;refine uc 15 (.pointer (some ⟨r,0,none⟩)) rfl (Or.inl ⟨by kernel_rfl,λL b=>by have aO:=PN b (O);go_simp⟩) (a) ?_
  refine Rl 16 λK p=>?_;go_simp;refine cm (O4 q _ a) ?_;exact(d).o):=O6 h;exact Kx):G:=h
def yx (h:G:=by
  have cC:=b3.fH bF;have cf:=aY.cell ah;have cB:1<w.heap.size:=fV cf;have ck:=aY.cell bf;rw[aW] at ck;clear cf;obtain⟨b9,cw,dp,bR,bS,cq,_⟩:=aZ.Zf (a:=0) O9;rw[ai] at bR;obtain⟨aj,b4⟩:=xE u.p;obtain⟨dq,ch⟩:=xE b9.p;have aF:=Y (λL (i:Pn w2 L)=>ad L b9 (bf.fH i) (cq.kp (Kp.of i)) (bc.fH i));exact(b).o):G:=h
def H9 (h:G:=by
  have c9:=Y aj;clear B aj;obtain⟨ax,au,br,bB,bR,bZ,b1⟩:=Qb bF.out;go_wp2_with fail;obtain⟨bn,aV⟩:=xE ((((aI.setCell (O7 H 0) (O3 0)).setCell (O7 H 1) (O3 0)).setCell (O7 H 2) (Qn)).alloc (.cells #[O3 f.k,O3 f.n,Pj f.s] 65));rw[<-aV];have W:k<=H:=by have:=O4 a7;omega
  have aQ:=Tn bF.out W (O3 0) (O3 0) (Qn);have ac:=(Below.refl _ (((aI.setCell (O7 H 0) (O3 0)).setCell (O7 H 1) (O3 0)).setCell (O7 H 2) (Qn))).alloc Qp (.cells #[O3 f.k,O3 f.n,Pj f.s] 65);have bK{G}(h:G:=by
  exact(b).o):=O6 h;exact I1):G:=h
def Jc (h:G:=by
  have A:=Y i;clear i;have s{G}(h:G:=by
  rintro ad E ⟨rfl,rfl⟩;go_wp2_with fail;have hv:∀ g,(j:g<(c.extract a b).size)->Rk ((c.extract a b)[g].toNat:Int)=true:=λg j=>Mb
  have n:=extract_size c a b O9 k;refine(aty (c.extract a b) E O9 O9 hv).mono ?_;rw[A.out];rintro ai ah ⟨rfl,D⟩;have o:=f.trans (D.mono f.size);clear z l;obtain⟨z,l⟩:=ot o;have f:=o;exact(q).o):=O6 h;exact Hd):G:=h
def ER (h:G:=by
  obtain⟨l,cD⟩:=xE (g.gg:Int);obtain⟨ch,b9⟩:=xE (g.gq f (-1) (-3));rw[<-cD,<-b9] at aW aG;have d0:=Y aW;have cU:=Y aG;have dE:(g.M.ro f).isSome=true:=Po.some (p:=⟨f,o,true⟩) dq;have dF:=Y (λL (t:Mx M k I z bc a6 a1 aQ L g)=>pi t dp O9 f (-1) (-3) dE);rw[<-cD,<-b9] at dF;have dY:Sz (am+1) ch:=by show Sz _ _;rw[b9];exact dp.gq _ _ _
  have dZ:0<=l/\l<ch.M.Pz.length:=by rw[cD,b9];exact⟨by show (0:Int)<=(g.M.Pz.length:Int);omega,by show (g.M.Pz.length:Int)<_;simp[St.gq,Mo.scope];omega⟩
  rw[<-aD.out];clear F bq cD b9 aW aG dE cG dq;go_enter func322,ntmps322;go_wp2_with fail;refine iz ?_;exact(b).o):G:=h
def mI (h:G:=by
  rintro m aI ⟨⟨s,rfl,aG⟩,ah,ax,bM⟩;refine ko c ?_;clear c K;exact(b).o):G:=h
def mj (h:G:=by
  go_wp2_with fail;refine cm i ?_;rintro d r ⟨rfl,rfl⟩;exact(b).o):G:=h
def y2 (h:G:=by
  go_wp2_with fail;refine EM ?_;rintro i t ⟨rfl,aI⟩;rw[aI];clear aI;go_wp2_with fail;refine cm r ?_;rintro i g ⟨rfl,e⟩;exact(b).o):G:=h
def IV (h:G:=by
  have k{G}(h:G:=by
  have k{G}(h:G:=by
  have A:Hid (o.heap[6]? = some (.cells (d.map Value.string).toArray i g)):=by
   show _=_
   rw[e.block 6 RQ,Below.heap_alloc w _ 6 s];exact O4 t
  go_wp2_with fail;refine BA ?_;rintro T C ⟨rfl,rfl⟩;go_wp2_with fail;exact(f).o):=O6 h;exact GT):=O6 h;exact KE):G:=h
def An (h:G:=by
  go_wp2_with fail;refine iz ?_;clear bu bh;refine UC 8 λa=>?_;refine kI ?_;refine vg ?_;refine Rl 8 λK c=>?_;go_simp;refine l9 ?_;rintro m wz ⟨⟨s,rfl,aG⟩,T,d0⟩;refine ko c ?_;clear c K;refine aMB ?_;have dj:=aG;have ac:=(P8.of (L:=none) a (P6 bO)).trans d0;have aN:=Y (ac.fR bQ.out Pm);exact(b).o):G:=h
def EF (h:G:=by
  clear X;go_wp2_with fail;refine L7 ?_;refine wg 1 (O3 x.kd) rfl (Or.inl ⟨by kernel_rfl,λU aF=>by obtain⟨_,aV,_,_,_,_⟩:=je aF;go_simp⟩) c.out ?_
  refine wh 2 (O5 C) c.out ?_;refine wh 3 (Qi e) c.out ?_;refine wh 4 (PL t.heap.size 3) c.out ?_;refine wg 5 (O3 x.str) rfl (Or.inl ⟨by kernel_rfl,λU aF=>by obtain⟨_,_,_,aV,_,_⟩:=je aF;go_simp⟩) c.out ?_
  refine wg 6 (O3 (x.str+1)) rfl (Or.inl ⟨by kernel_rfl,λU _=>by have br:IntKind.i64.wrap (x.str+1)=x.str+1:=(by rw[IntKind.wrap_i64];omega);go_simp;try exact br⟩) c.out ?_
  refine Ye 7 λK z=>?_;go_simp;refine lC ?_;exact(b).o):G:=h
def Jp (h:G:=by
  have D:(RW a).heap.size=a.heap.size+2:=by simp
  have I:=o.size;have H:=O4 U;have j:b.heap[a.heap.size]? = some (PZ #[Ry] 22):=by
   rw[n.block _ O9 O9,o.block _ O9,Below.heap_alloc _ _ _ P7];exact Ph _ _
  have g:b.heap[a.heap.size+1]? = some (PZ #[QW] 31):=Z0
  have E:b.cell? (O7 a.heap.size 0)=some Ry:=by rw[cell_of j];rfl
  have T:=TB j;have F:b.cell? (O7 (a.heap.size+1) 0)=some QW:=by rw[cell_of g];rfl
  have S:=TB g;have r:Pn a b:=aMi
  have C:Hid (a.heap.size+2<=i.heap.size):=by show _<=_;omega
  exact(k).o):G:=h
def Iu (h:G:=by
  have B{G}(h:G:=by
  exact(b).o):=O6 h;exact Hy):G:=h
def pR (h:G:=by
  go_wp2_with fail;refine cm d ?_;rintro m t ⟨rfl,D⟩;exact(b).o):G:=h
def qZ (h:G:=by
  obtain⟨ci,cG,cW⟩:=k.cell;obtain⟨ua,uc,b6⟩:=k.shape;subst b6;exact(b).o):G:=h
def o0 (h:G:=by
  intro m v p;obtain⟨⟨ck,rfl,rfl⟩,c,f⟩:=p;have t:=R.next f;exact(b).o):G:=h
def uX (h:G:=by
  rw[E] at d;clear E;clear i p q l;go_wp2_with fail;refine YL ?_;rintro c n ⟨rfl,D⟩;have g:=Y (m.out.below D);have F:=Y (X.out.trans (Kp.of (b:=b) m.out.size D));exact(e).o):G:=h
def rp (h:G:=by
  have bv:=bE.trans am;have a1:=cf.fR am;have bI:=T.lt;have aC:=aZ.kp am.Vo;have be:=aC.cells.1;have A:=aC.cells.2.1;exact(b).o):G:=h
def oV (h:G:=by
  refine lC ?_;intro m a p;obtain⟨⟨cM,rfl,l,rfl,D⟩,z,f⟩:=p;exact(b).o):G:=h
def Cn (h:G:=by
  have bK{G}(h:G:=by
  have ac:aK=U.s (Pg C 1) ⟨l,q,r⟩ d T:=by rw[am.out];unfold mY;rw[be.out];simp[di.out]
  have bv:=Y ac;rw[<-ac] at bc;clear cL cG cM cT cQ cR cS cU cV bI bG bT bY bU bV bW aC cC cf ac aD;go_wp2_with fail;refine UC 8 λa=>?_;refine kI ?_;refine uk 4 dq.out a ?_;exact(b).o):=O6 h;exact Lf):G:=h
def sp (h:G:=by
  go_wp2_with fail;refine cm d ?_;rintro m wf ⟨rfl,b0⟩;have aF:=aj.fH b0;have aI:=U.next (Ap.of b0);have k:=Open.fH au (Ap.of b0) o.out;clear aQ a6;exact(b).o):G:=h
def sH (h:G:=by
  go_wp2_with fail;rw[<-C.out];have a:Below k.heap.size k k.drew:=(Below.refl _ _).drew;exact(b).o):G:=h
def FU (h:G:=by
  refine UC 8 λa=>?_;refine iy ?_;refine uT ?_;refine up 5 k 12 a ?_;refine uk 6 cB.out a ?_;refine uh 7 (Pj x) (a) ?_;refine Rl 8 λK c=>?_;go_simp;refine cm (O4 a6 _ a) ?_;rintro m I ⟨rfl,bo⟩;refine ko c ?_;clear c K;have am:Pn wr I:=a.trans (bo.mono a.size);have aI:=ac.fH am;have bK:=aK.trans (SL.of am (P6 bY));have bh:=Y (fQ am au.out);have bf:=Qg cQ am;have aN:Kp H I:=λN e m O p=>Kp.of am N e m (aj N e m O p) p;have cA:=aI.lt;exact(b).o):G:=h
def vf (h:G:=by
  unfold VZ;have bF:=O4 aZ aS W;have bI:=I.at.c2;have bK:=TB I 2;have bL:=fI I;go_wp2_with fail;refine cm bF ?_;rintro m ax ⟨rfl,rfl⟩;exact(b).o):G:=h
def Kj (h:G:=by
  have bG:Hid (∀ L,Pn o L->Pq 58 #[O5 be] L λm w'=>m=PK (Pv p)/\w'=L):=λL i=>QP
  have cZ:s<o.heap.size:=by
   have ad:=aJ.cells.1;rw[<-T] at ad;have ak:=ap.size;omega
  have cV:k<o.heap.size:=by have:=ap.size;omega
  have c8:W<o.heap.size:=fI aj;have dG:H<o.heap.size:=fI am;have b9:Hid (w.heap.size<=H):=by show _<=_;omega
  clear bv bx T c aS br bD bC ai aj am z;go_enter func60,ntmps60;go_wp2_with fail;refine iz ?_;clear bu bh;exact(b).o):G:=h
def vu (h:G:=by
  have cx:=A.fr.fR bQ.out Pm;have b1:=Y cx;obtain⟨b6,ch,ci,ck,cl,cn,cp⟩:=Qb (cx);exact(b).o):G:=h
def nP (h:G:=by
  intro m q p;obtain⟨⟨cS,rfl,r,rfl,F⟩,g,f⟩:=p;exact(b).o):G:=h
def HF (h:G:=by
  refine wh 3 (Pj r) q ?_ (bi:=Or.inl ⟨by kernel_rfl,λL T=>by have C:=PN T A.out;go_simp⟩)
  refine wh 4 (YX b n c) q ?_ (bi:=Or.inl ⟨by kernel_rfl,λL T=>by
    have C:=YO.fH l T;have aJ:=C.c0;have aK:=C.c1;have aI:=C.c2;clear C;go_simp⟩)
  refine Ye 5 λK f=>?_;go_simp;refine cm (B.out _) ?_;rintro t ak ⟨rfl,ad⟩
  try rw[<-p] at ad
  have i:Pn s ak:=q.trans (ad.mono Qp);refine p9 ?_;clear f K;refine wh 6 (VZ H) i ?_;refine YN ?_;exact(m).o):G:=h
def F3 (h:G:=by
  have aF:=l.lt;obtain⟨C,H⟩:=xH (w.alloc (.cells #[O3 v.k,O3 v.n,Pj v.s] 65));obtain⟨aI,aj⟩:=xH w.heap.size;have E:Pn w C:=by rw[H.out];exact QJ
  have o:C.heap[aI]? = some (ZK v):=by rw[H.out,aj.out];exact Ph _ _
  have aG:=l.fH E;have aK:=aG.lt;have aJ:=P8.of (L:=none) E (P6 aF);obtain⟨dY,dV,dZ,dX,aD⟩:=l;have s:=aD.fH E;obtain⟨aL,D⟩:=xE (g.M.SI d);have F:=DY s.hh d;obtain⟨aV,_⟩:=s.hh.at_ 9 _ rfl;exact(p).o):G:=h
def qb (h:G:=by
  have c9:=Y bq;have dc:=P8.of (L:=none) ap (P6 aS);exact(b).o):G:=h
def Gi (h:G:=by
  have aI:Hid (∀ (j:Nat) (q:j<a.fJ.length) (f:Nat) (d:Pe),TV d a.fJ[j] f->Pq 48 #[O5 f,YX true true true] d λm g=>m=PK (VZ (g5 a.fJ[j] true true true))/\Pn d g):=λj q f d bm=>by
   have ad:=TF a.fJ j q;exact aQ a.fJ[j] O9 (M _ (List.getElem_mem _)) O9 f true true true d bm
  obtain⟨bn,F⟩:=xE (iS a true true N);obtain⟨aV,E⟩:=xE (Uk a.fJ true true true);rw[<-F,<-E] at s;simp only[<-F] at R;rw[s];have aK:=Y E;exact(b).o):G:=h
def pA (h:G:=by
  have aF:=Y (λL (i:Pn w2 L)=>ad L cJ o (bf.fH i) (cK.kp (Kp.of i)));exact(b).o):G:=h
def uf (h:G:=by
  obtain⟨aN,aQ,aS⟩:=(Open.fH k z o.out).cell;have aV:g<a.heap.size+1:=O9;have aW:g<a.heap.size+1+1:=O9;refine c _ _ ?_;clear c K;exact(b).o):G:=h
def ET (h:G:=by
  have F:=(l.alloc Un).drew;refine k.out _ _ F (λ_=>?_);clear k K;refine Ye 5 λK k=>?_;go_simp;refine cm (TN e _ n c F) ?_;rintro g B ⟨rfl,q⟩;have d:=F.fH q;have m:=p.trans ((((Below.refl f.heap.size f).alloc Qp Un).drew.trans (q.mono P7)).mono p.size);have E:B.heap[f.heap.size]? = some Un:=(q.block _ P7).trans (Ph f Un);obtain⟨U,R,ac,ad,ah,ai⟩:=je E;have aj:=Y E;clear E;refine tW ?_;clear k K;exact(b).o):G:=h
def pa (h:G:=by
  obtain⟨_,_,_,h⟩:=Ua h;obtain⟨_,_,_,h⟩:=Ua h;exact(a).o):G:=h
def xa (h:G:=by
  refine Rl 7 λK c=>?_;go_simp;refine cm f ?_;rintro m a1 ⟨rfl,aD⟩;refine ko c ?_;clear c K;have U:=r.fH aD;have aK:=aF.trans (P8.of (L:=none) aD (P6 aG));have t:=U.lt;refine TQ ?_ _;go_simp;go_wp2_with fail;exact(l).o):G:=h
def q9 (h:G:=by
  go_wp2_with fail;refine cm d ?_;rintro m u ⟨rfl,H⟩;have F:=ai.next (Ap.of H);have A:=aD.fH H;exact(b).o):G:=h
def Aa (h:G:=by
  have cz:=aN 0;clear aN;refine uz 7 (PL W 0) ?_;refine uaZ 8 ?_;refine TQ ?_ _;go_simp;have bK{G}(h:G:=by
  exact(b).o):=O6 h;exact DG):G:=h
def A5 (h:G:=by
  obtain⟨dk,dg,dh,da,de⟩:=info_parts MF;obtain⟨cT,cl,dH,aS,br,cg,_⟩:=aJ.Zf (a:=1) O9;rw[ai] at aS;obtain⟨bz,bv⟩:=xE g.Ri.length;obtain⟨cf,bx⟩:=xE ((g.M.objs.length:Int):Int);obtain⟨s,T⟩:=xE u.p;obtain⟨be,bC⟩:=xE cT.p;have dc:=bB.lt;rw[<-bx,<-T];rw[<-bv] at ba;rw[<-T] at aS;rw[<-bC] at br;have di:=bB;have dj:=aJ;have aV:=Y bv;have dm:=Y bx;have dd:=Y T;have c9:=ay;have dl:=Y c;exact(b).o):G:=h
def zh (h:G:=by
  have au:=h;have aW:=Below.refl w.heap.size w;have aQ:((Qe e.l n).kd==1)=false:=beq_eq_false_iff_ne.2 A;have aS:((Qe e.l n).kd==3)=false:=beq_eq_false_iff_ne.2 t;have aV:((Qe e.l n).kd==4)=false:=beq_eq_false_iff_ne.2 r;exact(b).o):G:=h
def Dy (h:G:=by
  obtain⟨C,bj,bi⟩:=List.findIdx?_eq_some_iff_getElem.1 R;obtain⟨m,o⟩:=xH f.length;have au:(f.eraseIdx g).length=m - 1:=by rw[List.length_eraseIdx,if_pos C,o.out]
  rw[au];obtain⟨bR,ax⟩:=QM F (a:=d) rfl;have bo:q≠d:=RG r ax Pm;have br:=lt_of_block r;have ay:=Y X;have bq:=Y r;rw[<-o.out] at ah F C;rw[<-o.out] at ap;have am:f.length=m:=o.out.symm;clear R bj bi r w ax X au;rw[am];clear am;exact(b).o):G:=h
def oj (h:G:=by
  have r:=((Below.refl _ w).alloc Qp _).trans (d.mono P7);exact(b).o):G:=h
def wT (h:G:=by
  go_wp2_with fail;refine cm bA ?_;rintro n bQ ⟨rfl,bB⟩;have E:=ah.trans (bB.mono bO);have aY:=aX.trans (bB.mono aX.size);have bz:=Y (fQ aY bx.out);have cf:k<bQ.heap.size:=by have:=E.size;omega
  exact(b).o):G:=h
def Cr (h:G:=by
  go_wp2_with (at_builtin;refine wpList_append_lies _ rfl _ _ 38 rfl l.heap.size 22 W Ry 1 8 underlying38 R S O P rfl Pm _ _ _ rfl (k.alloc _) (O7 r.heap.size 0) 1 1 [O5 g] rfl rfl (OL r g _ rfl) (arn g) Pm (by unfold maxLen;omega) O9 RQ (r.heap.size+1) P7 ?_)
  intro aS aO aQ hown' ap am _;have T:=e.trans (((Below.refl l.heap.size r).alloc au (.cells #[O5 g] 22)).grown ap RQ (λak aj=>(O4 X ak aj).2));clear am;go_wp2_with fail;exact(b).o):G:=h
def qs (h:G:=by
  intro m a p;obtain⟨⟨dC,rfl,dq⟩,q,f⟩:=p;obtain⟨l,rfl,T⟩:=dq.nv;exact(b).o):G:=h
def E7 (h:G:=by
  have n:(f.Pz.map Ro.h)[e]? = some x.h:=by simp[E]
  have u:w.ownsRow H 262 6 _ x.cs.length (x.cs.flatMap Ce.h):=h.ro.own e x.h _ n k;obtain⟨O,N,t,_⟩:=oD u j;simp only[Value.slice.injEq,Option.some.injEq,Addr.mk.injEq,and_true] at t;obtain⟨rfl,rfl,rfl⟩:=t;obtain⟨I,z⟩:=u.stored (a * 6+1) (O3 b.k);obtain⟨M,v⟩:=I.stored (a * 6+2) (O3 b.n);obtain⟨l,A⟩:=M.stored (a * 6+3) (Pj b.s);exact(B).o):G:=h
def r2 (h:G:=by
  rw[<-aK.out,<-a1.out];rw[<-a1.out] at bx b0;rw[<-bS] at bq aF;exact(b).o):G:=h
def uZ (h:G:=by
  go_wp2_with fail;obtain⟨a6,aV,aQ,bD,bC,bn,bm,bj,bo⟩:=kH cn.out a7.out aS cJ cp (Pv true) (O3 am) (O3 aC) (Pj aD);rw[<-aV];exact(b).o):G:=h
def L0 (h:G:=by
  have z{G}(h:G:=by
  have ak:=Y l.base.size;go_wp2_with fail;refine pY ?_;refine wh 0 (Qi e) l.drew ?_;refine wh 1 (Qi e) l.drew ?_;refine wh 2 (PL e.R 3) l.drew ?_;refine wg 3 (.map (some e.mS)) rfl (Or.inl ⟨by kernel_rfl,λa s=>by have T:=QC.c3 s;go_simp⟩) l.drew ?_
  refine wh 4 (Qi e) l.drew ?_;exact(b).o):=O6 h;exact zI):G:=h
def o9 (h:G:=by
  rcases X:i.v (Pg b 0) a σ.step with ⟨⟨v,m⟩,g⟩
  rw[X] at c;exact(T).o):G:=h
def K3 (h:G:=by
  go_wp2_with fail;obtain⟨aN,H⟩:=xE (((wb.setCell (O7 w.heap.size 0) (O3 b.k)).setCell (O7 w.heap.size 1) (O3 b.n)).setCell (O7 w.heap.size 2) (Pj b.s));rw[<-H];have O:=lq q.out (O3 b.k) (O3 b.n) (Pj b.s);have t:=hj aj Qp (O3 b.k) (O3 b.n) (Pj b.s);have N:=Tn (k:=w.heap.size) q.out Qp (O3 b.k) (O3 b.n) (Pj b.s);rw[<-H] at O t N;obtain⟨bm,be,bj,_,_⟩:=fX O;exact(e).o):G:=h
def E6 (h:G:=by
  go_wp2_with (at_builtin;refine wpList_append_lies _ rfl _ _ 26 rfl w.heap.size 9 aK (Pj ByteArray.empty) 1 16 underlying26 aD aF ax ay rfl Pm _ _ _ rfl (o.alloc _) (O7 wr.heap.size 0) 1 1 [Pj x] rfl rfl (Zc wr x _ rfl) (qw x) Pm (by unfold maxLen;omega) O9 RQ (wr.heap.size+1) P7 ?_)
  intro bv bu ap hown' aJ aI _;have aG:=(c.alloc aC (.cells #[Pj x] 9)).grown aJ RQ (λi m=>(QD o i m).2);exact(b).o):G:=h
def qX (h:G:=by
  rw[aD,aC,l] at s;have cH:∀ d,Pn w d->TV d a i:=λd k=>h.fH k;have bx:=Y cH;exact(b).o):G:=h
def Kz (h:G:=by
  have au:Pn w T:=zr
  have bo:TV T a i:=O4 bx T au;obtain⟨bh,_,_,u4,a1,aJ⟩:=bo.cells;obtain⟨ua,uc,rfl⟩:=aJ.form;have bv:(ax.setCell (O7 w.heap.size 2) (Pv false)).cell? (O7 i 3)=some (.slice ua a.fJ.length uc):=by rw[<-t];exact a1
  exact Gh):G:=h
def La (h:G:=by
  go_wp2_with fail;refine YL ?_;rintro k l ⟨rfl,U,T⟩;obtain⟨r,w,o,X,D⟩:=U;have S:c<=l.heap.size:=by have:=fI o;omega
  have ak:l.cell? ⟨b,0,none⟩=some (Ve b):=by rw[Lib.cell_of_heap o];rfl
  have am:l.cell? ⟨b,1,none⟩=some w:=by rw[Lib.cell_of_heap o];rfl
  have n:=Y X;have A:=Y T;have t:=Y o;have C:=Y D;clear o D;exact(p).o):G:=h
def xg (h:G:=by
  have a7:=Y bO;have eu:=aF.lt;have dL:=Y (λL (t:TV L a.2 u.p)=>Uo a.2 u.p L t);rw[b2,<-aD.out] at dL;have ep:TV aj a.2 q:=by rw[aD.out,<-bf.tr];exact bf.at_.nat.nt
  exact(b).o):G:=h
def vX (h:G:=by
  have F:aj.heap[W]? = some (PZ #[O3 f,O3 o,Pv false,.pointer aK] 73):=by rw[cq.out,bu];exact fY (Ph _ _)
  have bq:aj.heap[H]? = some (PZ #[O3 0,O3 0,Qn] 65):=aMb
  exact(b).o):G:=h
def Hi (h:G:=by
  clear z aO;go_enter func270,ntmps270;go_wp2_with fail;rw[<-F.out,<-H];clear H;refine UC 6 λa=>?_;refine iy ?_;refine uh 3 (O3 g) (a) ?_;refine uh 4 (Pj b) (a) ?_;refine jN 5 aG.out a ?_;refine Rl 6 λK c=>?_;go_simp;refine cm (O4 s _ a) ?_;rintro m aF ⟨rfl,B,W⟩;refine ko c ?_;clear c K;have ac:=(Ql.of A (P6 T)).trans ((Ql.of a (P6 aI)).trans W);exact(p).o):G:=h
def DI (h:G:=by
  obtain⟨a,N⟩:∃ a,f[c+1]? = some a:=⟨_,List.getElem?_eq_getElem (by rw[<-o.out];exact U)⟩
  have O:g<f.length:=by rw[<-o.out];exact C
  have aC:c<f.length:=by rw[<-o.out];omega
  have z:(Lm f g c).length=m:=by rw[B4 O aC,o.out]
  have ad:(Lm f g c)[c+1]? = some a:=by rw[M0 O aC O9];exact N
  have ac:=u;rw[<-z] at ac;exact(b).o):G:=h
def qj (h:G:=by
  have aN:=Y h.base.size;obtain⟨aZ,aX,aY,aV,aW⟩:=info_parts hV;exact(b).o):G:=h
def CV (h:G:=by
  have M:=h.fH z;obtain⟨c,bc,v,D,ba,E,F,be,N,bm,a7,_⟩:=M.ob.at_ (i:=n) (e:=x.h) (by simp[bN]);have s:=q6 c bc _ n ba (w.alloc (vO a));rw[<-D] at s;have C:(w.alloc (vO a)).ownsRow H 207 5 v x.ps.length (x.ps.flatMap Pr.h):=be;have t:=vN c (n * 2) v x.ps H l (w.alloc (vO a)) (F 1 v rfl) C (by have:=ay.ps x (List.mem_of_getElem? bN);omega)
  exact(b).o):G:=h
def o8 (h:G:=by
  obtain⟨T,f,t,E,i,r,D,A,O,o,s⟩:=Z1 h l;exact(d).o):G:=h
def zn (h:G:=by
  have M:=Y aW;have aF:=Y bN;have N:=Y ai;have aJ:=Y (C 2 v rfl);have I:=Y aX;have O{G}(h:G:=by
  exact(b).o):=O6 h;exact yp):G:=h
def vi (h:G:=by
  go_wp2_with fail;obtain⟨bn,aV,aQ,aD,aC,bm,be,bj⟩:=iT b9.out a7.out aS dc dd (O3 0) (O3 0) (Qn);refine zJ ?_;exact(b).o):G:=h
def v8 (h:G:=by
  obtain⟨A,q⟩:=xE (c.SI i);have T:Hid (∀ g,Pn w g->Pq 125 #[PL H 0,O3 i] g λf w'=>f=PK (O3 A)/\w'=g):=λg d=>by rw[q];exact y0 (h.fH d) i
  exact(b).o):G:=h
def Fz (h:G:=by
  have bK{G}(h:G:=by
  have cT:=Y D;have cS:=Y A;clear F aW bo aY bC T aG D A b8 bG;go_enter func261,ntmps261;go_wp2_with fail;refine iz ?_;clear bu bh;refine UC 15 λa=>?_;refine zlz ?_;refine Rl 15 λK c=>?_;go_simp;refine rR ?_;rintro m a6 ⟨rfl,cR⟩;refine ko c ?_;clear c K;have s:=a.trans cR;exact(b).o):=O6 h;exact r6):G:=h
def Hf (h:G:=by
  obtain⟨dP,cV,bI,dO,cy,cz,bS,cp,dQ⟩:=aJ.qt ai;have bx:=cp.kp (Kp.of ap);have cZ:=dQ.kp (Kp.of ap);obtain⟨aj,cr⟩:=xE u.p;obtain⟨bB,bG⟩:=xH dP.p;obtain⟨eo,cu⟩:=xH cV.p;have dS:=aJ.cells.1;have dR:=cp.cells.1;have cw:=cp.cells.2.1;have en:=fV cz;have cn:=aZ.tC (PN ap cy);have bU:=aZ.gw;have bT:=bx.gw;exact(b).o):G:=h
def Ge (h:G:=by
  have bC:TV T a i:=O4 bx T au;obtain⟨bh,_,_,u4,a1,ba⟩:=bC.cells;obtain⟨ua,uc,rfl⟩:=ba.form;have bv:(ax.setCell (O7 w.heap.size 2) (Pv true)).cell? (O7 i 3)=some (.slice ua a.fJ.length uc):=by rw[<-t];exact a1
  exact Gh):G:=h
def AX (h:G:=by
  have b3{G}(h:G:=by
  have cI:=s9 (Qg b0 b4) (Nat.zero_le _);have bZ:=Y bi;have bj:=Y u;clear u bi;go_wp2_with fail;rw[<-bj.out];refine cm (O4 bY F E _ w b2.out) ?_;intro c ap au;exact(N).o):=O6 h;exact GZ):G:=h
def FQ (h:G:=by
  refine UC 6 λa=>?_;refine Ln ?_;refine up 3 k 0 a ?_;refine up 4 aj 0 a ?_;refine Rl 5 λK c=>?_;go_simp;refine cm (O4 bM _ a) ?_;rintro m dE ⟨rfl,cS⟩;rw[cS];clear cS dE;refine c.out _ _ (λ_=>a) ?_;clear c K;refine Rl 6 λK c=>?_;go_simp;refine cm (O4 bE _ a) ?_;rintro m bG ⟨rfl,dX,bL,aY⟩;refine ko c ?_;clear c K;exact(b).o):G:=h
def uY (h:G:=by
  have n:=heap_setCell_same w a 0 _ o b h;have m:=heap_setCell_same _ a 1 _ o c n;have f:=heap_setCell_same _ a 2 _ o d m;exact(i).o):G:=h
def pc (h:G:=by
  go_wp2_with fail;refine cm e ?_;rintro b m ⟨rfl,a⟩;exact(g).o):G:=h
def pU (h:G:=by
  have aF:=bB.fH ap;have bf:=aJ.kp (Kp.of ap);have bx:=Y F;exact(b).o):G:=h
def vE (h:G:=by
  have ak:=wpOp_putIf q (hfree a d q f I D) (λp g=>hsel b i p g t) (λp g=>hsel a d p g q) O j (H.2 a (ready_mono m f));refine wpOp_mono (λR w o=>?_) ak;exact(z).o):G:=h
def x1 (h:G:=by
  go_wp2_with fail;refine cm d ?_;rintro m wf ⟨rfl,aY⟩;have ah:=cq.fH aY;have aZ:=cr.next (Ap.of aY);replace A:=Y (TP (a:=e) A (Ap.of aY) o.out);exact(b).o):G:=h
def uR (h:G:=by
  have ad:=Y0 d.2;have ak:Tr.f1 d.2.fJ<d.2.count:=by cases d.2;rw[Tr.count];exact Nat.lt_add_of_pos_left O9
  exact(b).o):G:=h
def s4 (h:G:=by
  have aO:=aF.at.c0;have ad:=aF.at.c1;have ak:=aF.at.c2;have bY:=fI aF;have U:=O4 aI j o f wr aX;exact(b).o):G:=h
def z6 (h:G:=by
  have b2:Pn aI bv:=by rw[ac];exact QJ
  have b3:=b7.fH b2;have cL:=Y (fQ b2 bF.out);have cM:=cG.trans (P8.of (L:=none) b2 (P6 c8));have cy:=b3.lt;exact(b).o):G:=h
def rr (h:G:=by
  go_wp2_with fail;refine YL ?_;intro c aJ A;obtain⟨rfl,r,k⟩:=A;have f:=Y r;exact(o).o):G:=h
def sP (h:G:=by
  go_wp2_with fail;refine cm l ?_;rintro d ai ⟨rfl,M⟩;have p:=O.trans (M.mono O.size);go_wp2_with fail;exact(b).o):G:=h
def zM (h:G:=by
  have cu:=P8.of (L:=au) bF (P6 aS);have cy:=Y b7;have bB:=Y (fN F);have cz:=Y aW;have cg:=Y b6;have a7:=Y bQ;have bc:=ba.fH bF;exact(b).o):G:=h
def Ld (h:G:=by
  have z:=h;have q:=(h.alloc Un).drew;have M:=((h.alloc Un).alloc Un).drew;have aG:Hid (∀ a:Pe,QC e a n c->(Instr.lookup 229 (.map (some e.mS)) (Pj g) true).run prog a=.ok (.tuple #[.agg #[Pj x.tx,O3 x.kd,O3 x.parts,O3 x.str],Pv true]) a):=λa l=>by
   have:=YB e g a l.base.gJ;rw[bA] at this;exact this
  exact(b).o):G:=h
def AV (h:G:=by
  go_wp2_with fail;refine cm d6 ?_;rintro m bB ⟨⟨u7,rfl,dp⟩,bW⟩;obtain⟨fE,fF,e5⟩:=dp.form;subst e5;have d9:=bR.fH bW;have d8:=dk.trans (SL.of bW (P6 dl));have ea:=Y (fQ bW di.out);have d7:=Y (fQ bW dj.out);have e6:=UW.kp (λN e m O p=>Kp.of bW N e m (bU N e m O p) p) _ _ ci;exact(b).o):G:=h
def sv (h:G:=by
  rw[i] at A;obtain⟨ai,aO,aj,aD,_,aF⟩:=fN aI.out;clear i;go_wp2_with fail;refine cm E ?_;exact(b).o):G:=h
def Li (h:G:=by
  refine lC ?_;intro m H p;obtain⟨⟨cQ,rfl,cp⟩,g,f⟩:=p;have a1:=U.drew.next f;have bB:=g;have cu:=g.lt;have M:=Open.fH s (((Ap.refl e.R ac.heap.size ac).drew).next f) o.out;have cx:=((Ap.refl e.R ac.heap.size ac).drew).next f;have a6:=cp;obtain⟨bC,bD,cw⟩:=M.cell;clear f;refine c _ _ ?_;exact(b).o):G:=h
def yl (h:G:=by
  have bv:=Y T;clear T;go_wp2_with fail;obtain⟨a6,aV,aQ,bD,bC,bn,bm,bj,bo⟩:=kH cn.out a7.out aS cJ cp (Pv o) (O3 p) (O3 on) (Pj l);rw[<-aV];exact(b).o):G:=h
def CC (h:G:=by
  have bU:i.cell? (O7 wr.heap.size 0)=some (Pj a.name):=by simp[World.cell?,v]
  have bS:i.cell? (O7 wr.heap.size 1)=some (O3 a.v.k):=by simp[World.cell?,v]
  have bT:i.cell? (O7 wr.heap.size 2)=some (O3 a.v.n):=by simp[World.cell?,v]
  have bV:i.cell? (O7 wr.heap.size 3)=some (Pj a.v.s):=by simp[World.cell?,v]
  exact(b).o):G:=h
def qq (h:G:=by
  obtain⟨j,q,rfl,aW,O⟩:=hrel;have D:=Y aW;clear aW;exact(b).o):G:=h
def Fl (h:G:=by
  rw[<-F,<-E] at s;simp only[<-F] at R;rw[s];have aK:=Y E;have bV:=(Below.refl w.heap.size w).alloc Qp (.cells #[Pv false,Pv n,Pv N] 112);exact(b).o):G:=h
def JO (h:G:=by
  refine c.out _ _ (λ_=>bm) ?_;clear c K;have bn:P8 (some i) k d p:=(P8.of au (P6 cZ)).trans b1;have cQ:Ms M k I z p bU:=⟨_,_,_,_,cx⟩;have cI:Kp d p:=λN e m O B=>aV.kp ax N e m (Kp.of au N e m O B) B;have cz:PU p (some i) (some vU):=be.fR (fQ au dN) Pm;have dM:=cx.lt;exact(b).o):G:=h
def s1 (h:G:=by
  rintro d g ⟨rfl,o⟩;rw[o];clear o;go_wp2_with fail;obtain⟨T,O,S,M,N⟩:=info_parts MJ;exact(f).o):G:=h
def wj (h:G:=by
  go_enter func354,ntmps354;go_wp2_with fail;refine cm u ?_;rintro f P ⟨rfl,rfl⟩;go_wp2_with fail;refine cm t ?_;rintro f w2 ⟨rfl,p⟩;have e:=p;exact(q).o):G:=h
def Fv (h:G:=by
  clear f z bf;obtain⟨M,m⟩:=xE (g++l);obtain⟨N,n⟩:=xE (M++G);rw[<-m,<-n];have bT:M.length<=40000:=by rw[m,List.length_append];omega
  have bU:N.length<=60000:=by rw[n,List.length_append];omega
  have bi:=Y m;have bh:=Y n;clear m n;go_enter func78,ntmps78;exact(b).o):G:=h
def us (h:G:=by
  intro m bh i;obtain⟨v,rfl,i⟩:=Y4 i;have W:=Y (Y3 l (Y3 a i));have a8:=i.1;exact(b).o):G:=h
def rA (h:G:=by
  obtain⟨cA,cR,cW⟩:=s.cell;obtain⟨ua,uc,cB⟩:=s.shape;subst cB;exact(b).o):G:=h
def B5 (h:G:=by
  have W:=Y (λL (a:Pn w L)=>Bp u c L (Qa.fH (Below.gx a) _ _ E) v d (A.fH a) (Lib.tabBelow_of_tabIs e L a));have X:=Y (λL (a:Pn w L)=>Bp N g L (Qa.fH (Below.gx a) _ _ D) H f (A.fH a) (Lib.tabBelow_of_tabIs e L a));have aO:=AF v d;have aQ:=AF H f;exact(b).o):G:=h
def yG (h:G:=by
  refine cm (ai.out _ q) ?_;rintro i r ⟨rfl,F⟩;obtain⟨I,H,A⟩:=aCt z F;have d:=I;have o:=H;have p:=Y A;clear A;exact(b).o):G:=h
def Ej (h:G:=by
  go_wp2_with fail;refine cm ah ?_;rintro E bm ⟨rfl,I⟩;have aF:=Qg F I;have aD:l.grownBy bm (some d):=⟨I.os,I.tape,I.output,I.size,λe n _=>I.block e n⟩;have bY:m<=p:=aMf
  have bW:((g:Int) == -1)=false:=by rw[beq_eq_false_iff_ne];omega
  go_wp2_with fail;exact(b).o):G:=h
def sd (h:G:=by
  obtain⟨aO,aQ,b8,aS,aK⟩:=h.c;have q:=Y ay.r;have F:=Y aK;exact(f).o):G:=h
def qR (h:G:=by
  go_wp2_with fail;refine cm s ?_;rintro i w' ⟨rfl,rfl⟩;go_wp2_with fail;exact(b).o):G:=h
def Jx (h:G:=by
  refine wt 12 (O5 a) ?_;refine wt 13 (PL a 3) ?_;refine wbZ 14 ?_;refine wpAny_done Qs ?_ _;go_simp;obtain⟨ai,au,ax⟩:=O4 bE;obtain⟨ap,aC,a7⟩:=ai.nv;have aj:ap=a:=by simpa[O5] using aC.symm
  subst aj;have T:=O4 cy;have aJ:=a7;have I:=au;have aK:=ax;clear aC;go_wp2_with fail;exact(b).o):G:=h
def Jl (h:G:=by
  rw[bG] at aN D;obtain⟨aF,aG⟩:=xE ((Pg p 0).2.tx);rw[<-aG] at A;have a1:Hid (∀ L,Pn w2 L->Pq 195 #[O5 k,O3 l,Pj aF] L λm w'=>m=PK (O3 (g.M.find l aF))/\Pn L w'):=λL i=>by
   obtain⟨_,_,_,_,a⟩:=bf.fH i;exact uH a.hh bq.go.ok bq.go.sm (P6 bW) l aF
  exact(b).o):G:=h
def Br (h:G:=by
  go_enter func296,ntmps296;go_wp2_with fail;rw[<-E.out,<-D];clear D;refine UC 5 λa=>?_;refine iy ?_;refine up 3 W 1 a ?_;refine uk 4 (aj.out.2.1) a ?_;refine Rl 5 λK c=>?_;go_simp;refine cm (O4 F _ a) ?_;rintro m ap ⟨rfl,T⟩;rw[T];clear T ap;refine ko c ?_;clear c K;exact(ac).o):G:=h
def GX (h:G:=by
  have A:VG i b a aL m q σ=match i.s (Pg b 0) a q σ with
   | ((l,.no,O),g)=>if l.ret then ((l,.no,O),g) else ((aL,m,O),g)
   | B=>B:=by
   unfold VG
   cases m with
   | stop=>exact absurd rfl d
   | _=>rfl
  rw[A]
  rcases X:i.s (Pg b 0) a q σ with ⟨⟨l,s,O⟩,g⟩
  rw[X] at c;exact(t).o):G:=h
def JN (h:G:=by
  rw[<-bE];have b4:=Y b6;rw[<-bE] at b4;have aX:=Y bM;have aY:=Y bQ;have b7:=Y bO;have dz:=bI;clear B bq bx bB aW aI bM bQ bO bK aD aZ ba b6 bE cW bF bI dz ai;go_enter func300,ntmps300;go_wp2_with fail;rw[<-dC.out,<-cS.out,<-dH.out,<-dB.out,<-dD.out];exact(aK).o):G:=h
def BM (h:G:=by
  have d:=h.q P7;have l:=d.iv.gq a.scope (-1) (own b);have s:=l.iv.hi (h.er.2.up l.ex.ob) σ.gg b.2.tx 0;have c:=l.trans s;have t:Po { a with scope:=σ.gg } ((σ.gq a.scope (-1) (own b)).hi σ.gg b.2.tx 0 v):=by
   refine Po.up (σ:=σ.gq a.scope (-1) (own b)) ?_ s.ex;exact HX
  exact(A).o):G:=h
