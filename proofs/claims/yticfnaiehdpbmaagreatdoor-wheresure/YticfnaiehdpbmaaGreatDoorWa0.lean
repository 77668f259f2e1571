import Derived.Test.YticfnaiehdpbmaaGreatDoorProg
import Derived.WalkKit
import Derived.Deep.LoopGhost
import Derived.Deep.RegionWith
set_option maxRecDepth 100000
set_option maxHeartbeats 0
set_option linter.all false
namespace Go.Proofs.YticfnaiehdpbmaaGreatDoor
open Go.RowKit Go.Proofs.Tryz
section
def gq:=@List.getElem?_eq_getElem
def gs:=@List.getElem?_eq_some_iff
def gg:=@List.length_append
def gn:=@List.mem_singleton
def fT:=@if_neg
def gt:=@List.mem_cons_self
def fU:=@Or.inl
def gC:=@List.mem_of_getElem?
def fY:=@if_pos
def ge:=@Nat.zero_le
def ha:=@List.take_succ_eq_append_getElem
def gy:=@Below.heap_alloc
def g5:=@List.getElem?_append_right
def gN:=@World.cell?_of_block
def gO:=@List.mem_cons_of_mem
def gr:=@Nat.le_trans
def gH:=@Nat.lt_of_lt_of_le
def g6:=@List.getElem?_append_left
def gi:=@Below.refl
def gB:=@List.mem_append
def gT:=@beq_eq_false_iff_ne
def hk:=@List.getD_eq_getElem?_getD
def gR:=@Nat.le_succ_of_le
def gF:=@List.length_map
def g9:=@World.cell?_alloc_past
def gw:=@Nat.le_succ
def f4:=@Or.inr
def gY:=@heap_setCell_other
def gZ:=@Below.heap_setCell
def hf:=@World.frozen?_of_block
def gE:=@List.mem_cons
def gV:=@List.take_length
def gU:=@List.getElem_mem
def g4:=@List.length_cons
def g7:=@Value.slice.injEq
def hu:=@List.length_filter_le
def he:=@Option.some.injEq
def gM:=@lt_of_block
def hb:=@Option.some.inj
def hc:=@List.map_append
def hs:=@heap_setCell_same
def gW:=@Sem.run_bind
def hi:=@decide_eq_false
def h7:=@List.drop_eq_getElem_cons
def hW:=@List.getElem?_set_self
def ih:=@Array.getElem?_eq_some_iff
def hZ:=@List.length_singleton
def hS:=@World.grownBy_alloc
def hI:=@List.append_assoc
def hr:=@decide_eq_true
def iq:=@List.mem_or_eq_of_mem_set
def iz:=@List.mem_of_find?_eq_some
def hy:=@List.nil_append
def h8:=@List.getElem?_set_ne
def hM:=@List.flatMap_cons
def hx:=@run_underlying
def g2:=@info_parts
def h9:=@List.take_set_of_le
def hp:=@bodyPost_ret
def hQ:=@List.length_take
def hR:=@List.cons_append
def h5:=@Result.andThen_ok
def hv:=@List.map_cons
def ic:=@Bool.false_eq_true
def jX:=@List.findIdx?_eq_some_iff_getElem
def hO:=@List.prefix_rfl
def hH:=@heap_alloc_new
def iC:=@World.cell?_alloc_at
def iB:=@List.mem_append_left
def hL:=@Bool.false_or
def hj:=@wpAny_done
def iN:=@List.take_of_length_le
def iu:=@List.mem_map_of_mem
def iE:=@ByteArray.toList_eq
def zalcy:=@congrArg
def iT:=@List.flatMap_append
def jL:=@List.findIdx?_eq_none_iff
def jm:=@List.take_append_drop
def hX:=@underlying38
def h3:=@Nat.zero_add
def h4:=@List.mem_map
def jr:=@List.length_eraseIdx
def jO:=@World.frozen?_alloc_old
def jR:=@World.block_lt_of_cell?
def iR:=@World.ownsRow_nil
def iU:=@Int.toNat_natCast
def ir:=@List.mem_filter
def jb:=@List.take_succ_cons
def jk:=@List.getElem_of_mem
def h2:=@getD_set_ne
def je:=@List.length_zipIdx
def ix:=@List.take_zero
def jI:=@List.mem_append_right
def iX:=@List.append_nil
def ja:=@List.nodup_append
def jc:=@List.getElem?_map
def jj:=@List.foldl_append
def im:=@Nat.lt_or_ge
def ij:=@Bool.true_or
def zalea:=@Tryz.underlying9
def ji:=@Nat.zero_lt_succ
def jf:=@List.not_mem_nil
def kF:=@Array.getElem?_eq_none
def jQ:=@List.find?_eq_none
def iy:=@Nat.sub_self
def jq:=@List.find?_cons
def hq:=@if_true
def iM:=@Prod.mk.injEq
def iO:=@Addr.mk.injEq
def jS:=@List.getElem_map
def jP:=@List.filter_cons
def jV:=@List.any_eq_true
def iL:=@Nat.le_of_eq
def lV:=@List.mem_of_mem_eraseIdx
def lP:=@Array.setIfInBounds_comm
def jt:=@Nat.add_assoc
def ju:=@Bool.or_false
def ki:=@World.size_setCell
def kH:=@List.set_cons_succ
def lh:=@Nat.add_sub_cancel_left
def lL:=@List.length_eq_zero_iff
def iV:=@Nat.add_mul
def i7:=@underlying26
def jn:=@Nat.zero_mul
def ib:=@if_false
def kj:=@Nat.lt_succ_self
def kE:=@List.zipIdx_cons
def mP:=@List.eq_nil_of_length_eq_zero
def lx:=@Region.noSelect_spec
def ly:=@Bool.or_eq_false_iff
def hV:=@Ne.symm
def kv:=@List.length_nil
def kg:=@List.foldl_cons
def kD:=@List.any_append
def kA:=@DataW.agg.injEq
def jM:=@Nat.add_zero
def lW:=@List.zipIdx_append
def lO:=@List.filter_append
def jp:=@bind_assoc
def lQ:=@wpList_append_own
def ll:=@List.size_toArray
def lz:=@Function.comp_def
def mw:=@List.getElem?_take_of_lt
def mx:=@List.getElem?_cons_zero
def lI:=@Region.free_spec
def lN:=@List.length_tail
def lS:=@List.drop_length
def lf:=@Bool.and_eq_true
def kQ:=@underlying42
def kk:=@List.map_set
def k9:=@wpList_load_row
def lE:=@Nat.not_lt_zero
def lM:=@Nat.min_eq_left
def k7:=@List.filter_nil
def lC:=@List.filter_map
def m1:=@ownsRow_setCell_other
def mN:=@List.set_append_right
def mX:=@Array.getElem?_toList
def lJ:=@wp_loop_rounds
def lc:=@List.take_take
def ld:=@List.find?_map
def lG:=@Bool.not_false
def kz:=@underlying9
def js:=@or_false
def mG:=@List.getD_cons_zero
def iW:=@wpS_seq
def k8:=@underlying231
def lX:=@underlying196
def lu:=@List.map_take
def lU:=@Bool.and_true
def m9:=@Nat.lt_of_le_of_lt
def mC:=@Nat.eq_zero_or_pos
def m3:=@Int.lt_of_lt_of_le
def kK:=@wpS_region
def kL:=@ready_mono
def km:=@beq_iff_eq
def kt:=@Calls.mono
def nc:=@decide_eq_true_eq
def ls:=@underlying77
def lK:=@underlying22
def jT:=@ntmps104
def jU:=@and_true
def n8:=@List.find?_eq_some_iff_getElem
def zalhj:=@Tryz.underlying4
def zalhk:=@Tryz.underlying3
def mU:=@Option.bind_some
def ky:=@mem_ready
def oH:=@List.take_append_of_le_length
def lv:=@rounds_succ
def lj:=@Nat.le_refl
def mD:=@Option.map_some
def mZ:=@List.nodup_cons
def mv:=@List.find?_some
def m4:=@Bool.or_eq_true
def jH:=@ntmps53
def jW:=@func104
def ou:=@List.fst_mem_of_mem_zipIdx
def mI:=@List.mem_range
def mB:=@IntWalk.i64_in
def mY:=@Bool.and_false
def kO:=@true_and
def ku:=@ntmps294
def kN:=@ntmps196
def oF:=@Option.isNone_iff_eq_none
def n6:=@List.getElem?_eq_none_iff
def oE:=@Classical.byContradiction
def mJ:=@underlying272
def mH:=@Bool.or_assoc
def mK:=@Bool.not_true
def mA:=@AllReady.cons
structure Kk (C:Prop):Prop where
 o:C
def Pq{a:Prop}(b:a):Kk a:=⟨b⟩
attribute [go_sem] results108 results109 results110 results111 results112 results113 results114 results115 results116 results117 results141 results143 results144 results145 results15 results196 results200 results201 results202 results215 results256 results257 results258 results259 results260 results261 results262 results263 results264 results265 results266 results27 results28 results29 results292 results293 results294 results295 results298 results30 results300 results301 results312 results320 results321 results322 results323 results340 results342 results36 results39 results53 results60 results68 results74 results75 results9
variable {P:Program}{cO:Func}{R:Ending->World->Prop}{I:Act}{w:World}{v:Value}
def YJ (cA:R (.returned v) w)(T:(results cO I.tmps).run P w=.ok v w:=by simp[results,go_sem,bA,bf,bi])(aQ:I.defers=[]:=by rfl):bodyPost P cO R .ret I w:=⟨aQ,v,T,cA⟩
def XE (cA:R (.returned v) w)(T:(results cO I.tmps).run P w=.ok v w:=by simp[results,go_sem,bf,bh,be,bi])(aQ:I.defers=[]:=by rfl):bodyPost P cO R .ret I w:=⟨aQ,v,T,cA⟩
def ng (cA:R (.returned v) w)(T:(results cO I.tmps).run P w=.ok v w:=by simp[results,go_sem,bA,bf,bi,vU])(aQ:I.defers=[]:=by rfl):bodyPost P cO R .ret I w:=⟨aQ,v,T,cA⟩
def Uj (cH:R (.returned v) w)(T:(results cO I.tmps).run P w=.ok v w:=by simp[results,go_sem])(aQ:I.defers=[]:=by rfl):bodyPost P cO R .ret I w:=⟨aQ,v,T,cH⟩
def nP (cH:R (.returned v) w)(T:(results cO I.tmps).run P w=.ok v w:=by simp[results,go_sem,z])(aQ:I.defers=[]:=by rfl):bodyPost P cO R .ret I w:=⟨aQ,v,T,cH⟩
def pO (cA:R (.returned v) w)(T:(results cO I.tmps).run P w=.ok v w:=by simp[results,go_sem,bf,bh,be,bi,vU])(aQ:I.defers=[]:=by rfl):bodyPost P cO R .ret I w:=⟨aQ,v,T,cA⟩
end
section
variable {G t:Prop}
def sl (i:t)(h:Kk t->G:=by
  intro aU;refine up 5 al 0 a ?_;refine up 6 al 0 a ?_;refine up 7 al 1 a ?_;exact aU.o
 ):G:=h ⟨i⟩
def rN (i:t)(h:Kk t->G:=by
  intro aU;refine kT ?_;refine uk 4 cj.out a ?_;refine up 5 bJ 0 a ?_;exact aU.o
 ):G:=h ⟨i⟩
def BD (h:G:=by
  rw[<-E] at T ⊢;obtain⟨r,B⟩:=xE ((((w.alloc (.cells #[Pm k] 62)).alloc (.cells #[Ph o,Ph n,PD q,.pointer c] 73)).alloc (.cells #[.slice bb a s] 311)).alloc (.cells #[Ph 0,Ph 0,QB] 65));have ba:PG w r:=by rw[B];exact((QK.alloc Qh _).alloc SC _).alloc SC _
  obtain⟨bq,bx⟩:=xE w.heap.size;obtain⟨e,bF⟩:=xE (w.heap.size+1);obtain⟨br,bE⟩:=xE (w.heap.size+1+1);obtain⟨N,al⟩:=xE (w.heap.size+1+1+1);have bP:r.heap[bq]?=some (Qb #[Pm k] 62):=by rw[B,bx];exact f8 (f8 (f8 (Pz _ _)))
  have bS:r.heap[e]?=some (Qb #[Ph o,Ph n,PD q,.pointer c] 73):=aJG
  have bQ:r.heap[br]?=some (Qb #[.slice bb a s] 311):=Lx
  have bD:r.heap[N]?=some (Qb #[Ph 0,Ph 0,QB] 65):=aJI
  have ck:w.heap.size<=N:=Pv;have cn:w.heap.size<=e:=Pv;have cY:e≠N:=Pv;have C:=D.fQ ba;exact(bv).o):G:=h
def Dh (h:G:=by
  have ad := @run_callFunc_extern prog 62 _ (λb => ReflectliteValue.unpack (b.getD 0 (.tuple #[]))) func62 Qz Qz Qz Qz; have ah := @run_callFunc_extern prog 63 _ (ReflectliteValue.methodAny (ReflectliteValue.valueError "reflectlite.Value.Type" 0) (λbz _ _ _ => ReflectliteType.toType bz)) func63 Qz Qz Qz Qz; have ak := @run_callFunc_extern prog 64 _ (ReflectliteValue.method (ReflectliteValue.valueError "reflectlite.Value.IsNil" 0) ReflectliteValue.isNil) func64 Qz Qz Qz Qz
  have al := @run_callFunc_extern prog 371 _ (ReflectliteType.abiMethod λbz => do pure (.int .u8 (<- Rtype.kind bz))) func371 Qz Qz Qz Qz; have ae := @run_callFunc_extern prog 385 _ (ReflectliteType.method ReflectliteType.elem) func385 Qz Qz Qz Qz; have af := @run_callFunc_extern prog 386 _ (ReflectliteType.relation "Implements" ReflectliteType.implements_) func386 Qz Qz Qz Qz; have ax := R9.Tl; have ap := R9.aBf; have au := R9.Wc; exact(p).o):G:=h
def Ka (h:G:=by
  rintro k aR ⟨⟨rfl,cB⟩,de⟩;have bU:PG b aR:=aK.trans (de.mono aK.size);have dt:=QV.fQ dp de;have U:aR.heap[w.heap.size+1]?=some (Qb #[Rz,PD false] 100):=by rw[bU.block _ Pv];exact Pj dE
  have bn:aR.cell? (Pn (w.heap.size+1) 0)=some Rz:=by rw[cell_of U];rfl
  have bo:aR.cell? (Pn (w.heap.size+1) 1)=some (PD false):=by rw[cell_of U];rfl
  have bm:=Rn U;have bi:=fR U;have el:=Y aK.size;refine d.out _ _ (λ_=>bU) ?_;clear d K;refine QX 20 λK d=>?_;go_simp;refine nz ?_;clear d K;refine qT ?_;exact(N).o):G:=h
def JG (h:G:=by
  have aW:=ak.lt;obtain⟨F,B,C⟩:=c;obtain⟨w2,cz⟩:=xH ((w.alloc (.cells #[Ph F,Ph B,PD C,.pointer n] 73)).alloc (.cells #[Ph 0,Ph 0,QB] 65));have aI:PG w w2:=by rw[cz.out];exact QK.alloc Qh _
  obtain⟨cJ,bx⟩:=xE w.heap.size;obtain⟨N,bq⟩:=xE (w.heap.size+1);have E:w2.heap[cJ]?=some (Qb #[Ph F,Ph B,PD C,.pointer n] 73):=by rw[cz.out,bx];exact f8 (Pz _ _)
  have a7:w2.heap[N]?=some (Qb #[Ph 0,Ph 0,QB] 65):=sE
  have bD:w.heap.size<=cJ:=Pv;have bb:w.heap.size<=N:=Pv;exact(dM).o):G:=h
def BH (h:G:=by
  have b2:PG w (w.alloc (.cells #[.pointer c,PD false] 100)):=QK;obtain⟨b,al⟩:∃b,b=w.alloc (.cells #[.pointer c,PD n] 100):=⟨_,rfl⟩;have o:Hid (PG w b):=by show Below _ _ _;rw[al];exact QK
  have ae:Hid (b.heap[w.heap.size]?=some (Qb #[.pointer c,PD n] 100)):=by show _=_;rw[al];exact Pz _ _
  have aX:=Y al;clear al;go_enter func39,ntmps39;go_wp2_with fail;refine aJJ ?_;rintro k cY ⟨rfl,bZ⟩;rw[bZ];clear bZ cY;go_wp2_with fail;rw[<-aX.out];exact(N).o):G:=h
def Hh (h:G:=by
  have bh:=Y (f7 L);have br:=fR L;clear L;go_enter func197,ntmps197;go_wp2_with fail;rw[<-F.out,<-H];clear H;refine UG 6 λa=>?_;refine iF ?_;refine aJK ?_;refine QX 6 λK d=>?_;go_simp;refine aJL ?_;rintro j E ⟨rfl,bb,aQ⟩;refine ko d ?_;clear d K;have aR:=(aH.fQ a).heap bb aQ;rw[<-aI.out] at aR;have s:Ms U k M z E aT:=⟨_,_,_,_,aR⟩;have ae:=(Qj.of (L:=none) a (Qe bi)).trans (Qj.j6 aQ);exact(C).o):G:=h
def Dx (h:G:=by
  have eK:=Pj el;have dJ:=Y ((aE (A.heap.size+1) Pv).trans cB);have dH:Hid (QV w.heap.size wz (.slice bf ay.length be) ay):=TS (Qw (a:=λO=>b.heap.size<=O) (λO ad _=>aE O (by have ah:b.heap.size<=O:=ad;omega)) (λO ad=>(Qm dt O ad).2) dt) Pv
  have dr:Hid (∀i,i<b.heap.size->i≠w.heap.size+1->wz.heap[i]?=b.heap[i]?):=λi ah aL=>(aE i aL).trans (bU.block i ah);exact(N).o):G:=h
def DI (h:G:=by
  have b2:PG w (w.alloc (.cells #[.pointer c,PD true] 100)):=QK;obtain⟨b,al⟩:∃b,b=w.alloc (.cells #[.pointer c,PD true] 100):=⟨_,rfl⟩;have o:Hid (PG w b):=by show Below _ _ _;rw[al];exact QK
  have ae:Hid (b.heap[w.heap.size]?=some (Qb #[.pointer c,PD true] 100)):=by show _=_;rw[al];exact Pz _ _
  have aX:=Y al;clear al;go_enter func39,ntmps39;go_wp2_with fail;rw[<-aX.out];exact(N).o):G:=h
def pf (h:G:=by
  have X:=h;have U:=Ap.refl m.R w.heap.size w;have p:=Y h.kP;exact(D).o):G:=h
def F9 (h:G:=by
  have ax:=Qj.of (L:=none) A (Qe aE);obtain⟨ec,d9,d8,ea,be⟩:=q;have aH:=be.fQ A;have bi:=aH.lt;have ak:=Y (λt (f:PG D t)=>uY (aH.fQ f).hh u.go.sm Pv c b v);obtain⟨aT,aI⟩:=xH ({ g with M:=(g.M.write c b v).2 }:St);have bf:Sz (ck+1) aT:=by rw[aI.out];exact u.heap (Nat.le_succ _) (u.go.write c b v) (Zn _ _ _ _)
  rw[<-aI.out];exact(C).o):G:=h
def yV (h:G:=by
  refine wh 4 (Qr m) X.drew ?_;refine Yd 5 λK b=>?_;go_simp;refine PJ ?_;rintro j z ⟨rfl,af⟩;have g:=X.drew.fQ af;have r:=U.next (Ap.of (RV.drew.trans af));refine IV ?_;clear b K;exact(D).o):G:=h
def Bu (h:G:=by
  have dg:q.heap[w.heap.size+1]?=some (Qb #[Rz,PD false] 100):=by rw[aH];exact cy
  have bS:=PV aY.drew cG;have cw:=PV aY.drew cz;have cr:=PV aY.drew df;have ei:=Y aH;have eh:=Y ax;have bX:=PV bh ba;have dG:=PV bh bD;have bW:=PV bh bb;have dF:q.cell? (Pn w.heap.size 0)=some (.pointer c):=by rw[cell_of aW];rfl
  exact(N).o):G:=h
def FU (h:G:=by
  obtain⟨aW,p⟩:=xH (w.alloc (.cells #[Ph a.k,Ph a.n,PI a.s] 65));have bK:e<aW.heap.size:=by rw[p.out];exact E
  rw[show w.alloc (vO a)=aW by rw[p.out]] at u n ad ak X a1 U aY r;clear D bO h a6 al a7 ae E;go_enter func128,ntmps128;go_wp2_with fail;refine Hy ?_;rintro f q ⟨rfl,bi⟩;rw[bi];clear bi;go_wp2_with fail;exact(bm).o):G:=h
def z8 (h:G:=by
  have db:Hid (aK.heap[N]?=some (Qb #[Ph 0,Ph 0,QB] 65)):=by show _=_;rw[bv,heap_setCell_other _ _ _ _ (Ne.symm bK)];exact Pj dX
  have dc:=dY.ia bQ (λO ad=>by rw[bv];exact heap_setCell_other _ _ _ _ (show O≠H by omega))
  have cG:Kp L aK:=λO m j ad s=>bQ.rest O m j ad (by rcases s with rfl|rfl <;> decide);exact(cx).o):G:=h
def Hu (h:G:=by
  have r:hK i g (w.alloc m7):=u.fQ QK;have l:=Y T;have al:=Y k;clear T k;go_enter func68,ntmps68;go_wp2_with fail;refine(Ik _).mono ?_;rintro aO ak ⟨x,rfl,⟨aU,aT,rfl,aM,M⟩,j⟩;have ap:=Y (M ak RV);clear M;go_wp2_with fail;refine KO ?_;rintro aR N ⟨rfl,rfl⟩;go_wp2_with fail;exact(O).o):G:=h
def vq (h:G:=by
  obtain⟨D,F⟩:=xH (w.alloc (.cells #[Ph v.k,Ph v.n,PI v.s] 65));obtain⟨al,H⟩:=xE w.heap.size;have A:PG w D:=by rw[F.out];exact QK
  exact(C).o):G:=h
def EN (h:G:=by
  refine b.out _ _ E (λ_=>?_);clear b K;refine Yd 5 λK b=>?_;go_simp;refine cm (ah.out _ E) ?_;rintro g q ⟨rfl,B⟩;obtain⟨D,C,s,z⟩:=azz r B;obtain⟨X,O,U,ae,ad,af⟩:=i8 z;have c:=D;have n:=C;have o:=Y s;have A:=Y z;clear s z;exact(u).o):G:=h
def CD (h:G:=by
  have b7:=bb.ZR D PK;have ad:=((b4.trans b5).ia D (VJ aO.out _ _ _ _)).trans (Qj.of (L:=aJ) e (Qe b7.lt));have S:=b7.fQ e;have aL:=(al.RP D PK).fQ e;have aM:=(b6.UJ D).fQ e;rw[<-a1] at bj ad S aL aM;obtain⟨bf,bh,be,bi,_,_⟩:=fV bj;exact(b8).o):G:=h
def tc (h:G:=by
  have s:Hid (b.cell? (Pn w.heap.size 1)=some (PD true)):=by show _=_;rw[cell_of ae.out];rfl
  exact(N).o):G:=h
def GX (h:G:=by
  unfold kC at c;go_wp2_with fail;refine cm c ?_;rintro j wt ⟨rfl,F⟩;have q:=N.next (Ap.of F);have p:=E.fQ F;have B:=(F.block n.heap.size Qh).trans ae.out;obtain⟨aW,aX,aO,aR,aY,aK⟩:=i8 B;have aQ:=p.c1;have aT:=p.fz;have aL:=p.kP;exact(D).o):G:=h
def H9 (h:G:=by
  have u:=Y m;clear m;go_enter func143,ntmps143;go_wp2_with fail;refine(wn _).mono ?_;rintro al M ⟨x,rfl,L,e⟩;obtain⟨z,k⟩:=nW e;have f:=e;go_wp2_with fail;have s:=Zr c a x RJ M (by unfold maxLen;omega) Pv L
  rw[u.out] at s;refine s.mono ?_;exact(r).o):G:=h
def tI (h:G:=by
  have D:a.count=1+Tr.f5 a.fS:=by cases a with|mk be r bb bf=>exact f9 _ _ _ _
  exact(bh).o):G:=h
def Dt (h:G:=by
  have r:6<w.heap.size:=(Array.getElem?_eq_some_iff.1 j).1;have A:=Y p;have B:=Y j;have X:=Y l;have ad:=Y m;clear j l p m;go_enter func141,ntmps141;go_wp2_with fail;refine(Wa _).mono ?_;rintro al D ⟨x,rfl,s,e⟩;obtain⟨z,k⟩:=nW e;exact(u).o):G:=h
def Bh (h:G:=by
  have O:=axL D r v;have A:=ZE (h.fQ s) ad X g l;rw[show c.has g l=true by simp[Mo.has,O]] at A;have aE:Hid (∀k,PG w k->_):=λk f=>ZY (h.fQ f) ad X g l;have j:=Y D;have I:=Y r;have q:=Y v;have N:=Y O;exact(L).o):G:=h
def un (h:G:=by
  refine wg 6 (.tuple #[.nilFunc,PD false]) rfl (Or.inl ⟨by kernel_rfl,λW k=>by have s:=ay.out W k;go_simp⟩) g ?_
  refine zld ?_;exact(D).o):G:=h
def y6 (h:G:=by
  have N:=O.alloc O.size (.cells #[QB,Ph 0,Ph 0,Ph 0] 275);have E:=M.alloc (.cells #[QB,Ph 0,Ph 0,Ph 0] 275);exact(D).o):G:=h
def JB (h:G:=by
  obtain⟨B,ce⟩:=xH (.mk 12 PE 0 [O]:Tr);rw[<-ce.out] at ad;have aY:Hid (B.fS.length=1):=by
   show _=_
   rw[ce.out];rfl
  obtain⟨g,u0,dS,aD,s⟩:=ad.opens;have bf:g=bm.heap.size+1:=by simpa[Pm] using aD.symm
  rw[bf] at s;exact(D).o):G:=h
def AM (h:G:=by
  have df:=dg.next d;obtain⟨b1,rfl,de⟩:=(EV.mono cM dg.size).nv;have c:=QO 12 PE (.slice (some (Pn bm.heap.size 0)) 1 1) (bm.alloc (.cells #[Pm b1] 22)) ⟨_,_,_,rfl⟩;go_wp2_with fail;refine cm c ?_;rintro j dT ⟨rfl,rfl⟩;exact(D).o):G:=h
def HA (h:G:=by
  rw[<-bQ.out] at bm;rw[<-cK] at ay bm;have dG:=Y (fV (fZ cn cZ.out));have dX:=fR (fZ cn cZ.out);have dC:al<df.heap.size:=by rw[a6.out];exact cB.cells.1
  have dU:=f1 ay;have dE:=Y aO;have dF:=Y ay;exact(dD).o):G:=h
def y3 (h:G:=by
  rw[ad.out] at c;simp only[sr,qZ,Option.isSome] at c;go_wp2_with fail;refine cm c ?_;rintro j n ⟨rfl,u⟩;exact(D).o):G:=h
def Bf (h:G:=by
  have e3:cL≠N:=Pv;have cH:H≠N:=Pv;have cG:H≠E:=Pv;have cQ:E=N+1:=Pv;have ay:H<E/\cL<E/\N<E/\w.heap.size<=E:=Pv;have bS:=ak.fQ bF;have eI:=Qj.of (L:=aJ) bF (Qe aW);exact(du).o):G:=h
def I8 (h:G:=by
  have f:b.frozen? (Pn a 0)=false:=by rw[d,World.frozen?_alloc_old _ _ _ SC,World.frozen?_alloc_old _ _ _ SC];exact r
  have v:b.heap.size=w.heap.size+2:=by rw[d];simp
  have m:PG w b:=by rw[d];exact QK.alloc Qh _
  exact(p).o):G:=h
def zF (h:G:=by
  have dJ:=q;have dg:=U.next d;have c:=SI bh bi cQ e bx _ rfl (by rw[H];nofun) dJ
  rw[H] at c;go_wp2_with fail;refine cm c ?_;intro j bm o;obtain⟨⟨dU,rfl,cM⟩,q,d⟩:=o;exact(D).o):G:=h
def DP (h:G:=by
  refine cm (Pj dW L eh) ?_;rintro j eK ⟨rfl,dT⟩;rw[dT];clear bx bq dT;obtain⟨bS,bY,bW,bU,a7,bX⟩:=fV b7.out;have dq:=a7 2;clear a7;go_wp2_with fail;have br:k<=H:=Pv;exact(cx).o):G:=h
def AC (h:G:=by
  refine rX ?_;clear b K;refine wg 6 (.tuple #[.agg #[PI x.tx,Ph x.kd,Ph x.parts,Ph x.str],PD true]) rfl (Or.inl ⟨by kernel_rfl,λW j=>by have ak:=aI.out W j;go_simp⟩) c ?_
  refine Jz ?_;exact(u).o):G:=h
def KA (h:G:=by
  simp only[Value.slice.injEq] at ax;obtain⟨rfl,dK,rfl⟩:=ax;clear dK;have dT:u<w.heap.size+1:=Pv;have dS:u<w.heap.size+1+1:=Pv;have dR:u<w.heap.size+1+1+1:=Pv;exact(bv).o):G:=h
def Ak (h:G:=by
  have b8:=fZ ae (l9 bI.out (Ph 0) (Ph 0) (QB));have b6:=ci.ZR aY PK;have aH:=(cL.ia aY (U6 a8.out _ _ _)).trans (Qj.of (L:=none) ae (Qe b6.lt));have aE:=b6.fQ ae;exact(dM).o):G:=h
def A4 (h:G:=by
  go_enter func267,ntmps267;go_wp2_with fail;refine cm A ?_;rintro d k ⟨rfl,f⟩;have e:=((Below.refl _ w).alloc Qq _).trans (f.mono Qh);obtain⟨bq,a8,E,F,T⟩:=aE.out k e;exact(L).o):G:=h
def GM (h:G:=by
  clear h;go_enter func347,ntmps347;go_wp2_with fail;refine oV ?_;refine DW ?_;refine wg 3 (.map (some m.mV)) rfl (Or.inl ⟨by kernel_rfl,λW k=>by have s:=QS.c5 k;go_simp⟩) X.drew ?_
  exact(D).o):G:=h
def zO (h:G:=by
  have ay:Hid (∀W:Py,QS m W l a->(Instr.lookup 231 (.map (some m.mV)) (PI (fx m.l l)) true).run prog W=.ok (.tuple #[.nilFunc,PD false]) W):=λW k=>EY
  exact(D).o):G:=h
def wU (h:G:=by
  have dx:=Rn aW;have eH:e≠w.heap.size:=Pv;have eG:L≠w.heap.size:=Pv;have dz:e<q.heap.size:=Pv;have dC:L<q.heap.size:=Pv;have du:w.heap.size<q.heap.size:=Pv;have cE:=Y bh;have dD:=Y cq;have bQ:=Y aW;have dv:=Y dg;exact(a).o):G:=h
def vN (h:G:=by
  have C:=q.alloc q.size (.cells #[Ph (Qn m.l l).kd,PI (Qn m.l l).tx,Ph (Qn m.l l).n,Ph ((Qn m.l l).pl:Int)] 144);have R:=p.alloc (.cells #[Ph (Qn m.l l).kd,PI (Qn m.l l).tx,Ph (Qn m.l l).n,Ph ((Qn m.l l).pl:Int)] 144);exact(f).o):G:=h
def oJ (h:G:=by
  have aX:=aQ.kp (Kp.of aI);have br:=ak.fQ aI;have bF:=Qj.of (L:=none) aI (Qe aW);exact(b).o):G:=h
def DO (h:G:=by
  have bI:g<ah.heap.size:=by rw[A] at a6;simpa using a6
  clear aO;go_wp2_with fail;rw[<-A];clear A bJ bK bL bx bI;exact(b).o):G:=h
def YA (h:G:=by
  have dM{G}(h:G:=by
  have bH:cJ≠N:=Pv;exact oJ):=Pq h;exact JG):G:=h
def xp (h:G:=by
  have dM{G}(h:G:=by
  have bH:cJ≠N:=Pv;exact(b).o):=Pq h;exact JG):G:=h
def jA (h:G:=by
  have aI:PG w w2:=by rw[cz.out];exact QK.alloc Qh _
  obtain⟨H,bx⟩:=xE w.heap.size;obtain⟨N,bq⟩:=xE (w.heap.size+1);have E:w2.heap[H]?=some (Qb #[Ph F,Ph B,PD C,.pointer n] 73):=by rw[cz.out,bx];exact f8 (Pz _ _)
  exact(b).o):G:=h
def j9 (h:G:=by
  have b8:w.heap.size<=H:=Pv;have bb:w.heap.size<=N:=Pv;have cg:H≠N:=Pv;exact oJ):G:=h
def tV (h:G:=by
  have dE:PG w L:=by rw[cz.out];exact QK.alloc Qh _
  obtain⟨H,bx⟩:=xE w.heap.size;obtain⟨N,bq⟩:=xE (w.heap.size+1);exact(b).o):G:=h
def oS (h:G:=by
  have cJ:w.heap.size<=H:=Pv;have bI:w.heap.size<=N:=Pv;have bK:H≠N:=Pv;exact(b).o):G:=h
def VQ (h:G:=by
  have bG:=Y a7;have a8:=Y bb;have bP:=br.lt;have fc:=fR E;have b5:=aX.cells.1;exact(b).o):G:=h
def pC (h:G:=by
  obtain⟨b8,b6,b7,b3,b5⟩:=info_parts io;have D{G}(h:G:=by
  clear h;go_enter func154,ntmps154;have c:=Qp m mM w l e X PK;rw[b2] at c;go_wp2_with fail;refine cm c ?_;intro j cQ o;obtain⟨⟨dR,rfl,rfl⟩,q,d⟩:=o;have D{G}(h:G:=by
  have dH:=q;have D{G}(h:G:=by
  obtain⟨ad,F,L⟩:=made dH df (P6.cons de P6.nil) (by simp[maxLen]) #[Pm b1] rfl 1 rfl 12 PE (bm.heap.size+1) rfl;have D{G}(h:G:=by
  exact(f).o):=Pq h;exact JB):=Pq h;exact AM):=Pq h;exact zF):=Pq h;exact pf):G:=h
def om (h:G:=by
  have bN:w.heap.size<=H:=Pv;have bG:w.heap.size<=N:=Pv;exact(b).o):G:=h
def sB (h:G:=by
  have D{G}(h:G:=by
  have D{G}(h:G:=by
  have D{G}(h:G:=by
  have c:=XJ m 0 z l a g;have D{G}(h:G:=by
  have O:=r.next (Ap.of u);have M:=g.fQ u;have D{G}(h:G:=by
  have L:(n.alloc (.cells #[QB,Ph 0,Ph 0,Ph 0] 275)).heap[n.heap.size]?=some (.cells #[QB,Ph 0,Ph 0,Ph 0] 275):=Pz _ _;have ae:=Y L;clear L;have c:=TD m (n.alloc (.cells #[QB,Ph 0,Ph 0,Ph 0] 275)) l a E;have D{G}(h:G:=by
  clear B;exact vN):=Pq h;exact GX):=Pq h;exact y6):=Pq h;exact y3):=Pq h;exact un):=Pq h;exact yV):=Pq h;exact GM):G:=h
def nq (h:G:=by
  have bP:=br.lt;have cS:=fR E;have bH:=aX.cells.1;exact(b).o):G:=h
def sW (h:G:=by
  obtain⟨F,ax⟩:∃F,F=(w.alloc (.cells #[.pointer c,PD false] 100)).alloc (.cells #[Rz,PD false] 100):=⟨_,rfl⟩;have aY:PG w F:=by rw[ax];exact QK.alloc Qh _
  have bP:F.heap.size=w.heap.size+2:=by rw[ax];simp
  have bN:F.heap[w.heap.size]?=some (Qb #[.pointer c,PD false] 100):=by
   rw[ax,Below.heap_alloc _ _ _ Qh];exact Pz _ _
  have cy:F.heap[w.heap.size+1]?=some (Qb #[Rz,PD false] 100):=WG
  obtain⟨q,aH⟩:∃q,q=F.drew:=⟨_,rfl⟩;have bh:PG w q:=by rw[aH];exact aY.drew
  have cq:q.heap.size=w.heap.size+2:=by rw[aH];exact bP
  have aW:q.heap[w.heap.size]?=some (Qb #[.pointer c,PD false] 100):=by rw[aH];exact bN
  have N{G}(h:G:=by
  have bR:q.cell? (Pn w.heap.size 1)=some (PD false):=by rw[cell_of aW];rfl
  exact wU):=Pq h;exact Bu):G:=h
def FV (h:G:=by
  refine L6 ?_;have b6:=Y bW;clear aW bW;have p:Fm (λO=>(u O\/(w.heap.size<=O/\O<g.heap.size))\/O=f) g C:=Fm.of bX;have bi:=fR R.out;have cn:Hid (∀t,Fm (λO=>(u O\/(w.heap.size<=O/\O<g.heap.size))\/O=f) g t->t.cell? (Pn f 0)=some (.map (some F))):=λt j=>by rw[j.cell (Or.inr rfl) (fR R.out),cell_of R.out];rfl
  have bD:Hid (∀t,Fm (λO=>(u O\/(w.heap.size<=O/\O<g.heap.size))\/O=f) g t->t.cell? (Pn f 1)=some (.slice ad z.length U)):=λt j=>by rw[j.cell (Or.inr rfl) (fR R.out),cell_of R.out];rfl
  have b5:Hid (∀t,Fm (λO=>(u O\/(w.heap.size<=O/\O<g.heap.size))\/O=f) g t->(Instr.lookup 80 (.map (some F)) (Pm e) false).run prog t=.ok (Ph (no:Int)) t):=λt j=>Pj cq t ((Fm.of a8.out).trans (j.less λO r=>Or.inl (Or.inl r)));refine uh 0 (QI f) p ?_;refine uh 1 (QI f) p ?_;refine uh 2 (QI f) p ?_;refine uh 3 (PZ f 1) p ?_;refine ug 4 (.slice ad z.length U) rfl (Or.inl ⟨by kernel_rfl,λt j=>by have aD:=Pj bD t j;go_simp⟩) p ?_
  refine uh 5 (QI f) p ?_;refine uh 6 (QI f) p ?_;refine uh 7 (PZ f 0) p ?_;refine ug 8 (.map (some F)) rfl (Or.inl ⟨by kernel_rfl,λt j=>by have aD:=Pj cn t j;go_simp⟩) p ?_
  refine uh 9 (Pm e) p ?_;refine ug 10 (Ph (no:Int)) rfl (Or.inl ⟨by kernel_rfl,λt j=>by have aD:=Pj b5 t j;go_simp⟩) p ?_
  refine uh 11 (Ph A) p ?_;refine uh 12 (PD B) p ?_;refine uh 13 (.agg #[Ph (no:Int),Ph A,PD B]) p ?_;refine QX 14 λK d=>?_;go_simp;have M:PG g (C.alloc (.cells #[Ph (no:Int),Ph A,PD B] 52)):=bX.alloc (by have:=Pj b6;omega) _
  refine d.out _ _ (λ_=>Fm.of M) ?_;clear d K;refine QX 15 λK d=>?_;have bz:(C.alloc (.cells #[Ph (no:Int),Ph A,PD B] 52)).ownsRow 0 52 3 (.slice ad z.length U) z.length (Tc z):=Qw (a:=λ_=>True) (λO _ a6=>M.block O a6) (λ_ _=>trivial) cQ.out
  refine step_append_lies _ rfl _ _ 49 rfl 0 52 ck (.agg #[Ph 0,Ph 0,PD false]) 3 24 underlying49 cg ci b8 ce rfl PK _ _ _ rfl bz (Pn C.heap.size 0) 1 1 (jz ((no:Int),A,B)) rfl rfl (Z3 C no A B 52 _ rfl) (azD _) PK (by unfold maxLen;omega) Pv (Nat.zero_le _) (C.heap.size+1) Qh ?_
  intro cj cap4 aE hown4 L bA _;obtain⟨af,bb⟩:∃af,af=C.alloc (.cells #[Ph (no:Int),Ph A,PD B] 52):=⟨_,rfl⟩;rw[<-bb] at M bz L;have cR:af.heap.size=C.heap.size+1:=by rw[bb];simp
  have aJ:TW (λO=>u O\/(w.heap.size<=O/\O<g.heap.size)) f F aK z af:=cP.out.fQ M;have aR:af.heap[f]?=some (Qb #[.map (some F),.slice ad z.length U] 96):=by rw[M.block f bi];exact Pj R
  have hP:=aJ.push (u:=((no:Int),A,B)) aR rfl (by rw[Cy];exact hown4) L (bA.imp id λk=>by omega)
  have bE:∀O,(u O\/(w.heap.size<=O/\O<g.heap.size))\/O=f->O<af.heap.size/\(Value.slice ad z.length U).ownBlock≠some O:=aJy
  have X:Fm (λO=>(u O\/(w.heap.size<=O/\O<g.heap.size))\/O=f) g aE:=(Fm.of M).trans ⟨L.os,L.tape,L.output,L.size,λO r a6=>L.block O a6 (λk=>(bE O r).2 k.symm)⟩;have cU:=Pj bD aE X;have be:aE.heap[f]?=some (Qb #[.map (some F),.slice ad z.length U] 96):=(X.ht f (Or.inr rfl) bi).trans R.out;have cT:=Rn be;have cV:=fR be;refine ty ?_;clear d K bA;refine uh 16 (QI f) X ?_;refine uh 17 (PZ f 1) X ?_;refine QX 18 λK d=>?_;go_simp;refine nz ?_;clear d K
  refine oB Qz ?_ _;obtain⟨E,bf⟩:∃E,E=aE.setCell (Pn f 1) (.slice (some (Pn cj 0)) (z.length+1) cap4):=⟨_,rfl⟩;rw[<-bf] at hP;obtain⟨b7,cp⟩:=hP;have ay:Fm (λO=>u O\/(w.heap.size<=O/\O<g.heap.size)) g E:=(Fm.of M).trans (cp.less λO r=>⟨(bE O (Or.inl r)).1,(aJ.ne O r).2,(bE O (Or.inl r)).2⟩);have cL:=Y (b7.less bU.out (λO r=>Or.inl r));have cO:Hid (Fm u w E):=(Fm.of a8.out).trans (ay.less λO r=>Or.inl r);have aQ:=aO.out.2
  have D:Hid (E.cell? (Pn w.heap.size 0)=some (.pointer c)):=(ay.cell (Or.inr aO.out) aQ).trans (Pj cK);exact(a).o):G:=h
def j2 (h:G:=by
  obtain⟨n,bQ⟩:=xH (LA aJ);rw[<-bQ.out];have aW:=ak.lt;obtain⟨F,B,C⟩:=o;obtain⟨w2,cz⟩:=xH ((w.alloc (.cells #[Ph F,Ph B,PD C,.pointer n] 73)).alloc (.cells #[PD false,Ph 0,Ph 0,QB] 67));exact(b).o):G:=h
def xy (h:G:=by
  have dZ:=X9;have aW:=D.lt;obtain⟨o,n,q⟩:=b;obtain⟨bb,s,ax⟩:=T.form;subst ax;obtain⟨a,E⟩:=xE (List.length (v::aY));have bv{G}(h:G:=by
  have cQ:=Y bD;have cR:=Qj.of (L:=none) ba (Qe aW);have dX:Ms U k M z r g:=⟨_,_,_,_,C⟩;have dN:=Y B;have a8:=Y ck;have dQ:=Y bx;have dM:=Y bF;have dP:=Y bE;have dO:=Y al;obtain⟨b2,cX⟩:=xE m.p;have d0:a≠0:=by rw[E];simp
  have d1:¬ (a:Int)=0:=Pv;have d2:(0:Int)<(a:Int):=Pv;have b6:=T.fQ ba;obtain⟨u,bI,dY,ax,dF,b5,cP,cT⟩:=T.cells (i:=0) rfl;rw[Nat.zero_mul,Nat.add_zero] at b5 cP cT;rw[af] at b5;have bv{G}(h:G:=by
  obtain⟨cS,aR,bH,_⟩:=b1.cells;rw[<-cX] at cS aR bH ⊢;have dH:b2<w.heap.size+1:=Pv;have dE:b2<w.heap.size+1+1:=Pv;have dG:b2<w.heap.size+1+1+1:=Pv;exact(aI).o):=Pq h;exact KA):=Pq h;exact BD):G:=h
def Dj (h:G:=by
  have bv{G}(h:G:=by
  exact(A).o):=Pq h;exact BD):G:=h
def sx (h:G:=by
  have aE:=q.lt;have C{G}(h:G:=by
  have L:D.heap[al]?=some (ZT v):=by rw[F.out,H];exact Pz _ _
  have C{G}(h:G:=by
  rw[N] at ak;clear N;have C{G}(h:G:=by
  have aJ:=ax.trans ae;have aK:=s.lt;exact(n).o):=Pq h;exact Hh):=Pq h;exact F9):=Pq h;exact vq):G:=h
def rV (h:G:=by
  have bY:Hid (b.cell? (Pn f 0)=some (.map (some r))):=PV o.out aX.out;have br:=Pj dq;refine cm (Pj bA _ o.out) ?_;rintro k ak ⟨⟨u3,rfl,c8⟩,cX⟩;obtain⟨bS,cG,rfl⟩:=P7 c8;have cY:=Y c8;have d7:=Y cX;have da:=cX.size
  go_wp2_with (at_builtin;refine wpList_append_lies _ rfl _ _ 26 rfl b.heap.size 9 dm (PI ByteArray.empty) 1 16 underlying26 dj dl dh di rfl PK _ _ _ rfl (cY.out.alloc _) (Pn ak.heap.size 0) 1 1 [PI RG] rfl rfl (Xv ak RG _ rfl) (o7 RG) PK (by unfold maxLen;omega) Pv SC (ak.heap.size+1) Qh ?_)
  intro cx cap4 p hown4 d9 _ _;have d8:Hid (QV b.heap.size p (.slice (some (Pn cx 0)) (P.length+1) cap4) a8):=aJU
  have ea:Hid (PG b p):=d7.out.trans (((Below.refl b.heap.size ak).alloc da _).grown d9 SC (λO ad=>(Qm cY.out O ad).2));clear da;go_wp2_with fail;have g:PG b p.drew:=ea.out.drew;have aT:QV b.heap.size p.drew (.slice (some (Pn cx 0)) (P.length+1) cap4) a8:=Pj d8;obtain⟨cU,cZ⟩:∃cU,cU=p.drew:=⟨_,rfl⟩;refine Qd 20 (λt=>PG b t) Qz ?_;rw[<-cZ] at g aT ⊢;clear cZ;exact(a).o):G:=h
def nU (h:G:=by
  have bh{G}(h:G:=by
  have M:a.fS.length<=20000:=by have:=Tn a.fS;omega
  obtain⟨n,o⟩:=xE (w.alloc (.cells #[PD b,PD l,PD c] 112));have s:PG w n:=by rw[o];exact QK
  have k:YX w.heap.size b l c n:=by rw[o];exact YX.new _ _ _ _
  have L:=h.fQ s;obtain⟨aQ,ap,C,aR,R,T⟩:=h.cells;rw[j] at ap;exact(q).o):=Pq h;exact tI):G:=h
def pG (h:G:=by
  clear cT bz a1 a6 cn aY bP bN cy bh cq aW dg ba cG cz df bb ax aH bD aQ;go_enter func80,ntmps80;go_wp2_with fail;refine zlf ?_;refine wh 3 (.slice (some (Pn bK 0)) bB cS) rfl ?_ (aZ:=Or.inl ⟨by kernel_rfl,λt j=>by cases j;go_simp⟩)
  refine wh 4 (PZ bK 0) rfl ?_;refine wh 5 (Pm L) rfl ?_ (aZ:=Or.inl ⟨by kernel_rfl,λt j=>by cases j;go_simp⟩)
  refine Nr ?_;refine wh 9 (.slice (some (Pn bK 0)) bB cS) rfl ?_ (aZ:=Or.inl ⟨by kernel_rfl,λt j=>by cases j;go_simp⟩)
  refine wh 10 (PZ bK 1) rfl ?_;refine wh 11 (Pm R) rfl ?_ (aZ:=Or.inl ⟨by kernel_rfl,λt j=>by cases j;go_simp⟩)
  refine M9 ?_;exact(a).o):G:=h
def mQ (h:G:=by
  obtain⟨c,B,C⟩:=q;obtain⟨w2,a1⟩:=xH (w.alloc (.cells #[Ph c,Ph B,PD C,.pointer n] 73));have aI:PG w w2:=by rw[a1.out];exact QK
  obtain⟨H,aO⟩:=xE w.heap.size;have E:w2.heap[H]?=some (Qb #[Ph c,Ph B,PD C,.pointer n] 73):=by rw[a1.out,aO];exact Pz _ _
  exact(b).o):G:=h
def rp (h:G:=by
  have N{G}(h:G:=by
  have ba:b.heap.size=w.heap.size+1:=by rw[aX.out];simp
  have D:Hid (b.cell? (Pn w.heap.size 0)=some (.pointer c)):=by show _=_;rw[cell_of ae.out];rfl
  have s:Hid (b.cell? (Pn w.heap.size 1)=some (PD n)):=by show _=_;rw[cell_of ae.out];rfl
  exact(a).o):=Pq h;exact BH):G:=h
def Y4 (h:G:=by
  rw[T] at c e;simp only[gj] at e;clear T;go_wp2_with fail;refine cm c ?_;exact(f).o):G:=h
def Fz (h:G:=by
  have N{G}(h:G:=by
  exact(a).o):=Pq h;exact BH):G:=h
def pT (h:G:=by
  have C:=Y aQ;clear aQ;have O{G}(h:G:=by
  refine(wn _).mono ?_;rintro aI ae ⟨aL,rfl,⟨aJ,aH,rfl,aE,L⟩,af⟩;have ah:=Y (L ae RV);have m:=j.trans (af.mono j.size);clear L;go_wp2_with fail;refine Mu ?_;rintro aK n ⟨rfl,rfl⟩;go_wp2_with fail;exact(o).o):=Pq h;exact Hu):G:=h
def p8 (h:G:=by
  obtain⟨dm,dj,dl,dh,di⟩:=info_parts iQ;obtain⟨a8,bI⟩:∃a8,a8=P++[RG]:=⟨_,rfl⟩;rw[<-bI];obtain⟨ay,cj⟩:∃ay,ay=a8++z:=⟨_,rfl⟩;rw[<-cj];have cR:a8.length=P.length+1:=by rw[bI];simp
  have ek:=Y bI;have ej:=Y cj;have cC:=Y cR;clear bI cj cR;obtain⟨ba,bD,⟨bK,bB,cS,d6,cG,cz,df⟩,aQ,cT,bz,⟨ep,uc,bb,a1⟩,a6,cn,eo,eD⟩:=h;have eu:=f1 ba;have ew:=f1 cz;have eE:=f1 aQ;have ef:=f1 bb;have eF:¬ bB=0:=Pv;have ey:¬ (bB:Int)<=1:=Pv;clear d6;have cH:=Y cT;exact(a).o):G:=h
def wL (h:G:=by
  have p{G}(h:G:=by
  have O:=R9.L5;have L:=R9.ON;have R:=R9.MO;have S:=R9.P1;have I:=R9.O4;have P:=R9.Vn;have D:0<w.heap.size:=CO
  obtain⟨b,d⟩:=xE ((w.alloc (.cells #[PZ a 0] 123)).alloc (.cells #[PZ 13 123,PZ w.heap.size 0,.int .u64 150] 130));have T:((w.alloc (.cells #[PZ a 0] 123)).alloc (.cells #[PZ 13 123,PZ w.heap.size 0,.int .u64 150] 130)).cell? (Pn 0 0)=some (.iface 215 (.agg #[PZ 13 31])):=Du
  have j:b.cell? (Pn w.heap.size 0)=some (PZ a 0):=EG
  exact(e).o):=Pq h;exact Dh):G:=h
def nI (h:G:=by
  have bh{G}(h:G:=by
  have bQ:a.fS.length<=20000:=by have:=Tn a.fS;omega
  exact(b).o):=Pq h;exact tI):G:=h
def qH (h:G:=by
  have N{G}(h:G:=by
  have ba:b.heap.size=w.heap.size+1:=by rw[aX.out];simp
  have D:Hid (b.cell? (Pn w.heap.size 0)=some (.pointer c)):=by show _=_;rw[cell_of ae.out];rfl
  have N{G}(h:G:=by
  exact(a).o):=Pq h;exact tc):=Pq h;exact DI):G:=h
def s8 (h:G:=by
  have aW:=ak.lt;obtain⟨B,C,F⟩:=D;obtain⟨n,⟨o,on,s⟩⟩:=aM;obtain⟨w2,aI⟩:=xE ((((w.alloc (.cells #[Ph B,Ph C,PD F,.pointer a7] 73)).alloc (.cells #[PD n,Ph o,Ph on,PI s] 67)).alloc (.cells #[PD false,Ph 0,Ph 0,QB] 67)).alloc (.cells #[Rz] 122));have bF:PG w w2:=by rw[aI];exact((QK.alloc Qh _).alloc SC _).alloc SC _
  obtain⟨H,bU⟩:=xE w.heap.size;obtain⟨cL,bX⟩:=xE (w.heap.size+1);obtain⟨N,bx⟩:=xE (w.heap.size+2);obtain⟨E,cJ⟩:=xE (w.heap.size+3);have cE:w2.heap[H]?=some (Qb #[Ph B,Ph C,PD F,.pointer a7] 73):=by rw[aI,bU];exact f8 (f8 (f8 (Pz _ _)))
  have cK:w2.heap[cL]?=some (Qb #[PD n,Ph o,Ph on,PI s] 67):=aJX
  have bW:w2.heap[N]?=some (Qb #[PD false,Ph 0,Ph 0,QB] 67):=aJY
  have bI:w2.heap[E]?=some (Qb #[Rz] 122):=aJZ
  exact(b).o):G:=h
def vE (h:G:=by
  have n:=s;have db:=F;have dc:=L;clear aD;obtain⟨dD,be⟩:=xE ((bm.alloc (.cells #[Pm b1] 22)).alloc (Qu 12 PE 0 (.slice (some (Pn bm.heap.size 0)) 1 1)));rw[<-be] at n db dc;rw[<-bf] at n;refine sn ?_;clear be bf;have c:=Ua m V4 dD z e db cO PK;go_wp2_with fail;refine cm c ?_;rintro j a ⟨rfl,q,d⟩;have a6:=q;have a1:=dc.next d;replace n:=Open.fQ n (d) p.out;have c:=Qp m TT a (z+1) e a6 PK;rw[aL] at c;go_wp2_with fail;refine cm c ?_;intro j r o
  obtain⟨⟨dN,rfl,rfl⟩,q,d⟩:=o;have a8:=q;have ap:=a1.next d;replace n:=Open.fQ n (d) p.out;have c:=gS m r i2 e a8;rw[cP] at c;go_wp2_with fail;refine cm c ?_;intro j dE o;obtain⟨⟨dO,rfl,rfl⟩,q,d⟩:=o;have dz:=q;have dF:=ap.next d;replace n:=Open.fQ n (d) p.out;have c:=Qp m U1 dE bz e dz PK;rw[cL] at c;go_wp2_with fail;refine cm c ?_;intro j E o;obtain⟨⟨dP,rfl,rfl⟩,q,d⟩:=o;have dC:=q;have bF:=dF.next d
  replace n:=Open.fQ n (d) p.out;have cK:=SI bh bi E.drew e bA _ rfl (by rw[ck];nofun) dC.drew
  rw[ck] at cK;obtain⟨bE,cj,cV⟩:=n.cell;obtain⟨ci,uc,a7⟩:=n.shape;subst a7;go_wp2_with fail;exact(f).o):G:=h
def ny (h:G:=by
  refine Bz ?_;refine ug 4 (.map (some r)) rfl (Or.inl ⟨by kernel_rfl,λt j=>by have aD:=PV j bY.out;go_simp⟩) g ?_
  refine FF ?_;refine ug 6 (Ph (no:Int)) rfl (Or.inl ⟨by kernel_rfl,λt j=>by have aD:=Pj cH t (o.out.trans (j.mono o.out.size));go_simp⟩) g ?_
  exact(a).o):G:=h
def Fi (h:G:=by
  have N{G}(h:G:=by
  exact(a).o):=Pq h;exact DI):G:=h
def q8 (h:G:=by
  obtain⟨bP,bQ,b0,bN,aX⟩:=h.c;have r:PG w (w.alloc (vO a)):=QK;have ak:=h.fQ r;obtain⟨e,bE,v,al,bD,a6,D,bF,E,bL,ae,_⟩:=ak.ro.at_ (i:=l) (e:=x.h) (by simp[bO]);have u:=pK e bE _ l bD (w.alloc (vO a));rw[<-al] at u;have X:(w.alloc (vO a)).ownsRow H 262 6 v x.cs.length (x.cs.flatMap Ce.h):=bF;have n:=w7 e (l * 3) v x.cs H g (w.alloc (vO a)) (D 2 v rfl) X (by have:=au.cs x (List.mem_of_getElem? bO);omega)
  have a7:=au.cs x (List.mem_of_getElem? bO);have ad:(w.alloc (vO a)).cell? (Pn e (l * 3+1))=some (Ph x.gf):=D 1 _ rfl;exact(b).o):G:=h
def rH (h:G:=by
  obtain⟨a7,bW⟩:=xE (LA aJ);rw[<-bW];have aW:=ak.lt;obtain⟨B,C,F⟩:=A;obtain⟨n,⟨o,on,s⟩⟩:=aM;obtain⟨w2,aI⟩:=xE (((w.alloc (.cells #[Ph B,Ph C,PD F,.pointer a7] 73)).alloc (.cells #[PD n,Ph o,Ph on,PI s] 67)).alloc (.cells #[PD false,Ph 0,Ph 0,QB] 67));have bq:PG w w2:=by rw[aI];exact(QK.alloc Qh _).alloc SC _
  obtain⟨H,bR⟩:=xE w.heap.size;obtain⟨b8,bX⟩:=xE (w.heap.size+1);obtain⟨N,bx⟩:=xE (w.heap.size+2);have E:w2.heap[H]?=some (Qb #[Ph B,Ph C,PD F,.pointer a7] 73):=by rw[aI,bR];exact f8 (f8 (Pz _ _))
  have cn:w2.heap[b8]?=some (Qb #[PD n,Ph o,Ph on,PI s] 67):=NO
  have cg:w2.heap[N]?=some (Qb #[PD false,Ph 0,Ph 0,QB] 67):=aJ1
  exact(b).o):G:=h
def FX (h:G:=by
  have C{G}(h:G:=by
  exact(n).o):=Pq h;exact Hh):G:=h
def Gw (h:G:=by
  have O{G}(h:G:=by
  exact(C).o):=Pq h;exact Hu):G:=h
def XQ (h:G:=by
  have bo:=q3 r br l;rw[if_neg Pv] at bo;obtain⟨bI,s⟩:=xH I.p;rw[<-s.out] at b5 ⊢;exact(b).o):G:=h
def Jf (h:G:=by
  refine uh 14 (PD true) af ?_;refine uh 15 (Pm R) af ?_;refine QX 16 λK d=>?_;go_simp;refine cm (Pj cJ _ (o.out.trans (af.mono o.out.size))) ?_;rintro k A ⟨rfl,ck⟩;have aK:PG b A:=af.trans (ck.mono af.size);have dp:=QV.fQ cA ck;refine d.out _ _ (λ_=>aK) ?_;clear d K;refine uh 17 (PD ap) aK ?_;refine uh 18 (.agg #[Ph (no:Int),.slice bf ay.length be,PD ap,Rz]) aK ?_;refine QX 19 λK d=>?_;go_simp;refine cm (WW _ false no bf ay.length be ap none A) ?_;have N{G}(h:G:=by
  obtain⟨wz,aI⟩:∃wz,wz=(aR.setCell (Pn (w.heap.size+1) 0) (QI (A.heap.size+1))).setCell (Pn (w.heap.size+1) 1) (PD false):=⟨_,rfl⟩;rw[<-aI];have aE:∀i,i≠w.heap.size+1->wz.heap[i]?=aR.heap[i]?:=λi aJ=>by rw[aI,V3 aJ,V3 aJ]
  have bJ:wz.heap[w.heap.size+1]?=some (Qb #[QI (A.heap.size+1),PD false] 100):=by rw[aI,gb (gb U _)];rfl
  have dO:wz.cell? (Pn (w.heap.size+1) 0)=some (QI (A.heap.size+1)):=by rw[cell_of bJ];rfl
  have dM:wz.cell? (Pn (w.heap.size+1) 1)=some (PD false):=by rw[cell_of bJ];rfl
  have N{G}(h:G:=by
  have dN:Hid (PG w wz):=zG
  clear aI aE bJ cB U bn bo bm bi;go_wp2_with fail;exact(a).o):=Pq h;exact Dx):=Pq h;exact Ka):G:=h
def xA (h:G:=by
  rw[af] at ad;rw[ah,ZC] at n;clear ah;have bm{G}(h:G:=by
  refine cm n ?_;rintro f k ⟨rfl,s⟩;have bB:Below (w.heap.size+1) (w.alloc (.cells #[Ph a.k,Ph a.n,PI a.s] 65)) k:=by rw[<-p.out];exact s.mono (by rw[p.out];simp)
  obtain⟨aI,aD,aE,aJ,bJ⟩:=ZP bB;have ay:=r.trans (s.mono r.size);have L:=ak.fQ s;have aK:=Qs X s;have aH:e<k.heap.size:=Nat.lt_of_lt_of_le U.out s.size;have F:k.cell? (Pn e (l * 3+2))=some v:=(gD s (a:=(Pn e (l * 3+2))) U.out).trans a1.out;have M:k.frozen? (Pn e (l * 3+2))=false:=(World.frozen?_of_block (w:=aW) (a:=(Pn e (l * 3+2))) (s.block e U.out)).trans (aY.out _);clear ad;go_wp2_with fail;refine pA ?_;refine aJ3 ?_;exact(b).o):=Pq h;exact FU):G:=h
def A2 (h:G:=by
  refine XX ?_;obtain⟨A,bJ⟩:∃A,A=cp:=⟨_,rfl⟩;have aK:PG b A:=by rw[bJ];exact af
  have dp:QV b.heap.size A (.slice bf ay.length be) ay:=by rw[bJ];exact cA
  rw[<-bJ];clear bJ;refine uh 17 (PD false) aK ?_;refine uh 18 (.agg #[Ph (no:Int),.slice bf ay.length be,PD false,Rz]) aK ?_;refine QX 19 λK d=>?_;go_simp;refine cm (WW _ true no bf ay.length be false none A) ?_;have N{G}(h:G:=by
  obtain⟨wz,aI⟩:∃wz,wz=(aR.setCell (Pn (w.heap.size+1) 0) (QI (A.heap.size+1))).setCell (Pn (w.heap.size+1) 1) (PD true):=⟨_,rfl⟩;rw[<-aI];have aE:∀i,i≠w.heap.size+1->wz.heap[i]?=aR.heap[i]?:=λi aJ=>by rw[aI,V3 aJ,V3 aJ]
  have ck:wz.heap[w.heap.size+1]?=some (Qb #[QI (A.heap.size+1),PD true] 100):=by rw[aI,gb (gb U _)];rfl
  have dN:wz.cell? (Pn (w.heap.size+1) 0)=some (QI (A.heap.size+1)):=by rw[cell_of ck];rfl
  have cJ:wz.cell? (Pn (w.heap.size+1) 1)=some (PD true):=by rw[cell_of ck];rfl
  have N{G}(h:G:=by
  have dM:Hid (PG w wz):=zG
  clear aI aE ck cB U bn bo bm bi;go_wp2_with fail;exact(a).o):=Pq h;exact Dx):=Pq h;exact Ka):G:=h
def ts (h:G:=by
  refine QX 9 λK d=>?_;go_simp;refine DS ?_;rintro k ec ⟨⟨u6,rfl,dd⟩,dc⟩;obtain⟨eI,eJ,rfl⟩:=P7 dd;have bL:PG b ec:=g.trans (dc.mono g.size);have db:=QV.fQ aT dc;refine d.out _ _ (λ_=>bL) ?_;clear d K;refine QX 10 λK d=>?_;refine Nq rfl _ _ 26 rfl b.heap.size _ 9 dm (PI ByteArray.empty) 16 underlying26 dj dl dh di rfl _ _ _ rfl db _ _ _ rfl dd (xV z) (by have:=Pj cC;unfold maxLen;omega) (by have:=Pj cC;omega) bL.size ?_
  intro ee cp eg ed;have cA:QV b.heap.size cp ee ay:=NG
  have af:PG b cp:=bL.grown ed bL.size (λi aJ=>(Qm db i aJ).2);obtain⟨bf,be,rfl⟩:=P7 cA;refine xD ?_;exact(a).o):G:=h
def HV (h:G:=by
  have C{G}(h:G:=by
  exact(n).o):=Pq h;exact F9):G:=h
def si (h:G:=by
  have A := @run_callFunc_extern prog 135 _ ReflectliteType.typeOf func135 Qz Qz Qz Qz; have v := @run_callFunc_extern prog 383 _ (ReflectliteType.relation "AssignableTo" ReflectliteType.assignableTo) func383 Qz Qz Qz Qz; have D := @run_callFunc_extern prog 136 _ (ReflectliteValue.method (ReflectliteValue.valueError "reflectlite.Value.Elem" 0) ReflectliteValue.elem) func136 Qz Qz Qz Qz; have B := @run_callFunc_extern prog 137 _ ReflectliteValue.set func137 Qz Qz Qz Qz
  have u:=@run_callFunc_extern prog 62 _ (λo=>ReflectliteValue.unpack (o.getD 0 (.tuple #[]))) func62 Qz Qz Qz Qz;have C:=R9.atb;exact(d).o):G:=h
def Ev (h:G:=by
  have N{G}(h:G:=by
  exact(a).o):=Pq h;exact Bu):G:=h
def Vt (h:G:=by
  simp only[Value.slice.injEq] at s;obtain⟨rfl,_,rfl⟩:=s;exact(b).o):G:=h
def zy (h:G:=by
  have bh:Hid (b.cell? (Pn e 3)=some (.slice ak ax ap)):=PV o.out cE.out;have cr:Hid (b.cell? (Pn e 1)=some (PI aI)):=PV o.out cG.out;obtain⟨g,aH⟩:∃g,g=b.drew:=⟨_,rfl⟩;have p:PG b g:=by rw[aH];exact RV.drew
  have bN:g.heap.size=b.heap.size:=by rw[aH];rfl
  refine wp_region_held (S:=λt=>t=g) Qz ?_;refine l6 ?_;rw[<-aH];have cz:=Y bN;have bF:=PV p D.out;have bI:=PV p cr.out;have cw:=f1 bF;have cy:=f1 bI;clear aH bN;refine wh 0 (PZ w.heap.size 0) rfl ?_;refine wh 1 (.pointer c) rfl ?_ (aZ:=Or.inl ⟨by kernel_rfl,λt j=>by cases j;go_simp⟩)
  refine wh 2 (Pm e) rfl ?_;refine wh 3 (Pm e) rfl ?_;refine wh 4 (PZ e 1) rfl ?_;refine wh 5 (PI aI) rfl ?_ (aZ:=Or.inl ⟨by kernel_rfl,λt j=>by cases j;go_simp⟩)
  refine Yd 6 λK d=>?_;go_simp;refine cm (Pj cC _ (o.out.trans (p.mono o.out.size))) ?_;rintro k cx ⟨rfl,bL⟩;rw[bL];refine d.out _ _ rfl (λ_=>?_);clear d K bL cx;refine aJ6 ?_;clear bF bI cw cy;go_simp;go_wp2_with fail;have a8:=Y (o.out.trans (p.mono o.out.size));have bJ:TW (λO=>u O\/(w.heap.size<=O/\O<g.heap.size)) f F aK z g:=bU.out.more a8.out;have bG:w.heap.size<=w.heap.size/\w.heap.size<g.heap.size:=⟨Qq,by have:=Pj cz;omega⟩
  obtain⟨v,bH,bK,_,bP⟩:=bJ.gG;have cK:=Y (PV p D.out);have bQ:=Y (PV p s.out);have cS:=Y (PV p bh.out);have R:=Y bH;have cQ:=Y bK;have cX:=Y bP;have cP:=Y bJ;have aO:=Y bG;obtain⟨ad,U,rfl⟩:=P7 bK;clear bG bH bP ba;obtain⟨C,aW⟩:∃C,C=g.drew:=⟨_,rfl⟩;have bX:PG g C:=by rw[aW];exact RV.drew
  have bW:C.heap.size=g.heap.size:=by rw[aW];rfl
  exact(a).o):G:=h
def zY (h:G:=by
  have D{G}(h:G:=by
  have D{G}(h:G:=by
  exact(f).o):=Pq h;exact un):=Pq h;exact yV):G:=h
def n1 (h:G:=by
  obtain⟨bX,D⟩:=xH I.p;rw[<-D.out] at b5 ⊢;have aT:=Y e;exact(b).o):G:=h
def pD (h:G:=by
  obtain⟨b2,dG,dE,aT,aO,b1,_⟩:=aQ.Zm (a:=0) Pv;rw[af] at aT;have bn:=b1.kp (Kp.of aI);obtain⟨dH,bo⟩:=xH I.p;obtain⟨A,D⟩:=xE b2.p;have bJ:=aQ.cells.1;have bK:=b1.cells.1;have bE:=bn.cells.1;have L:=b1.cells.2.1;have r:=bn.cells.2.1;have q:=bn.cells.2.2.1;have dF:=f1 aO;exact(b).o):G:=h
def v6 (h:G:=by
  have aE:=q.lt;have C{G}(h:G:=by
  have L:D.heap[al]?=some (ZT v):=by rw[F.out,H];exact Pz _ _
  exact(n).o):=Pq h;exact vq):G:=h
def YL (h:G:=by
  have a7:w2.heap[N]?=some (Qb #[PD false,Ph 0,Ph 0,QB] 67):=sE
  exact(b).o):G:=h
def uR (h:G:=by
  have bo:=q3 bm br bS;rw[if_neg Pv] at bo;have cn:=ba.fQ aI;obtain⟨al,bI⟩:=xH I.p;rw[<-bI.out] at b5 ⊢;exact(b).o):G:=h
def y0 (h:G:=by
  have u:=Y m;clear cE bW cK bI aI a e bN bG cH cG ay f m ad tf tl S;go_enter func201,ntmps201;go_wp2_with fail;refine Bq ?_;clear bU bx bX cJ cQ;refine cm O ?_;rintro j wz ⟨rfl,l⟩;have af:=Y (fZ l aR.out);have aD:=Y (fZ l aZ.out);have aH:=bS.lt;have aO:=bS.fQ l;have L:=aX.fQ l;have aK:=eI.trans (Qj.of (L:=aJ) l (Qe aH));obtain⟨bn,a6,a8,bo,ba,bb,bm,bq,bE⟩:=SA af.out;obtain⟨bJ,br,bK,bL,bv,bA,bD,bH,bO⟩:=SA aD.out;go_wp2_with fail
  obtain⟨aY,aE,r,q,p,bf,bh,be,bi⟩:=kb af.out aT.out aW aK aO (PD n) (Ph o) (Ph on) (PI s);rw[<-aE];exact(b).o):G:=h
def qb (h:G:=by
  rintro k p ⟨⟨rfl,aJ⟩,bv⟩;have X:PG b p:=H.trans (bv.mono H.size);have ak:=QV.fQ aK bv;obtain⟨E,aO⟩:∃E,E=z.heap.size+1:=⟨_,rfl⟩;have bG:b.heap.size<=E:=by rw[aO];have:=H.size;omega
  rw[<-aO] at aJ ⊢;exact(a).o):G:=h
def rR (h:G:=by
  have D:Hid (b.cell? (Pn w.heap.size 0)=some (.pointer c)):=by show _=_;rw[cell_of ae.out];rfl
  exact(a).o):G:=h
def mL (h:G:=by
  go_wp2_with fail;refine iJ ?_;clear bx bq;refine cm bo ?_;rintro j wz ⟨rfl,L,ay⟩;have aO:=Y (ay.f2 bG.out PK);exact(b).o):G:=h
def Y1 (h:G:=by
  go_wp2_with fail;refine cm c ?_;intro j bL o;obtain⟨rfl,d⟩:=o;exact(f).o):G:=h
def He (h:G:=by
  refine Bz ?_;refine ug 4 (.map (some r)) rfl (Or.inl ⟨by kernel_rfl,λt j=>by have aD:=PV j bY.out;go_simp⟩) g ?_
  refine FF ?_;refine ug 6 (Ph (no:Int)) rfl (Or.inl ⟨by kernel_rfl,λt j=>by have aD:=Pj cH t (a7.out.trans (j.mono a7.out.size));go_simp⟩) g ?_
  refine H4 ?_;refine ug 10 (PI E) rfl (Or.inl ⟨by kernel_rfl,λt j=>by have aD:=PV j dT.out;go_simp⟩) g ?_
  refine QX 11 λK d=>?_;go_simp;have H:PG n (al.alloc (.cells #[PI E] 9)):=g.alloc (by have:=Pj ci;omega) _
  have cg:Hid (QV n.heap.size (al.alloc (.cells #[PI E] 9)) (.slice (some (Pn al.heap.size 0)) 1 1) [E]):=⟨rfl,Or.inr ⟨al.heap.size,1,#[PI E],rfl,by have:=Pj ci;omega,Pz _ _,Qq,by decide,rfl,rfl⟩⟩
  refine tD ?_;clear d K;obtain⟨ak,bZ⟩:∃ak,ak=al.alloc (.cells #[PI E] 9):=⟨_,rfl⟩;have cO:Hid (al.heap.size<ak.heap.size):=by show _<_;rw[bZ];simp
  rw[<-bZ] at H cg ⊢;clear bZ;obtain⟨M,b1⟩:∃M,M=al.heap.size:=⟨_,rfl⟩;have dS:Hid (n.heap.size<=M):=by show _<=_;rw[b1];have:=Pj ci;omega
  rw[<-b1] at cg cO ⊢;clear b1;refine uh 12 (.agg #[Ph (no:Int),.slice (some (Pn M 0)) 1 1,PD false,Rz]) H ?_;refine QX 13 λK d=>?_;go_simp;exact(a).o):G:=h
def D9 (h:G:=by
  have ef:=cZ.lt;obtain⟨f,cU⟩:=xE bE.heap.size;have br:k<=H:=Pv;have cw:=WH (a:=3) cX.out br (PZ f 0);have da:=auQ cX.out (PZ f 0);obtain⟨cS,b5⟩:=xE (bE.setCell (Pn H 3) (PZ f 0));have cT:cS.heap.size=bE.heap.size:=by rw[b5];simp
  rw[<-b5] at cw da;have ee:=cZ.ZR cw PK;obtain⟨c,cr⟩:=xE (cS.alloc (.cells #[Ph 0,Ph 0,QB] 65));have cq:PG cS c:=by rw[cr];exact QK
  have dr:c.heap[f]?=some (Qb #[Ph 0,Ph 0,QB] 65):=by rw[cr,cU,<-cT];exact Pz _ _
  have cE:=ee.fQ cq;have bF:=Y (fZ cq da);have d0:P9 c (some f) (some vU):=dr;have dt:cS.heap[N]?=some (Qb #[Ph 0,Ph 0,QB] 65):=cw.rest _ _ _ du.out PK;have ek:=Y (fZ cq dt);have dV:Kp L c:=λO m j ad s=>Kp.of cq O m j (cw.rest O m j (dv O m j ad s) (by rcases s with rfl|rfl <;> decide)) s;have el:Qj none k w c:=(cY.ia cw (λO ad=>by rw[b5];exact heap_setCell_other _ _ _ _ (show O≠H by omega))).trans (Qj.of cq (by rw[cT];exact Qe ef))
  have de:=cE.lt;have ei:w.heap.size<=f:=by have:=cY.below.size;omega
  have dU:k<=f:=Pv;have ej:f≠N:=λj=>by have:=fR du.out;omega
  rw[<-cU,<-b5,<-cr];exact(b).o):G:=h
def x4 (h:G:=by
  obtain⟨bm,bn,aO,aQ,u⟩:=h.c;have s:PG w (w.alloc (vO a)):=QK;have L{G}(h:G:=by
  unfold vO at A;clear v D r O aO aQ;have L{G}(h:G:=by
  obtain⟨P,S,_,_,_⟩:=(h.fQ e).c;exact(U).o):=Pq h;exact A4):=Pq h;exact Bh):G:=h
def nr (h:G:=by
  obtain⟨cQ,cC,d6,bo,bn,cP,_⟩:=aX.Zm (a:=0) Pv;rw[af] at bo;obtain⟨al,a6⟩:=xH I.p;obtain⟨d7,b2⟩:=xE cQ.p;exact(b).o):G:=h
def yk (h:G:=by
  go_enter func348,ntmps348;have al:=TD m w l a ax;unfold kC at al;have aQ:=rB (Qn m.l l);go_wp2_with fail;refine cm al ?_;rintro f wt ⟨rfl,H⟩;have n:=ax.fQ H;go_wp2_with fail;refine oV ?_;refine aJ7 ?_;refine wg 3 (.map (some m.mV)) rfl (Or.inl ⟨by kernel_rfl,λW k=>by have s:=QS.c5 k;go_simp⟩) n.drew ?_
  refine wh 4 (Qr m) n.drew ?_;refine Yd 5 λK b=>?_;go_simp;refine cm (Ub m _ l a n.drew) ?_;rintro f e ⟨rfl,ap⟩;have g:=n.drew.fQ ap;have p:=H.trans ((RV.drew.trans ap).mono H.size);refine IV ?_;clear b K;exact(d).o):G:=h
def Fh (h:G:=by
  have dE:Hid (b.heap[w.heap.size+1]?=some (Qb #[Rz,PD false] 100)):=(aE _ Pv).trans aT;have o:Hid (PG w b):=aJ8
  have dq:Hid (w.heap.size+2<=b.heap.size):=by show _<=_;have:=X.size;omega
  have d0:Hid (b.heap[B]?=some (Xr no (.slice (some (Pn M 0)) 1 1) false (.pointer c))):=(aE _ Pv).trans bH;have d1:Hid (QV w.heap.size b (.slice (some (Pn M 0)) 1 1) [E]):=TS (Qw (a:=λO=>n.heap.size<=O) (λO ad _=>aE O (by have ah:n.heap.size<=O:=ad;omega)) (λO ad=>(Qm cQ O ad).2) cQ) Pv
  have d4:Hid (w.heap.size<=B):=by show _<=_;omega
  have cP:Hid (B<b.heap.size):=by show _<_;omega
  have dW:Hid (B≠w.heap.size+1):=by show _≠_;omega
  have dY:Hid (M<b.heap.size):=by show _<_;omega
  have dX:Hid (M≠w.heap.size+1):=by show _≠_;omega
  clear C aE d2 bH aT u bn bo bm bi br dU dV dZ d3;have bX:=PV o.out b8.out;have bW:=PV o.out ce.out;have dP:L<b.heap.size:=Nat.lt_of_lt_of_le ef o.out.size;go_wp2_with fail;clear bX bW dP;have D:Hid (b.cell? (Pn w.heap.size 0)=some (QI B)):=by show _=_;rw[cell_of ae.out];rfl
  exact(a).o):G:=h
def rn (h:G:=by
  have D{G}(h:G:=by
  clear o;have X:=h;have U:=Ap.refl m.R w.heap.size w;have aJ:=h.base.ends;have aI:=h.base.len;have ad:=Y d;exact(f).o):=Pq h;exact zO):G:=h
def yp (h:G:=by
  rintro wt ad e a;have cw:=Y (a.fr.TY bm cr.out PK PK);have O:=Y (a.fr.TY bm cH.out PK PK);have cR:=cG.trans a.fr;have cx:=a.ms;have dX:=a.er;have ae:=cL.TY a.fr bm;have cQ:=a.la;have aR:=a.ms.lt;have aK:ad≠N:=λj=>by
   have ah:=a.ob;have aL:=fR cr.out;omega
  obtain⟨r,⟨aH,ay,aE⟩⟩:=q;obtain⟨cV,bZ,b3,cZ,b6,ci,cM,dq,dt⟩:=SA cw.out;obtain⟨dm,da,dp,du,dk,aD,dr,dv,db⟩:=SA (a.o);obtain⟨dg,c8,dh,di,dc,dd,de,df,dj⟩:=SA O.out;exact(b).o):G:=h
def rK (h:G:=by
  have q:PG w b:=by rw[p];exact QK
  have e:=h.fQ q;obtain⟨S,F,N,U,be⟩:=ZP (a:=b) (by rw[p];exact RV)
  obtain⟨aY,j,_,n,ae⟩:=e.c;rw[<-p];have X:b.ownsRow H 198 3 o c.PL.length (flat (c.PL.map Ro.h) B):=by have:=e.ro.row;rwa [List.length_map] at this
  clear p s u b0 r aY;refine pA ?_;refine Nn ?_;exact(g).o):G:=h
def Hx (h:G:=by
  have D{G}(h:G:=by
  exact(d).o):=Pq h;exact zO):G:=h
def qO (h:G:=by
  have dg:=q.ms.lt;have ew:D≠N:=λj=>by
   have ah:=q.vb;have aL:=fR bG.out;omega
  have b1:Qj none k w wz:=bF.trans q.fr;have cZ:=Y (q.fr.f2 cT.out PK);clear cA;obtain⟨bK,bJ,bS,bW,bX,bY,bU⟩:=Ql (q.v);exact(b).o):G:=h
def l0 (h:G:=by
  go_wp2_with fail;refine cm c ?_;rintro j br ⟨rfl,rfl⟩;go_wp2;go_ret;exact(f).o):G:=h
def BA (h:G:=by
  obtain⟨bZ,bP,bR,b1,bW,bX,bY,b2,b3⟩:=SA O.out;go_wp2_with fail;obtain⟨aY,a1⟩:=xE (((((L.setCell (Pn N 0) (PD true)).setCell (Pn N 1) (Ph aH)).setCell (Pn N 2) (Ph ay)).setCell (Pn N 3) (PI aE)).alloc (.cells #[PD true,Ph aH,Ph ay,PI aE] 67));rw[<-a1];have ba:k<=N:=by have:=Pj aO;omega
  have D:=U8 O.out ba (PD true) (Ph aH) (Ph ay) (PI aE);have e:=(Below.refl _ ((((L.setCell (Pn N 0) (PD true)).setCell (Pn N 1) (Ph aH)).setCell (Pn N 2) (Ph ay)).setCell (Pn N 3) (PI aE))).alloc Qq (.cells #[PD true,Ph aH,Ph ay,PI aE] 67);have bj:=fZ e (lY O.out (PD true) (Ph aH) (Ph ay) (PI aE));have b8{G}(h:G:=by
  exact(b).o):=Pq h;exact CD):G:=h
def pF (h:G:=by
  obtain⟨bz,bA,b0,aO,u⟩:=h.c;have s:PG w (w.alloc (vO a)):=QK;exact(b).o):G:=h
def n5 (h:G:=by
  go_wp2_with fail;obtain⟨bh,a1,aY,aH,aE,bA,bf,bi⟩:=i1 ay.out a8.out aW bR bS (Ph H.k) (Ph H.n) (PI H.s);refine xg ?_;exact(b).o):G:=h
def p7 (h:G:=by
  rw[<-a6.out] at bo b5;rw[<-b2] at bn ax
  rcases T:X.v (Px A 0) ⟨F,B,C⟩ g with ⟨⟨e,u⟩,L⟩
  rw[T] at ax;have cE:=Y bo;have cU:=Y bn;have eD:=f1 bn;exact(b).o):G:=h
def rz (h:G:=by
  rw[da] at di;have dp:=Y da;clear da;go_wp2_with fail;refine cm di ?_;rintro j df ⟨rfl,cn⟩;have de:=Y (fZ cn dr.out);have cw:=q.ms.fQ cn;have cp:=dt.fQ cn;have dm:=b1.trans (Qj.of (L:=none) cn (Qe dg));have dz:=cw.lt;have cB:=dx.kp (Kp.of cn);have bL:=Pj dq;exact(b).o):G:=h
def yd (h:G:=by
  go_enter func291,ntmps291;go_wp2_with fail;rw[<-a1.out,<-aO];clear aO;refine UG 9 λa=>?_;refine iF ?_;refine GV ?_;refine uk 8 aQ.out a ?_;refine QX 9 λK d=>?_;go_simp;refine qS ?_;rintro j p ⟨rfl,b6⟩;refine ko d ?_;clear d K;have aH:=a.trans b6;have o:=aR.fQ aH;have aE:=b8.trans (Qj.of (L:=none) aH (Qe ce));have u:=yA bo o.bw (aK.kp (Kp.of aH));obtain⟨b5,_⟩:=o.hh.at_ 5 _ rfl;have b2:=o.lt;rw[<-bn.out] at u;exact(b).o):G:=h
def BV (h:G:=by
  clear d;obtain⟨bv,ak,bf,bh⟩:=Pj bj;have ah:=P6.length _ _ bf;have aK:=Qm ak;rw[ah] at ak;have ba:=Y ah;have aH:=aL.size;have w:=Pj aE;have aJ:=Y aK;clear aK ah
  go_wp2_with (at_builtin;refine wpList_append_lies _ rfl _ _ 38 rfl l.heap.size 22 a6 Rz 1 8 underlying38 aY a1 aW aX rfl PK _ _ _ rfl (ak.alloc _) (Pn M.heap.size 0) 1 1 [Pm I] rfl rfl (TF M I _ rfl) (g8 I) PK (by unfold maxLen;omega) Pv SC (M.heap.size+1) Qh ?_)
  intro be bb ay hown' af aI _;have aD:KV l.heap.size ay (i++[p]) (.slice (some (Pn be 0)) (i.length+1) bb):=Bw bh (by rw[List.map_append];exact hown') (by simp[ba.out]) af aI
  have L:=(aL.alloc aH (.cells #[Pm I] 22)).grown af SC (λk ae=>(Pj aJ k ae).2);have D:=b.ap (((Below.refl l.heap.size M).alloc aH (.cells #[Pm I] 22)).grown af SC (λk ae=>(Pj aJ k ae).2)) aR.out;clear aI;go_wp2_with fail;exact(f).o):G:=h
def qq (h:G:=by
  have bF:Hid (Q7 a=true->∀W,PG w W->PN 103 #[Pm g] W λd f=>(∃e,d=PY (Pm e)/\UN W (Rj a 1) e)/\f=W):=λb0 W i=>Ic a g W (cM W i) (by
   have:hz a.kd=2:=aKa
   omega) Pv
  exact(b).o):G:=h
def oz (h:G:=by
  obtain⟨U,F⟩:∃U,U=b.drew:=⟨_,rfl⟩;have g:PG b U:=by rw[F];exact RV.drew
  exact(a).o):G:=h
def Fq (h:G:=by
  rintro wz D p q;have cA:=q.fr.f2 bG.out PK;have bQ:=Y cA;obtain⟨du,cn,dp,dq,dr,dt,d5⟩:=Ql (cA);have dv:=q.ms.lt;have eo:D≠N:=λj=>by
   have ah:=q.vb;have aL:=fR bG.out;omega
  exact(b).o):G:=h
def BZ (h:G:=by
  refine H4 ?_;refine ug 10 (PI q) rfl (Or.inl ⟨by kernel_rfl,λt j=>by have aD:=PV j br.out;go_simp⟩) g ?_
  refine QX 11 λK d=>?_;go_simp;have bq:PG b (U.alloc (.cells #[PI q] 9)):=g.alloc g.size _;have bz:QV b.heap.size (U.alloc (.cells #[PI q] 9)) (.slice (some (Pn U.heap.size 0)) 1 1) [q]:=⟨rfl,Or.inr ⟨U.heap.size,1,#[PI q],rfl,g.size,Pz _ _,Qq,by decide,rfl,rfl⟩⟩;refine d.out _ _ (λ_=>bq) ?_;clear d K;obtain⟨z,ax⟩:∃z,z=U.alloc (.cells #[PI q] 9):=⟨_,rfl⟩;obtain⟨L,a8⟩:∃L:Option Addr,L=some (Pn U.heap.size 0):=⟨_,rfl⟩;have H:PG b z:=by rw[ax];exact bq
  have aK:QV b.heap.size z (.slice L [q].length 1) [q]:=by rw[ax,a8];exact bz
  rw[<-ax,<-a8];clear ax a8;refine uh 12 (.agg #[Ph (no:Int),.slice L [q].length 1,PD false,Rz]) H ?_;refine QX 13 λK d=>?_;go_simp;exact(a).o):G:=h
def w1 (h:G:=by
  have cx:w.heap.size<=H:=Pv;have aK:=bq.kp (Kp.of aI);have aQ:=Y aK.cells.2.2.1;have aR:=D.fQ aI;have bN:=Y (fV E);have b8:=Qj.of (L:=none) aI (Qe ay);obtain⟨al,bn⟩:=xH I.p;obtain⟨L,r⟩:=xE e.2.tx;have b7:=aK.cells.1;rw[<-bn.out] at aQ b7 ⊢;rw[<-r] at aQ;have ce:=aR.lt;have cy:=fR E;have a6:=Y (λt (f:PG w2 t)=>rJ (aR.fQ f).hh A.go.ok A.go.sm (Qe aT) c L);exact(b).o):G:=h
def kW (h:G:=by
  rintro j aR ⟨⟨p,rfl,aK⟩,ak,ap⟩;refine ko d ?_;clear d K;exact(b).o):G:=h
def nQ (h:G:=by
  have bo:=q3 bm br f;rw[if_neg Pv] at bo;have cn:=r.fQ aI;exact(b).o):G:=h
def uO (h:G:=by
  have n:b.cell? (Pn a 0)=some Rz:=by rw[d,World.cell?_alloc_past _ _ _ SC,World.cell?_alloc_past _ _ _ l];exact u
  have p{G}(h:G:=by
  have H:=R9.OS (Pn w.heap.size 0) (Pn a 0) b j;rw[d] at H;exact(e).o):=Pq h;exact I8):G:=h
def vC (h:G:=by
  rw[<-bF.out,<-b5];rw[<-b5] at bL bH;rw[<-cy] at bQ ax;rw[<-bW] at ax
  rcases T:X.s (Px u 0) ⟨B,C,F⟩ c g with ⟨⟨q,bb,bn⟩,bo⟩
  rw[T] at ax;have cE:=Y bL;have cU:=Y bQ;have dx:=f1 bQ;have bI:=Y T;clear E cg cn aI T b5 ah bN bG cK bL bQ cy bW;go_enter func202,ntmps202;go_wp2_with fail;rw[<-cJ.out,<-bx,<-bX,<-bR];clear bR bx bX cz cP;go_wp2_with fail;exact(b).o):G:=h
def Jy (h:G:=by
  go_enter func322,ntmps322;go_wp2_with fail;refine iJ ?_;have cx{G}(h:G:=by
  have bQ:=WH (a:=2) b7.out br (PD false);have ck:=zp b7.out (PD false);obtain⟨aK,bv⟩:=xE (L.setCell (Pn H 2) (PD false));rw[<-bv] at bQ ck ⊢;have ci:=cH.ZR bQ PK;have cx{G}(h:G:=by
  have dx:=ci.lt;exact(b).o):=Pq h;exact z8):=Pq h;exact DP):G:=h
def xe (h:G:=by
  have du{G}(h:G:=by
  have aZ:=Y cK;have dv:=Y aI;have aR:=Y bW;have aT:=Y bG;have aX:=al.fQ bF;obtain⟨ad,tf,tl⟩:=pW bI;have S:=ae.t8 bS;exact(b).o):=Pq h;exact Bf):G:=h
def sa (h:G:=by
  clear aD;obtain⟨a8,be⟩:=xE ((bm.alloc (.cells #[Pm b1] 22)).alloc (Qu 12 PE 0 (.slice (some (Pn bm.heap.size 0)) 1 1)));exact(f).o):G:=h
def oC (h:G:=by
  simp only[Value.slice.injEq,Option.some.injEq,Addr.mk.injEq,and_true,true_and] at L;obtain⟨rfl,rfl⟩:=L;exact(b).o):G:=h
def Jk (h:G:=by
  have u{G}(h:G:=by
  have u{G}(h:G:=by
  refine Yd 11 λK b=>?_;go_simp;clear X O U ae ad af;obtain⟨M,f⟩:=xE ((((q.setCell (Pn (w.heap.size+1) 0) (PI x.tx)).setCell (Pn (w.heap.size+1) 1) (Ph x.kd)).setCell (Pn (w.heap.size+1) 2) (Ph x.parts)).setCell (Pn (w.heap.size+1) 3) (Ph x.str));exact(d).o):=Pq h;exact AC):=Pq h;go_simp;exact EN):G:=h
def yi (h:G:=by
  have aK:=h.kP;have ah:Hid (∀(w:Py),QS m w l a->PN 221 #[Qr m] w λg k=>g=PY (PI e)/\PG w k):=λw h=>by rw[au];exact Ub m w l a h
  clear h au b3;go_enter func312,ntmps312;go_wp2_with fail;refine oV ?_;refine aKb ?_;refine wg 3 (.map (some m.mS)) rfl (Or.inl ⟨by kernel_rfl,λW j=>by have ak:=QS.c3 j;go_simp⟩) p ?_
  refine wh 4 (Qr m) p ?_;exact(d).o):G:=h
def GS (h:G:=by
  have L{G}(h:G:=by
  exact(b).o):=Pq h;exact A4):G:=h
def Ho (h:G:=by
  have bA:=Y a1;have bq:=Y a6;obtain⟨F,ax⟩:∃F,F=(w.alloc (.cells #[.pointer c,PD true] 100)).alloc (.cells #[Rz,PD false] 100):=⟨_,rfl⟩;have aY:PG w F:=by rw[ax];exact QK.alloc Qh _
  have bP:F.heap.size=w.heap.size+2:=by rw[ax];simp
  have bN:F.heap[w.heap.size]?=some (Qb #[.pointer c,PD true] 100):=by
   rw[ax,Below.heap_alloc _ _ _ Qh];exact Pz _ _
  have cy:F.heap[w.heap.size+1]?=some (Qb #[Rz,PD false] 100):=aJC
  obtain⟨q,aH⟩:∃q,q=F.drew:=⟨_,rfl⟩;have bh:PG w q:=by rw[aH];exact aY.drew
  have cq:q.heap.size=w.heap.size+2:=by rw[aH];exact bP
  have aW:q.heap[w.heap.size]?=some (Qb #[.pointer c,PD true] 100):=by rw[aH];exact bN
  exact(a).o):G:=h
def oT (h:G:=by
  go_wp2_with fail;refine cm q ?_;rintro a w' ⟨rfl,rfl⟩;go_wp2_with fail;refine cm r ?_;rintro a k ⟨rfl,d⟩;exact(b).o):G:=h
def FN (h:G:=by
  have bD:Hid (r.cell? (Pn e 3)=some (.slice (some (Pn p 0)) z L)):=(C.cell (Or.inl bE.out) Pv).trans (PV g ay.out);have bA:Hid (r.cell? (Pn p 1)=some (Pm H)):=(C.cell (Or.inl bz.out) Pv).trans (PV g bf.out);have bF:=Y bn;clear bn A ba;go_simp;go_wp2_with fail;obtain⟨B,ak⟩:∃B,B=r.drew:=⟨_,rfl⟩;have q:PG r B:=by rw[ak];exact RV.drew
  refine Qd 10 (λt=>PG r t) Qz ?_;rw[<-ak];clear ak;refine DG ?_;refine uc 4 (.slice (some (Pn p 0)) z L) rfl (Or.inl ⟨by kernel_rfl,λt j=>by have aD:=PV j bD.out;go_simp⟩) q ?_
  refine uh 5 (PZ p 1) q ?_;refine uc 6 (Pm H) rfl (Or.inl ⟨by kernel_rfl,λt j=>by have aD:=PV j bA.out;go_simp⟩) q ?_
  exact(a).o):G:=h
def uB (h:G:=by
  have cL:=bY.fQ bq;have cq:=a6.cell ak;have cP:1<w.heap.size:=f1 cq;have cz:=a6.cell br;rw[aI] at cz;clear cq;obtain⟨cp,cC,dz,bL,bQ,cB,_⟩:=aX.Zm (a:=0) Pv;rw[af] at bL;obtain⟨al,b5⟩:=xE I.p;obtain⟨dC,cy⟩:=xE cp.p;have ax:=Y (λt (f:PG w2 t)=>ah t cp (br.fQ f) (cB.kp (Kp.of f)) (bm.fQ f));exact(b).o):G:=h
def AO (h:G:=by
  have de:=Y al;clear s al;obtain⟨cq,ap,ay,bz,bR,bS,cr⟩:=Ql bI.out;go_wp2_with fail;obtain⟨bh,a1⟩:=xE ((((aR.setCell (Pn N 0) (Ph 0)).setCell (Pn N 1) (Ph 0)).setCell (Pn N 2) (QB)).alloc (.cells #[Ph o.k,Ph o.n,PI o.s] 65));rw[<-a1];have H:k<=N:=by have:=Pj a8;omega
  have aY:=TL bI.out H (Ph 0) (Ph 0) (QB);have ae:=(Below.refl _ (((aR.setCell (Pn N 0) (Ph 0)).setCell (Pn N 1) (Ph 0)).setCell (Pn N 2) (QB))).alloc Qq (.cells #[Ph o.k,Ph o.n,PI o.s] 65);have dM{G}(h:G:=by
  exact(b).o):=Pq h;exact Ak):G:=h
def Hz (h:G:=by
  have A:=Y i;clear i;have r{G}(h:G:=by
  rintro ah C ⟨rfl,rfl⟩;go_wp2_with fail;have hG:∀g,(j:g<(c.extract a b).size)->RJ ((c.extract a b)[g].toNat:Int)=true:=λg j=>MM
  have n:=extract_size c a b Pv l;refine(PQ (c.extract a b) C Pv Pv hG).mono ?_;rw[A.out];rintro ak af ⟨rfl,B⟩;have p:=f.trans (B.mono f.size);clear z k;obtain⟨z,k⟩:=nW p;have f:=p;exact(q).o):=Pq h;exact H9):G:=h
def Gq (h:G:=by
  obtain⟨o,cQ⟩:=xE (g.gu:Int);obtain⟨cn,ci⟩:=xE (g.gv e (-1) (-3));rw[<-cQ,<-ci] at aI ax;have ec:=Y aI;have dC:=Y ax;have dQ:(g.M.ro e).isSome=true:=Po.some (p:=⟨e,n,true⟩) dz;have dR:=Y (λt (B:Mx U k M z bo bn bm a6 t g)=>pq B dx Pv e (-1) (-3) dQ);rw[<-cQ,<-ci] at dR;have ed:Sz (aH+1) cn:=by show Sz _ _;rw[ci];exact dx.gv _ _ _
  have ea:0<=o/\o<cn.M.PL.length:=by rw[cQ,ci];exact⟨by show (0:Int)<=(g.M.PL.length:Int);omega,by show (g.M.PL.length:Int)<_;simp[St.gv,Mo.scope];omega⟩
  rw[<-al.out];clear cB cC cQ ci aI ax dQ cR dz;go_enter func322,ntmps322;go_wp2_with fail;refine iJ ?_;exact(b).o):G:=h
def r3 (h:G:=by
  have bn:p.cell? (Pn w.heap.size 0)=some (.pointer c):=by rw[cell_of u];rfl
  have bo:p.cell? (Pn w.heap.size 1)=some (PD true):=by rw[cell_of u];rfl
  have bm:=Rn u;have bi:=fR u;refine ty ?_;clear d K aO;exact(a).o):G:=h
def m8 (h:G:=by
  rcases T:g.v (Px a 0) b σ.step with ⟨⟨v,c⟩,i⟩
  rw[T] at d;exact(U).o):G:=h
def pQ (h:G:=by
  have bY:Hid (b.cell? (Pn f 0)=some (.map (some r))):=PV o.out bF.out;exact(a).o):G:=h
def m5 (h:G:=by
  rintro j aR ⟨⟨p,rfl,aK⟩,ak,ap,ci⟩;refine ko d ?_;clear d K;exact(b).o):G:=h
def wi (h:G:=by
  have u:p.heap[w.heap.size]?=some (Qb #[.pointer c,PD n] 100):=by rw[X.block _ Pv];exact Pj ae
  have bn:p.cell? (Pn w.heap.size 0)=some (.pointer c):=by rw[cell_of u];rfl
  have bo:p.cell? (Pn w.heap.size 1)=some (PD n):=by rw[cell_of u];rfl
  have bm:=Rn u;have bi:=fR u;refine ty ?_;clear d K aO;exact(a).o):G:=h
def mr (h:G:=by
  go_wp2_with fail;refine cm j ?_;rintro d r ⟨rfl,rfl⟩;exact(b).o):G:=h
def xN (h:G:=by
  go_wp2_with fail;refine Hy ?_;rintro m q ⟨rfl,aK⟩;rw[aK];clear aK;go_wp2_with fail;refine cm n ?_;rintro m k ⟨rfl,f⟩;exact(b).o):G:=h
def AR (h:G:=by
  have u{G}(h:G:=by
  go_wp2_with fail;have o:=Zr c a x XH D (by unfold maxLen;omega) Pv s
  rw[A.out] at o;refine o.mono ?_;rintro O n ⟨rfl,rfl⟩;have C:Hid (n.heap[6]?=some (.cells (d.map Value.string).toArray i g)):=by
   show _=_
   rw[e.block 6 SC,Below.heap_alloc w _ 6 r];exact Pj B
  go_wp2_with fail;refine Jq ?_;rintro S F ⟨rfl,rfl⟩;go_wp2_with fail;exact(f).o):=Pq h;exact Dt):G:=h
def Ae (h:G:=by
  refine uh 7 (Pm e) g ?_;refine QX 8 λK d=>?_;go_simp;refine cm (Pj bD _ (o.out.trans (g.mono o.out.size))) ?_;rintro k br ⟨⟨bI,rfl,bq⟩,bz⟩;have aW:PG b br:=g.trans (bz.mono g.size);refine d.out _ _ (λ_=>aW) ?_;clear d K;refine QX 9 λK d=>?_;go_simp;refine cm bq ?_;rintro k z ⟨⟨u3,rfl,bA⟩,bh⟩;have H:PG b z:=aW.trans (bh.mono aW.size);have aK:QV b.heap.size z u3 q:=TS bA aW.size;obtain⟨M,R,rfl⟩:=P7 aK;refine tD ?_;clear d K
  refine uh 10 (.agg #[Ph (no:Int),.slice M q.length R,PD false,Rz]) H ?_;refine QX 11 λK d=>?_;go_simp;exact(a).o):G:=h
def wy (h:G:=by
  go_wp2_with fail;refine iJ ?_;clear bx bq;refine UG 8 λa=>?_;refine kT ?_;refine rT ?_;refine QX 8 λK d=>?_;go_simp;refine mp ?_;rintro j wz ⟨⟨p,rfl,aK⟩,L,ec⟩;refine ko d ?_;clear d K;refine aKd ?_;have dq:=aK;have D:=(Qj.of (L:=none) a (Qe bP)).trans ec;have aO:=Y (D.f2 bG.out PK);exact(b).o):G:=h
def Bn (h:G:=by
  clear T;go_wp2_with fail;refine Hg ?_;refine wg 1 (Ph x.kd) rfl (Or.inl ⟨by kernel_rfl,λW aI=>by obtain⟨_,aX,_,_,_,_⟩:=i8 aI;go_simp⟩) b.out ?_
  refine wh 2 (Pm z) b.out ?_;refine wh 3 (Qr m) b.out ?_;refine wh 4 (PZ n.heap.size 3) b.out ?_;refine wg 5 (Ph x.str) rfl (Or.inl ⟨by kernel_rfl,λW aI=>by obtain⟨_,_,_,aX,_,_⟩:=i8 aI;go_simp⟩) b.out ?_
  refine wg 6 (Ph (x.str+1)) rfl (Or.inl ⟨by kernel_rfl,λW _=>by have bx:IntKind.i64.wrap (x.str+1)=x.str+1:=(by rw[IntKind.wrap_i64];omega);go_simp;try exact bx⟩) b.out ?_
  refine Yd 7 λK C=>?_;go_simp;refine l3 ?_;exact(f).o):G:=h
def Dp (h:G:=by
  have B:(RW a).heap.size=a.heap.size+2:=by simp
  have F:=o.size;have D:=Pj U;have j:b.heap[a.heap.size]?=some (Qb #[Rz] 22):=by
   rw[n.block _ Pv Pv,o.block _ Pv,Below.heap_alloc _ _ _ Qh];exact Pz _ _
  have g:b.heap[a.heap.size+1]?=some (Qb #[RI] 31):=OP
  have E:b.cell? (Pn a.heap.size 0)=some Rz:=by rw[cell_of j];rfl
  have R:=Rn j;have A:b.cell? (Pn (a.heap.size+1) 0)=some RI:=by rw[cell_of g];rfl
  have S:=Rn g;have r:PG a b:=Ld
  have z:Hid (a.heap.size+2<=i.heap.size):=by show _<=_;omega
  exact(k).o):G:=h
def Em (h:G:=by
  have u{G}(h:G:=by
  exact(d).o):=Pq h;exact AC):G:=h
def qJ (h:G:=by
  refine ug 0 (RX (.pointer c) true) rfl (Or.inl ⟨by kernel_rfl,λt j=>by have aD:=PV j D.out;have ah:=PV j s.out;go_simp⟩) g ?_
  exact(a).o):G:=h
def ra (h:G:=by
  obtain⟨cr,cO,cV⟩:=n.cell;obtain⟨cL,uc,ci⟩:=n.shape;subst ci;exact(f).o):G:=h
def oO (h:G:=by
  intro j u o;obtain⟨⟨cw,rfl,rfl⟩,b,d⟩:=o;have q:=U.next d;exact(f).o):G:=h
def yH (h:G:=by
  have dD:b8≠N:=Pv;have cK:H≠N:=Pv;have aX:=aQ.kp (Kp.of bq);have br:=ak.fQ bq;have cG:=Qj.of (L:=aJ) bq (Qe aW);have cH:=Y cn;have bE:=Y (fV E);have cJ:=Y aI;have cr:=Y cg;have a8:=Y bG;have bm:=ba.fQ bq;exact(b).o):G:=h
def qM (h:G:=by
  have bJ:=bF.trans ay;have bn:=cn.f2 ay;have bK:=L.lt;have a6:=aX.kp ay.Ve;have bE:=a6.cells.1;have aE:=a6.cells.2.1;exact(b).o):G:=h
def oK (h:G:=by
  refine l3 ?_;intro j a o;obtain⟨⟨cX,rfl,k,rfl,H⟩,u,d⟩:=o;exact(f).o):G:=h
def Ei (h:G:=by
  have dD{G}(h:G:=by
  have ae:aE=X.s (Px A 1) ⟨F,B,C⟩ c L:=by rw[bN.out];unfold na;rw[b7.out];simp[dp.out]
  have dh:=Y ae;rw[<-ae] at bm;clear c8 cy cJ db cL cR cS dc dd bK bJ bS bW bX bY bU ay cK bL ae aO;go_wp2_with fail;refine UG 8 λa=>?_;refine kT ?_;refine uk 4 dE.out a ?_;exact(b).o):=Pq h;exact HA):G:=h
def sT (h:G:=by
  go_wp2_with fail;refine cm c ?_;rintro j B ⟨rfl,b7⟩;have aK:=ak.fQ b7;have aM:=ah.next (Ap.of b7);have n:=Open.fQ R (Ap.of b7) p.out;clear ay aL;exact(f).o):G:=h
def zx (h:G:=by
  refine UG 8 λa=>?_;refine iF ?_;refine sV ?_;refine up 5 k 12 a ?_;refine uk 6 cC.out a ?_;refine uh 7 (PI x) (a) ?_;refine QX 8 λK d=>?_;go_simp;refine cm (Pj a6 _ a) ?_;rintro j M ⟨rfl,bi⟩;refine ko d ?_;clear d K;have ay:PG wr M:=a.trans (bi.mono a.size);have aR:=A.fQ ay;have bJ:=aJ.trans (Td.of ay (Qe bZ));have bo:=Y (fZ ay ae.out);have bb:=Qs cZ ay;have aT:Kp H M:=λO m j ad p=>Kp.of ay O m j (ak O m j ad p) p;have cB:=aR.lt;exact(b).o):G:=h
def t7 (h:G:=by
  unfold Wi;have bG:=Pj aQ X M;have bJ:=F.at.c2;have bK:=Rn F 2;have bL:=fR F;go_wp2_with fail;refine cm bG ?_;rintro d ah ⟨rfl,rfl⟩;exact(b).o):G:=h
def EZ (h:G:=by
  have ci:Hid (∀t,PG o t->PN 58 #[Pm bf] t λj w'=>j=PY (PD p)/\w'=t):=λt f=>K2
  have de:u<o.heap.size:=by
   have ah:=aQ.cells.1;rw[<-ae] at ah;have aL:=z.size;omega
  have dd:k<o.heap.size:=by have:=z.size;omega
  have df:H<o.heap.size:=fR ay;have dS:N<o.heap.size:=fR aE;have cj:Hid (w.heap.size<=N):=by show _<=_;omega
  clear bv bz ae d aY bD bG bF af ay aE A;go_enter func60,ntmps60;go_wp2_with fail;refine iJ ?_;clear bx bq;exact(b).o):G:=h
def rD (h:G:=by
  have cA:=q.fr.f2 bG.out PK;have bQ:=Y cA;obtain⟨cg,cp,cq,cr,cw,cx,cy⟩:=Ql (cA);exact(b).o):G:=h
def H0 (h:G:=by
  refine wh 3 (PI r) p ?_ (aZ:=Or.inl ⟨by kernel_rfl,λt U=>by have B:=PV U z.out;go_simp⟩)
  refine wh 4 (Y7 b l c) p ?_ (aZ:=Or.inl ⟨by kernel_rfl,λt U=>by
    have B:=YX.fQ k U;have aL:=B.c0;have aO:=B.c1;have aK:=B.c2;clear B;go_simp⟩)
  refine Yd 5 λK d=>?_;go_simp;refine cm (A.out _) ?_;rintro u al ⟨rfl,ae⟩
  try rw[<-o] at ae
  have f:PG n al:=p.trans (ae.mono Qq);refine pJ ?_;clear d K;refine wh 6 (Wi H) f ?_;refine Y8 ?_;exact(q).o):G:=h
def B4 (h:G:=by
  have aI:=n.lt;obtain⟨A,H⟩:=xH (w.alloc (.cells #[Ph v.k,Ph v.n,PI v.s] 65));obtain⟨aK,al⟩:=xH w.heap.size;have E:PG w A:=by rw[H.out];exact QK
  have o:A.heap[aK]?=some (ZT v):=by rw[H.out,al.out];exact Pz _ _
  have aJ:=n.fQ E;have aR:=aJ.lt;have aQ:=Qj.of (L:=none) E (Qe aI);obtain⟨ec,d9,d8,ea,aH⟩:=n;have u:=aH.fQ E;obtain⟨aM,D⟩:=xE (g.M.SX c);have F:=Jc u.hh c;obtain⟨aX,_⟩:=u.hh.at_ 9 _ rfl;exact(p).o):G:=h
def J3 (h:G:=by
  have aD:Hid (∀(c:Nat)(k:c<a.fS.length)(e:Nat)(W:Py),UN W a.fS[c] e->PN 48 #[Pm e,Y7 true true true] W λd f=>d=PY (Wi (hD a.fS[c] true true true))/\PG W f):=λc k e W bi=>by
   have B:=UO a.fS c k;exact aI a.fS[c] Pv (H _ (List.getElem_mem _)) Pv e true true true W bi
  obtain⟨bm,z⟩:=xE (lT a true true O);obtain⟨aJ,u⟩:=xE (Vk a.fS true true true);rw[<-z,<-u] at o;simp only[<-z] at aT;rw[o];have ax:=Y u;exact(b).o):G:=h
def o1 (h:G:=by
  have ax:=Y (λt (f:PG w2 t)=>ah t cQ n (br.fQ f) (cP.kp (Kp.of f)));exact(b).o):G:=h
def rE (h:G:=by
  obtain⟨aQ,aR,aT⟩:=(Open.fQ n u p.out).cell;have aW:g<a.heap.size+1:=Pv;have aX:g<a.heap.size+1+1:=Pv;refine b _ _ ?_;clear b K;exact(f).o):G:=h
def B3 (h:G:=by
  have F:=(g.alloc Uy).drew;refine b.out _ _ F (λ_=>?_);clear b K;refine Yd 5 λK b=>?_;go_simp;refine cm (Ub m _ l a F) ?_;rintro f A ⟨rfl,q⟩;have c:=F.fQ q;have j:=p.trans ((((Below.refl e.heap.size e).alloc Qq Uy).drew.trans (q.mono Qh)).mono p.size);have E:A.heap[e.heap.size]?=some Uy:=(q.block _ Qh).trans (Pz e Uy);obtain⟨X,R,U,ae,ad,af⟩:=i8 E;have ah:=Y E;clear E;refine rX ?_;clear b K;exact(d).o):G:=h
def sj (h:G:=by
  obtain⟨C,al⟩:=xH I.p;have cH:=cg.fQ dE;have ce:=aQ.kp (Kp.of dE);have b7:=Y cB;have dX:=Y cC;have dY:=Qj.of (L:=none) dE (Qe aW);exact(b).o):G:=h
def zb (h:G:=by
  refine QX 7 λK d=>?_;go_simp;refine cm e ?_;rintro j a8 ⟨rfl,ap⟩;refine ko d ?_;clear d K;have X:=s.fQ ap;have aO:=aJ.trans (Qj.of (L:=none) ap (Qe aK));have r:=X.lt;refine Ud ?_ _;go_simp;go_wp2_with fail;exact(n).o):G:=h
def rk (h:G:=by
  go_wp2_with fail;refine cm c ?_;rintro j v ⟨rfl,H⟩;have E:=ad.next (Ap.of H);have z:=ax.fQ H;exact(f).o):G:=h
def x6 (h:G:=by
  have cC:=a6 0;clear a6;refine uz 7 (PZ H 0) ?_;refine VH 8 ?_;refine Ud ?_ _;go_simp;have eH:k<=H:=by have:=Pj bE;omega
  have ax:=WH (a:=0) L.out eH (Ph q);obtain⟨aX,aT⟩:=xE (bb.setCell (Pn H 0) (Ph q));exact(b).o):G:=h
def EM (h:G:=by
  obtain⟨du,dq,dr,dh,dm⟩:=info_parts au1;obtain⟨db,da,dT,aY,bD,cn,_⟩:=aQ.Zm (a:=1) Pv;rw[af] at aY;obtain⟨bB,bv⟩:=xE c.SE.length;obtain⟨ck,bz⟩:=xE ((c.M.objs.length:Int):Int);obtain⟨u,ae⟩:=xE I.p;obtain⟨bf,bF⟩:=xE db.p;have di:=bE.lt;rw[<-bz,<-ae];rw[<-bv] at ba;rw[<-ae] at aY;rw[<-bF] at bD;have dp:=bE;have dt:=aQ;have aX:=Y bv;have dx:=Y bz;have dj:=Y ae;have dg:=au;have dv:=Y d;exact(b).o):G:=h
def yR (h:G:=by
  have ax:=h;have aX:=Below.refl w.heap.size w;have aR:((Qn m.l l).kd==1)=false:=beq_eq_false_iff_ne.2 z;have aT:((Qn m.l l).kd==3)=false:=beq_eq_false_iff_ne.2 u;have aW:((Qn m.l l).kd==4)=false:=beq_eq_false_iff_ne.2 r;exact(d).o):G:=h
def Kg (h:G:=by
  obtain⟨M,bD,bB⟩:=List.findIdx?_eq_some_iff_getElem.1 X;obtain⟨n,q⟩:=xH g.length;have aM:(g.eraseIdx i).length=n - 1:=by rw[List.length_eraseIdx,if_pos M,q.out]
  rw[aM];obtain⟨b1,aO⟩:=QZ P (a:=e) rfl;have bE:s≠e:=Sj u aO PK;have bG:=lt_of_block u;have aJ:=Y al;have bF:=Y u;rw[<-q.out] at ax P M;rw[<-q.out] at aH;have aL:g.length=n:=q.out.symm;clear X bD bB u F aO al aM;rw[aL];clear aL;exact(b).o):G:=h
def vP (h:G:=by
  go_wp2_with fail;refine cm bF ?_;rintro m bW ⟨rfl,bG⟩;have D:=ad.trans (bG.mono bU);have aZ:=aX.trans (bG.mono aX.size);have bE:=Y (fZ aZ bD.out);have cn:k<bW.heap.size:=by have:=D.size;omega
  exact(b).o):G:=h
def B0 (h:G:=by
  go_wp2_with (at_builtin;refine wpList_append_lies _ rfl _ _ 38 rfl l.heap.size 22 X Rz 1 8 underlying38 S T O R rfl PK _ _ _ rfl (k.alloc _) (Pn r.heap.size 0) 1 1 [Pm f] rfl rfl (K1 r f _ rfl) (Lw f) PK (by unfold maxLen;omega) Pv SC (r.heap.size+1) Qh ?_)
  intro aW aT aU hown' ax ay _;have U:=c.trans (((Below.refl l.heap.size r).alloc P (.cells #[Pm f] 22)).grown ax SC (λau ap=>(Pj ad au ap).2));clear ay;go_wp2_with fail;exact(b).o):G:=h
def AJ (h:G:=by
  refine nz ?_;clear d K;refine qT ?_;obtain⟨wz,af⟩:∃wz,wz=(p.setCell (Pn w.heap.size 0) (QI E)).setCell (Pn w.heap.size 1) (PD true):=⟨_,rfl⟩;rw[<-af];have ad:∀i,i≠w.heap.size->wz.heap[i]?=p.heap[i]?:=λi aQ=>by rw[af,V3 aQ,V3 aQ]
  have a7:Hid (wz.heap[w.heap.size]?=some (Qb #[QI E,PD true] 100)):=by show _=_;rw[af,gb (gb u _)];rfl
  have aR:Hid (PG w wz):=Cg
  exact(a).o):G:=h
def zN (h:G:=by
  refine nz ?_;clear d K;refine qT ?_;obtain⟨wz,af⟩:∃wz,wz=(p.setCell (Pn w.heap.size 0) (QI E)).setCell (Pn w.heap.size 1) (PD n):=⟨_,rfl⟩;rw[<-af];have ad:∀i,i≠w.heap.size->wz.heap[i]?=p.heap[i]?:=λi aQ=>by rw[af,V3 aQ,V3 aQ]
  have a7:Hid (wz.heap[w.heap.size]?=some (Qb #[QI E,PD n] 100)):=by show _=_;rw[af,gb (gb u _)];rfl
  have aR:Hid (PG w wz):=Cg
  exact(a).o):G:=h
def pL (h:G:=by
  intro j a o;obtain⟨⟨dQ,rfl,dG⟩,q,d⟩:=o;obtain⟨k,rfl,ae⟩:=dG.nv;exact(f).o):G:=h
def BF (h:G:=by
  have q:(c.PL.map Ro.h)[f]?=some x.h:=by simp[E]
  have B:w.ownsRow H 262 6 _ x.cs.length (x.cs.flatMap Ce.h):=h.ro.own f x.h _ q m;obtain⟨N,M,C,_⟩:=od B l;simp only[Value.slice.injEq,Option.some.injEq,Addr.mk.injEq,and_true] at C;obtain⟨rfl,rfl,rfl⟩:=C;obtain⟨I,v⟩:=B.stored (a * 6+1) (Ph b.k);obtain⟨L,u⟩:=I.stored (a * 6+2) (Ph b.n);obtain⟨p,z⟩:=L.stored (a * 6+3) (PI b.s);exact(A).o):G:=h
def q1 (h:G:=by
  obtain⟨L,E,F,bq,O⟩:=ZP (d.mono Qh);have D:=((Below.refl _ w).alloc Qq _).trans (d.mono Qh);exact(b).o):G:=h
def tY (h:G:=by
  go_wp2_with fail;obtain⟨aY,a1,bK,b2,b1,bf,bh,be,bi⟩:=kb cw.out a8.out aW cR cx (PD true) (Ph aH) (Ph ay) (PI aE);rw[<-a1];exact(b).o):G:=h
def E5 (h:G:=by
  have D{G}(h:G:=by
  have ak:=Y g.base.size;go_wp2_with fail;refine oV ?_;refine wh 0 (Qr m) g.drew ?_;refine wh 1 (Qr m) g.drew ?_;refine wh 2 (PZ m.R 3) g.drew ?_;refine wg 3 (.map (some m.mS)) rfl (Or.inl ⟨by kernel_rfl,λW k=>by have s:=QS.c3 k;go_simp⟩) g.drew ?_
  refine wh 4 (Qr m) g.drew ?_;exact(d).o):=Pq h;exact un):G:=h
def Dy (h:G:=by
  go_wp2_with fail;obtain⟨aI,s⟩:=xE (((i.setCell (Pn w.heap.size 0) (Ph b.k)).setCell (Pn w.heap.size 1) (Ph b.n)).setCell (Pn w.heap.size 2) (PI b.s));rw[<-s];have B:=l9 m.out (Ph b.k) (Ph b.n) (PI b.s);have o:=hA N Qq (Ph b.k) (Ph b.n) (PI b.s);have u:=TL (k:=w.heap.size) m.out Qq (Ph b.k) (Ph b.n) (PI b.s);rw[<-s] at B o u;obtain⟨bA,bf,bi,_,_⟩:=f7 B;exact(j).o):G:=h
def G8 (h:G:=by
  have bh:Hid (E.cell? (Pn e 3)=some (.slice ak ax ap)):=(ay.cell (Or.inl cB.out) Pv).trans (Pj cS);have cA:=Y bf;clear bE aR cU be cT cV bb cR bi bf aQ;go_simp;rw[<-cA.out];go_wp2_with fail;have q:PG E E.drew:=RV.drew;refine Qd 6 (λt=>PG E t) Qz ?_;refine DG ?_;refine ug 4 (.slice ak ax ap) rfl (Or.inl ⟨by kernel_rfl,λt j=>by have aD:=PV j bh.out;go_simp⟩) q ?_
  exact(a).o):G:=h
def JQ (h:G:=by
  have bh:U.heap.size=b.heap.size:=by rw[F];rfl
  refine Qd 8 (λt=>PG b t) Qz ?_;rw[<-F];have bG:=Y bh;clear F bh;refine HK ?_;refine uc 4 (.slice (some (Pn p 0)) z L) rfl (Or.inl ⟨by kernel_rfl,λt j=>by have aD:=PV j ay.out;go_simp⟩) g ?_
  refine uh 5 (PZ p 0) g ?_;refine uc 6 (Pm ap) rfl (Or.inl ⟨by kernel_rfl,λt j=>by have aD:=PV j bi.out;go_simp⟩) g ?_
  exact(a).o):G:=h
def AV (h:G:=by
  go_wp2_with (at_builtin;refine wpList_append_lies _ rfl _ _ 26 rfl w.heap.size 9 aR (PI ByteArray.empty) 1 16 underlying26 aO aQ aJ aM rfl PK _ _ _ rfl (n.alloc _) (Pn wr.heap.size 0) 1 1 [PI x] rfl rfl (Xv wr x _ rfl) (o7 x) PK (by unfold maxLen;omega) Pv SC (wr.heap.size+1) Qh ?_)
  intro bK bJ aD hown' aI aT _;have aL:=(e.alloc aK (.cells #[PI x] 9)).grown aI SC (λf l=>(Qm n f l).2);exact(b).o):G:=h
def qG (h:G:=by
  rw[al,ap,j] at o;have cM:∀W,PG w W->UN W a g:=λW i=>h.fQ i;have bz:=Y cM;exact(b).o):G:=h
def IH (h:G:=by
  have U:n.heap[w.heap.size+1]?=some (Qb #[Rz,PD false] 100):=by rw[C,V3 Pv];exact Pj dv
  have a7:=Y d5;have dQ:Hid (w.heap.size+2<=n.heap.size):=by show _<=_;omega
  have bx:=Y b6;have cL:=Y U;clear C br b6 U bX dG bW dF bR dx dz dC du;have br:=Pj dQ;have D:Hid (n.cell? (Pn w.heap.size 0)=some (.pointer c)):=by show _=_;rw[cell_of bx.out];rfl
  exact(a).o):G:=h
def D7 (h:G:=by
  have af:PG w L:=xl
  have bo:UN L a g:=Pj bz L af;obtain⟨a6,_,_,u4,aO,aW⟩:=bo.cells;obtain⟨bn,uc,rfl⟩:=aW.form;have bx:(ah.setCell (Pn w.heap.size 2) (PD false)).cell? (Pn g 3)=some (.slice bn a.fS.length uc):=by rw[<-A];exact aO
  exact DO):G:=h
def wN (h:G:=by
  have a8:=Y bI;have eJ:=cH.lt;have dW:=Y (λt (B:UN t a.2 I.p)=>TG a.2 I.p t B);rw[b1,<-al.out] at dW;have eh:UN L a.2 C:=by rw[al.out,<-ce.tr];exact ce.at_.nat.nt
  exact(b).o):G:=h
def vW (h:G:=by
  have cB:L.heap[H]?=some (Qb #[Ph e,Ph n,PD false,.pointer F] 73):=by rw[cz.out,bx];exact f8 (Pz _ _)
  have cC:L.heap[N]?=some (Qb #[Ph 0,Ph 0,QB] 65):=NI
  exact(b).o):G:=h
def IW (h:G:=by
  rintro k p ⟨⟨rfl,bH⟩,b2⟩;have X:PG n p:=H.trans (b2.mono H.size);have cQ:=QV.fQ cg.out b2;obtain⟨B,aO⟩:∃B,B=ak.heap.size+1:=⟨_,rfl⟩;have dV:n.heap.size<=B:=by rw[aO];have:=H.size;omega
  have dZ:B<p.heap.size:=by rw[aO];exact fR bH
  rw[<-aO] at bH ⊢;have d3:M<p.heap.size:=Nat.lt_of_lt_of_le cO.out b2.size;exact(a).o):G:=h
def JV (h:G:=by
  clear z aD;go_enter func270,ntmps270;go_wp2_with fail;rw[<-F.out,<-H];clear H;refine UG 6 λa=>?_;refine iF ?_;refine uh 3 (Ph g) (a) ?_;refine uh 4 (PI b) (a) ?_;refine jY 5 aK.out a ?_;refine QX 6 λK d=>?_;go_simp;refine cm (Pj s _ a) ?_;rintro j aI ⟨rfl,B,N⟩;refine ko d ?_;clear d K;have M:=(Qv.of A (Qe aJ)).trans ((Qv.of a (Qe aO)).trans N);exact(u).o):G:=h
def EP (h:G:=by
  have bY:Hid (n.cell? (Pn f 0)=some (.map (some r))):=PV a7.out aX.out;have dT:Hid (n.cell? (Pn e 1)=some (PI E)):=PV a7.out b7.out;have g:PG n n.drew:=RV.drew;refine Qd 14 (λt=>PG n t) Qz ?_;obtain⟨al,b5⟩:∃al,al=n.drew:=⟨_,rfl⟩;have cK:al.heap.size=n.heap.size:=by rw[b5];rfl
  rw[<-b5] at g ⊢;have ci:=Y cK;clear b5 cK;exact(a).o):G:=h
def zt (h:G:=by
  obtain⟨a,U⟩:∃a,g[d+1]?=some a:=⟨_,List.getElem?_eq_getElem (by rw[<-q.out];exact ae)⟩
  have T:i<g.length:=by rw[<-q.out];exact M
  have aQ:d<g.length:=by rw[<-q.out];omega
  have I:(Lm g i d).length=n:=by rw[Jg T aQ,q.out]
  have ay:(Lm g i d)[d+1]?=some a:=by rw[Nl T aQ Pv];exact U
  have ap:=D;rw[<-I] at ap;exact(b).o):G:=h
def p2 (h:G:=by
  have aR:=Y h.base.size;obtain⟨a6,aY,a1,aW,aX⟩:=info_parts io;exact(f).o):G:=h
def Hm (h:G:=by
  have X:=h.fQ s;obtain⟨e,bm,v,M,bi,C,N,bn,ad,bx,bo,_⟩:=X.ob.at_ (i:=l) (e:=x.h) (by simp[bO]);have B:=rq e bm _ l bi (w.alloc (vO a));rw[<-M] at B;have z:(w.alloc (vO a)).ownsRow H 207 5 v x.ps.length (x.ps.flatMap Pr.h):=bn;have r:=x3 e (l * 2) v x.ps H p (w.alloc (vO a)) (N 1 v rfl) z (by have:=au.ps x (List.mem_of_getElem? bO);omega)
  exact(b).o):G:=h
def Hk (h:G:=by
  refine uh 7 (Pm e) g ?_;refine QX 8 λK d=>?_;go_simp;refine DS ?_;rintro k z ⟨⟨u3,rfl,bh⟩,bf⟩;have H:PG b z:=g.trans (bf.mono g.size);have aK:QV b.heap.size z u3 q:=TS bh g.size;obtain⟨M,R,rfl⟩:=P7 aK;refine tD ?_;clear d K;refine uh 9 (.agg #[Ph (no:Int),.slice M q.length R,PD false,Rz]) H ?_;refine QX 10 λK d=>?_;go_simp;exact(a).o):G:=h
def uK (h:G:=by
  have O:=Y a6;have aR:=Y bO;have S:=Y al;have a1:=Y (D 2 v rfl);have N:=Y a7;have U:=Y E;have aY:=Y ae;obtain⟨aT,aO,aQ,aL,aM⟩:=info_parts r8;exact(b).o):G:=h
def Cv (h:G:=by
  have aJ:=h.lt;have C{G}(h:G:=by
  have q:D.heap[al]?=some (Qb #[Ph v.k,Ph v.n,PI v.s] 65):=by rw[F.out,H];exact Pz _ _
  have aX:=fR q;have aO:k<D.heap.size:=by have:=A.size;omega
  have aK:=Y (f7 q);exact(u).o):=Pq h;exact vq):G:=h
def sN (h:G:=by
  go_wp2_with fail;obtain⟨bh,a1,aY,aH,aE,bA,bf,bi⟩:=i1 cn.out a8.out aW dm dp (Ph 0) (Ph 0) (QB);refine yU ?_;exact(b).o):G:=h
def yC (h:G:=by
  obtain⟨A,n⟩:=xE (c.SX e);have O:Hid (∀k,PG w k->PN 125 #[PZ H 0,Ph e] k λa w'=>a=PY (Ph A)/\w'=k):=λk d=>by rw[n];exact y5 (h.fQ d) e
  exact(b).o):G:=h
def su (h:G:=by
  refine HK ?_;refine ug 4 (.slice A C B) rfl (Or.inl ⟨by kernel_rfl,λt j=>by have aD:=PV j a6.out;go_simp⟩) g ?_
  exact(a).o):G:=h
def JE (h:G:=by
  rw[<-bo.out] at aT b5 bJ ⊢;rw[<-D] at aO bK bE L r q;have dp:=Y r;have dq:=Y q;clear E a7 bD bb bH D aK r q b0 bX;go_enter func261,ntmps261;go_wp2_with fail;refine iJ ?_;clear bx bq;refine UG 15 λa=>?_;refine zlz ?_;refine QX 15 λK d=>?_;go_simp;refine qS ?_;rintro j bQ ⟨rfl,dm⟩;refine ko d ?_;clear d K;have p:=a.trans dm;exact(b).o):G:=h
def Dq (h:G:=by
  obtain⟨d3,df,bJ,d1,cE,cG,bU,cx,d2⟩:=aQ.pR af;have bo:=cx.kp (Kp.of aI);have de:=d2.kp (Kp.of aI);obtain⟨al,cy⟩:=xE I.p;obtain⟨bv,bI⟩:=xH d3.p;obtain⟨eG,cC⟩:=xH df.p;have d4:=aQ.cells.1;have d5:=cx.cells.1;have cB:=cx.cells.2.1;have eF:=f1 cG;have cw:=aX.sI (PV aI cE);have bW:=aX.gG;have bX:=bo.gG;exact(b).o):G:=h
def GI (h:G:=by
  have bE:UN L a g:=Pj bz L af;obtain⟨a6,_,_,u4,aO,aX⟩:=bE.cells;obtain⟨bD,uc,rfl⟩:=aX.form;have bx:(ah.setCell (Pn w.heap.size 2) (PD true)).cell? (Pn g 3)=some (.slice bD a.fS.length uc):=by rw[<-A];exact aO
  exact DO):G:=h
def HF (h:G:=by
  refine UG 6 λa=>?_;refine Az ?_;refine up 3 k 0 a ?_;refine up 4 al 0 a ?_;refine QX 5 λK d=>?_;go_simp;refine cm (Pj bQ _ a) ?_;rintro j dW ⟨rfl,cX⟩;rw[cX];clear cX dW;refine d.out _ _ (λ_=>a) ?_;clear d K;refine QX 6 λK d=>?_;go_simp;refine cm (Pj bN _ a) ?_;rintro j bb ⟨rfl,d7,bP,a8⟩;refine ko d ?_;clear d K;exact(b).o):G:=h
def rU (h:G:=by
  have r:=heap_setCell_same w a 0 _ d e h;have o:=heap_setCell_same _ a 1 _ d l r;have m:=heap_setCell_same _ a 2 _ d f o;exact(n).o):G:=h
def Fj (h:G:=by
  refine QX 8 λK d=>?_;go_simp;refine cm (Pj ax _ (o.out.trans (g.mono o.out.size))) ?_;rintro k r ⟨rfl,C,bn⟩;refine nz ?_;clear d K;refine oB Qz ?_ _;have A:w.heap.size<U.heap.size:=by have:=Pj bG;omega
  have bm:Hid (r.cell? (Pn w.heap.size 0)=some (.pointer c)):=(C.cell (Or.inr ⟨Qq,A⟩) A).trans (PV g D.out);exact(a).o):G:=h
def w8 (h:G:=by
  have ap:=wpOp_putIf q (hfree a d q f F E) (λp g=>hsel b i p g u) (λp g=>hsel a d p g q) N j (H.2 a (ready_mono l f));refine wpOp_mono (λR z o=>?_) ap;exact(A).o):G:=h
def s4 (h:G:=by
  rw[ad.out] at c;simp only[sr,nu,Option.isSome] at c;go_wp2_with fail;refine cm c ?_;rintro j n ⟨rfl,u⟩;exact(f).o):G:=h
def vj (h:G:=by
  go_wp2_with fail;refine cm c ?_;rintro j u ⟨rfl,a7⟩;have ad:=cC.fQ a7;have a6:=cB.next (Ap.of a7);replace z:=Y (Uc (a:=m) z (Ap.of a7) p.out);exact(f).o):G:=h
def tB (h:G:=by
  have ah:=Ye o.2;have aL:Tr.f5 o.2.fS<o.2.count:=by cases o.2;rw[Tr.count];exact Nat.lt_add_of_pos_left Pv
  exact(b).o):G:=h
def sL (h:G:=by
  have bv:=ak.at.c0;have B:=ak.at.c1;have bX:=ak.at.c2;have bY:=fR ak;have p:=Pj aD c n e wr aM;exact(b).o):G:=h
def x0 (h:G:=by
  have b6:PG aR bm:=by rw[ae];exact QK
  have b8:=ci.fQ b6;have cR:=Y (fZ b6 bI.out);have cS:=cL.trans (Qj.of (L:=none) b6 (Qe dd));have cG:=b8.lt;exact(b).o):G:=h
def r2 (h:G:=by
  go_wp2_with fail;refine cm n ?_;rintro e aE ⟨rfl,U⟩;have u:=i.trans (U.mono i.size);go_wp2_with fail;exact(b).o):G:=h
def GC (h:G:=by
  have r:=h;have p:=(h.alloc Uy).drew;have E:=((h.alloc Uy).alloc Uy).drew;have aI:Hid (∀W:Py,QS m W l a->(Instr.lookup 229 (.map (some m.mS)) (PI e) true).run prog W=.ok (.tuple #[.agg #[PI x.tx,Ph x.kd,Ph x.parts,Ph x.str],PD true]) W):=λW j=>by
   have:=YM m e W j.base.hB;rw[b3] at this;exact this
  exact(d).o):G:=h
def IQ (h:G:=by
  go_wp2_with fail;refine cm ec ?_;rintro j bD ⟨⟨u7,rfl,du⟩,bY⟩;obtain⟨fD,fE,fg⟩:=du.form;subst fg;have ef:=bS.fQ bY;have ee:=dq.trans (Td.of bY (Qe dr));have eg:=Y (fZ bY dp.out);have ed:=Y (fZ bY dm.out);have fh:=U7.kp (λO m j ad p=>Kp.of bY O m j (bR O m j ad p) p) _ _ cp;exact(b).o):G:=h
def rQ (h:G:=by
  rw[q] at aE;obtain⟨ad,aD,al,af,_,ax⟩:=fV aR.out;clear q;go_wp2_with fail;refine cm u ?_;exact(b).o):G:=h
def HR (h:G:=by
  refine l3 ?_;intro j H o;obtain⟨⟨dd,rfl,cG⟩,g,d⟩:=o;have be:=ah.drew.next d;have bH:=g;have cE:=g.lt;have L:=Open.fQ s (((Ap.refl m.R R.heap.size R).drew).next d) p.out;have cJ:=((Ap.refl m.R R.heap.size R).drew).next d;have ba:=cG;obtain⟨bF,bG,cH⟩:=L.cell;clear d;refine b _ _ ?_;exact(f).o):G:=h
def xS (h:G:=by
  have bD:=Y L;clear L;go_wp2_with fail;obtain⟨aY,a1,bK,b2,b1,bf,bh,be,bi⟩:=kb cw.out a8.out aW cR cx (PD n) (Ph o) (Ph on) (PI s);rw[<-a1];exact(b).o):G:=h
def x9 (h:G:=by
  rw[<-F];clear F;refine ug 0 (RX (.pointer c) n) rfl (Or.inl ⟨by kernel_rfl,λt j=>by have aD:=PV j D.out;have ah:=PV j s.out;go_simp⟩) g ?_
  exact(a).o):G:=h
def JZ (h:G:=by
  have b4:j.cell? (Pn wr.heap.size 0)=some (PI a.name):=by simp[World.cell?,E]
  have b2:j.cell? (Pn wr.heap.size 1)=some (Ph a.v.k):=by simp[World.cell?,E]
  have b3:j.cell? (Pn wr.heap.size 2)=some (Ph a.v.n):=by simp[World.cell?,E]
  have b5:j.cell? (Pn wr.heap.size 3)=some (PI a.v.s):=by simp[World.cell?,E]
  exact(b).o):G:=h
def th (h:G:=by
  rintro d k ⟨rfl,f⟩;rw[f];clear f;go_wp2_with fail;obtain⟨ad,M,O,E,L⟩:=info_parts MQ;exact(g).o):G:=h
def vn (h:G:=by
  go_enter func354,ntmps354;go_wp2_with fail;refine cm A ?_;rintro f O ⟨rfl,rfl⟩;go_wp2_with fail;refine cm B ?_;rintro f P ⟨rfl,p⟩;have e:=p;exact(q).o):G:=h
def Ft (h:G:=by
  clear f D bm;obtain⟨M,n⟩:=xE (g++l);obtain⟨N,o⟩:=xE (M++G);rw[<-n,<-o];have b0:M.length<=40000:=by rw[n,List.length_append];omega
  have bZ:N.length<=60000:=by rw[o,List.length_append];omega
  have bo:=Y n;have bn:=Y o;clear n o;go_enter func78,ntmps78;exact(b).o):G:=h
def qr (h:G:=by
  obtain⟨cL,di,cV⟩:=s.cell;obtain⟨dh,uc,cO⟩:=s.shape;subst cO;exact(f).o):G:=h
def xz (h:G:=by
  refine cm (ah.out _ p) ?_;rintro g q ⟨rfl,B⟩;obtain⟨D,C,s⟩:=MF r B;have c:=D;have n:=C;have o:=Y s;clear s;exact(d).o):G:=h
def Ip (h:G:=by
  go_wp2_with fail;refine cm ax ?_;rintro O k ⟨rfl,S⟩;have aK:=Qs P S;have aI:w.grownBy k (some e):=⟨S.os,S.tape,S.output,S.size,λf p _=>S.block f p⟩;have b7:n<=r:=aJB
  have b6:((i:Int) == -1)=false:=by rw[beq_eq_false_iff_ne];omega
  go_wp2_with fail;exact(b).o):G:=h
def Ji (h:G:=by
  clear T;go_wp2_with fail;refine Hg ?_;refine wg 1 (Ph x.kd) rfl (Or.inl ⟨by kernel_rfl,λW ay=>by obtain⟨_,aO,_,_,_,_⟩:=i8 ay;go_simp⟩) b.out ?_
  refine wh 2 (Qr m) b.out ?_;refine wh 3 (Qr m) b.out ?_;refine wh 4 (.func (.func 311) #[Qr m] #[]) b.out ?_;refine Yd 5 λK d=>?_;go_simp;refine l3 ?_;exact(f).o):G:=h
def Iu (h:G:=by
  refine wt 12 (Pm a) ?_;refine wt 13 (PZ a 3) ?_;refine VP 14 ?_;refine wpAny_done Qz ?_ _;go_simp;obtain⟨ae,aD,aE⟩:=Pj bI;obtain⟨aI,aH,bf⟩:=ae.nv;have ak:aI=a:=by simpa[Pm] using aH.symm
  subst ak;have N:=Pj cK;have aO:=bf;have M:=aD;have aQ:=aE;clear aH;go_wp2_with fail;exact(f).o):G:=h
def sQ (h:G:=by
  clear bS cw cr;go_wp2_with fail;refine cm (Pj bG _ cE.out) ?_;rintro k bF ⟨rfl,bv⟩;rw[bv];exact(a).o):G:=h
def IC (h:G:=by
  rw[bX] at L r;obtain⟨ax,aK⟩:=xE ((Px e 0).2.tx);rw[<-aK] at q;have a6:Hid (∀t,PG w2 t->PN 195 #[Pm k,Ph F,PI ax] t λj w'=>j=PY (Ph (g.M.find F ax))/\PG t w'):=λt f=>by
   obtain⟨_,_,_,_,a⟩:=br.fQ f;exact rJ a.hh bU.go.ok bU.go.sm (Qe cn) F ax
  exact(b).o):G:=h
def C0 (h:G:=by
  refine xD ?_;clear d K;have bh:Qj (some f) k c r:=(Qj.of ap (Qe de)).trans bZ;have cO:Ms U k M z r bR:=⟨_,_,_,_,bN⟩;have cA:Kp c r:=λO m j ad s=>aX.kp aJ O m j (Kp.of ap O m j ad s) s;have bL:P9 r (some f) (some vU):=a1.f2 (fZ ap d0) PK;have dZ:=bN.lt;exact(b).o):G:=h
def FT (h:G:=by
  go_enter func296,ntmps296;go_wp2_with fail;rw[<-D.out,<-C];clear C;refine UG 5 λa=>?_;refine iF ?_;refine up 3 N 1 a ?_;refine uk 4 (al.out.2.1) a ?_;refine QX 5 λK d=>?_;go_simp;refine cm (Pj E _ a) ?_;rintro j ak ⟨rfl,L⟩;rw[L];clear L ak;refine ko d ?_;clear d K;exact(R).o):G:=h
def JM (h:G:=by
  rw[<-bI.out,<-a6.out];rw[<-a6.out] at bo b5;rw[<-b2] at bn ax
  rcases T:UW X (Px A 0) ⟨F,B,C⟩ g with ⟨⟨q,u⟩,o⟩
  rw[T] at ax;have cE:=Y bo;have cU:=Y bn;have dR:=f1 bn;have bQ:=Y T;have dO:=Y cw;clear E a7 T ah bD bb bH bo bn b2 cw;exact(b).o):G:=h
def zJ (h:G:=by
  have A:V7 g a b aM c n σ=match g.s (Px a 0) b n σ with
   |((o,.no,M),i)=>if o.ret then ((o,.no,M),i) else ((aM,c,M),i)
   |B=>B:=by
   unfold V7
   cases c with
   |stop=>exact absurd rfl e
   |_=>rfl
  rw[A]
  rcases T:g.s (Px a 0) b n σ with ⟨⟨o,s,M⟩,i⟩
  rw[T] at d;exact(z).o):G:=h
def Jr (h:G:=by
  rw[<-bL];have b7:=Y ce;rw[<-bL] at b7;have aX:=Y bP;have a7:=Y bS;have cj:=Y bQ;have dJ:=bK;clear B bD bx bF bE al bP bS bQ cX E aT aU ce bL cV bJ bK dJ af;go_enter func300,ntmps300;go_wp2_with fail;rw[<-dN.out,<-dO.out,<-dP.out,<-dM.out,<-dQ.out];exact(aI).o):G:=h
def x1 (h:G:=by
  rw[<-N.out,<-a6.out];rw[<-a6.out] at bo bH;rw[<-b2] at bn ax;rw[T] at ax;have cE:=Y bo;have cU:=Y bn;have bQ:=f1 bn;exact(b).o):G:=h
def zw (h:G:=by
  have e:=h.q Qh;have o:=e.iv.gv b.scope (-1) (own a);have A:=o.iv.ho (h.er.2.up o.ex.ob) σ.gu a.2.tx 0;have d:=o.trans A;have s:Po { b with scope:=σ.gu } ((σ.gv b.scope (-1) (own a)).ho σ.gu a.2.tx 0 v):=by
   refine Po.up (σ:=σ.gv b.scope (-1) (own a)) ?_ A.ex;exact CJ
  exact(z).o):G:=h
def tm (h:G:=by
  rw[cL] at dq;have dp:=Y cL;clear cL;go_wp2_with fail;refine UG 11 λa=>?_;refine zll ?_;exact(b).o):G:=h
def DR (h:G:=by
  rw[<-be] at s F L;rw[<-bf] at s;refine sn ?_;clear be bf;have c:=UL m V4 a8 z e F M;go_wp2_with fail;refine cm c ?_;rintro j a ⟨rfl,H⟩;have n:=F.fQ H;have N:=L.next (Ap.of H);replace s:=Y (Open.fQ s (Ap.of H) p.out);clear H;exact(f).o):G:=h
def AL (h:G:=by
  have U:b.heap[w.heap.size+1]?=some (Qb #[Rz,PD false] 100):=by rw[n,V3 Pv];exact Pj dv
  have o:=Y H;have dq:Hid (w.heap.size+2<=b.heap.size):=by show _<=_;omega
  have ae:=Y u;have dE:=Y U;clear n br u U bX dG bW dF bR dx dz dC du;exact(a).o):G:=h
def AE (h:G:=by
  have X:∀{listed:Array Bool}{a:Nat}{d:Oper},b ∈ Region.ready b4 bj listed->(∀c ∈ d.after,Region.f0 b4 c=true->listed.getD c.on false=true)->∀c ∈ d.after,Region.f0 b4 c=true->c.on≠b:=by
   intro listed a d e m c L I q;exact CQ
  intro k;exact(A).o):G:=h
def II (h:G:=by
  obtain⟨bx,al⟩:=xH (w.alloc (.cells #[Ph 0,Ph 0,QB] 65));have o:PG w bx:=by rw[al.out];exact QK
  obtain⟨N,C⟩:=xE w.heap.size;have aI:bx.heap[N]?=some (Qb #[Ph 0,Ph 0,QB] 65):=by rw[al.out,C];exact Pz _ _
  have ax:w.heap.size<=N:=Pv;exact(b).o):G:=h
def JR (h:G:=by
  have af:=X9;have m:=Y m;have HP:=Y HP
  go_enter_defers func34,ntmps34
  go_wp2_with fail;refine cm m.out ?_;rintro f i ⟨c,rfl,I,H,w,o⟩;have T:=HP.out c i I w;have U:=Y H;clear I H;go_wp2_with fail;refine cm T ?_;intro f b C;exact(k).o):G:=h
def vd (h:G:=by
  have bJ:=f1 bb;have bx:=Y be;have aT:=Y aE;have ay:=Y aI;have cH:=Y aH;have bF:=Y ap;have bK:=f1 ap;exact(a).o):G:=h
def tq (h:G:=by
  clear aY ae ad h D N H al ap cM z u o;go_enter func48,ntmps48;go_wp2_with fail;exact(b).o):G:=h
def uL (h:G:=by
  have aW:=cg.lt;obtain⟨L,cz⟩:=xH ((w.alloc (.cells #[Ph e,Ph n,PD false,.pointer F] 73)).alloc (.cells #[Ph 0,Ph 0,QB] 65));exact(b).o):G:=h
def ED (h:G:=by
  rintro wt eo p r;have aD:=Y (r.fr.rest N _ _ ek.out PK (λj=>ej (by cases j;rfl)))
  have cM:Qj none k w wt:=Qj.down (el.up.trans r.fr) ei;have cV:=r.ms;have A:=r.er;have aX:=r.la;obtain⟨en,dk,dF,dL,dZ,eg,ep⟩:=Ql aD.out;clear E;exact(b).o):G:=h
def FM (h:G:=by
  replace p:=QT.fQ (λk i _=>d.block k i.2 (by have aZ:=Pj P;have aY:=i.1;omega)) _ _ p
  have c:=Zj H.heap.size al ap af ad ae;go_wp2_with fail;refine cm c ?_;rintro j s ⟨rfl,aR,w⟩;have ah:=ak.trans ((Ap.of w).mono S.size);exact(f).o):G:=h
def F8 (h:G:=by
  rcases T:X.v (Px e 0) ⟨F,B,C⟩ g with ⟨⟨o,u⟩,be⟩
  have bZ:=Y (λt (ak:Ms U k M z t g) (f:Qj none k w2 t)=>ah t b2 n ak (bn.kp f.Ve));rw[T] at bZ;rw[<-D] at bZ;obtain⟨cK,bY⟩:=xH (oD ((o,u),be));rw[<-bY.out];clear T;exact(b).o):G:=h
def tz (h:G:=by
  have b1:i=e.length:=Pv;subst b1;have aW:¬ (e.length:Int)<(e.length:Int):=Pv;exact(b).o):G:=h
def tX (h:G:=by
  go_enter func36,ntmps36;go_wp2_with fail;refine cm g ?_;rintro j aD ⟨rfl,z,i⟩;exact(b).o):G:=h
def Km (h:G:=by
  obtain⟨aM,aK,aL,aE,aJ⟩:=info_parts q4;obtain⟨aO,aQ⟩:=b.hh.at_ 6 _ rfl;have aI:=b.lt;obtain⟨E,H,N⟩:=P7 b.ow;have S:=b.ow;have T:=Y l;obtain⟨m,P⟩:=xH c.QL.length;rw[<-P.out] at S I N;clear l;subst N;exact(O).o):G:=h
def zn (h:G:=by
  go_wp2_with fail;refine cm (Pj aT j L.out) ?_;rintro c bn ⟨rfl,bm⟩;have A:=Y (L.out.trans (bm.mono L.out.size));exact(b).o):G:=h
def zj (h:G:=by
  have z:PG w o:=by rw[A];exact QK.alloc Qh _
  obtain⟨H,bx⟩:=xE w.heap.size;obtain⟨N,bq⟩:=xE (w.heap.size+1);exact(b).o):G:=h
def v8 (h:G:=by
  have m:=Y (fZ e M.out);have N:=r.trans (e.mono r.size);obtain⟨ax,ap,au,ay,aD,aE,aH⟩:=Ql m.out;exact(j).o):G:=h
def Ki (h:G:=by
  have eO:=bQ;have d9:=Y (fZ dj dr.out);have eR:=cB.fQ dj;have eP:=dJ.trans (Qj.of (L:=none) dj (Qe dq));obtain⟨ci,dH⟩:=xE d7.1;rw[<-dH];have eQ:=Y dH;clear dH;obtain⟨u0,u1,u2,fd,fe,fg,fh⟩:=Ql d9.out;exact(b).o):G:=h
def xw (h:G:=by
  refine cm (Pj dd _ (cO) cA (bL)) ?_;rintro j aR ⟨⟨p,rfl,aI⟩,bz,bf,bA⟩;refine ko d ?_;clear d K;exact(b).o):G:=h
def Bv (h:G:=by
  rw[r.out] at c;go_wp2_with fail;refine cm c ?_;intro j M o;obtain⟨⟨bA,rfl,I,rfl,bi⟩,b,d⟩:=o;have aL:=E.next d;have bj:=Y (yI B E.size d A.out bi);have bz:=KV.fQ B d A.out;have bx:=b.lt;exact(f).o):G:=h
def uH (h:G:=by
  refine cm (i.hr1 _ S) ?_;rintro e bm ⟨rfl,bn⟩;have z:PG c bm:=S.trans (bn.mono S.size);go_wp2_with fail;exact(b).o):G:=h
def yj (h:G:=by
  refine cm (i.Mj _ z) ?_;rintro e bo ⟨rfl,bq⟩;have k:PG c bo:=z.trans (bq.mono z.size);go_wp2_with fail;exact(b).o):G:=h
def FH (h:G:=by
  have aL:=F 4 _ rfl;rw[aJ] at aL;have I:=ae.fQ f;have bh:=ad.trans (f.mono ad.size);have M:k.heap[w.heap.size]?=some (Qb #[PI e] 9):=by
   refine Ez (w:=w) (W:=k) ?_;rw[<-p.out];exact f.mono (by rw[p.out];simp)
  exact(b).o):G:=h
def vR (h:G:=by
  rintro wz D p o;have bY:=o.ms.lt;have ae:Qj none k w wz:=bF.trans o.fr;have aK:=Y (o.fr.f2 bb.out PK);exact(b).o):G:=h
def D2 (h:G:=by
  refine d.out _ _ (λ_=>c8) ?_;clear d K;refine QX 8 λK d=>?_;go_simp;refine cm (Pj cy _ A) ?_;rintro j r ⟨rfl,eo,en,bN,aX⟩;have aJ:=cE.fQ A;have bZ:=aX.jy (L:=some f) aJ;have a1:=aX.jy (L:=none) aJ;exact(b).o):G:=h
def Kz (h:G:=by
  intro j H o;obtain⟨⟨be,rfl,au,rfl,a1⟩,b,d⟩:=o;have S:=n.next d;have R:=b;have a6:=Ul a1 n.size;have p:=QT.mono (J:=λk=>m.heap.size<=k/\k<H.heap.size) (λ_ i aQ=>⟨i,aQ⟩) _ _ a6;exact(f).o):G:=h
def uw (h:G:=by
  obtain⟨bI,cG,dH,aO,ay,cH,_⟩:=cB.Zm (a:=1) Pv;rw[bL,<-a6.out] at aO;obtain⟨dY,cK⟩:=xE bI.p;exact(b).o):G:=h
def Ha (h:G:=by
  rintro a A ⟨y,rfl,s,p⟩;have u:=Y s;have l:=Y p;go_wp2_with fail;refine(akX x y _ _ _ (i.out.fQ l.out) u.out).mono ?_;rintro a z ⟨f,rfl,q,r⟩;have j:=Y q;have v:=Y r;go_wp2;go_ret;exact(k).o):G:=h
def ur (h:G:=by
  rw[T] at c l;simp only[Qy] at l;clear T;go_wp2_with fail;refine XO ?_;intro j bL o;obtain⟨rfl,d⟩:=o;exact(f).o):G:=h
def uT (h:G:=by
  have aQ:Hid (∀W,PG w W->PN 102 #[Pm g] W λd f=>d=PY (PD true)/\f=W):=λW i=>uD
  exact(b).o):G:=h
def z1 (h:G:=by
  subst s;have df:p=RI:=q.er;subst df;have dc:=cR.cells.2.1;have dv:=cR.cells.1;rw[di.out,<-a6.out] at dc;rw[<-a6.out] at dv;have dX:=Y dc;have dW:=Y (f7 q.v);clear dc;have dq:=Y (λt=>Yr e t);exact(b).o):G:=h
def Cj (h:G:=by
  obtain⟨bx,bz,bq,bv,bf⟩:=h.c;obtain⟨g,p⟩:=xH (w.alloc (.cells #[PI e] 9));have br:g.cell? (Pn w.heap.size 0)=some (PI e):=by rw[p.out];simp
  have ad:PG w g:=by rw[p.out];exact QK
  have ae:=h.fQ ad;exact(b).o):G:=h
def yz (h:G:=by
  have O:=bz.next (Ap.of u);have M:=ak.fQ u;replace r:=Y (Uc r (Ap.of u) p.out);exact(f).o):G:=h
def Fs (h:G:=by
  subst d;clear T a n L;go_enter func321,ntmps321;go_wp2_with fail;refine cm HP ?_;rintro c q ⟨e,rfl,u,p⟩;have H:=u;have b:=p;go_wp2_with fail;refine cm (Pj F e q H.nt) ?_;rintro c ae ⟨o,E⟩;exact(N).o):G:=h
def wR (h:G:=by
  have A:=aX;have aJ:=bU;have bE:=Y cq;have ae:=Y a7;have ak:=bX;have bZ:=aX.lt;clear cq a7;exact(b).o):G:=h
def uI (h:G:=by
  go_wp2_with fail;obtain⟨bh,a1,aY,aH,aE,bA,bf,bi⟩:=i1 aO.out a8.out aW bJ L (Ph 0) (Ph 0) (QB);exact(b).o):G:=h
def wc (h:G:=by
  go_wp2_with fail;obtain⟨bh,a1,b8,bR,be,bA,bf,bi⟩:=i1 bE.out a8.out aW cq dD (Ph 0) (Ph 0) (QB);exact(b).o):G:=h
def B7 (h:G:=by
  replace p:=QT.fQ (λk i _=>w.block k i.2) _ _ p;obtain⟨A,rfl,aO⟩:=aR.nv;have X:=QT.mono (J:=λk=>gz m.heap.size k/\H.heap.size<=k) (λ_ i _=>⟨Nat.le_trans S.size i,i⟩) _ _ aO;exact(f).o):G:=h
def F6 (h:G:=by
  have c:Hid _:=bY wr g k v;rw[ad] at c;clear ad;have bz:((p.length:Int)==8)=true:=beq_iff_eq.2 Pv;have cp:=Y E;clear E;go_wp2_with fail;refine XO ?_;rintro j aL ⟨rfl,X⟩;have ae:=A.next (Ap.of X);exact(f).o):G:=h
def DV (h:G:=by
  have r:=(Below.refl w.heap.size w).alloc Qq (.cells #[Ph 0,Ph 0,QB] 65);have M:=Y (Pz w (.cells #[Ph 0,Ph 0,QB] 65));obtain⟨w2,l⟩:=xH (w.alloc (.cells #[Ph 0,Ph 0,QB] 65));rw[<-l.out] at M r;exact(j).o):G:=h
def EI (h:G:=by
  obtain⟨M,b8⟩:=xE (RN (Qn m.l l).tx);rw[<-b8] at e;have c:=te m w l q X ck.out;rw[<-b8] at c;clear b8;go_wp2_with fail;refine cm c ?_;rintro j wk ⟨rfl,b6,cG⟩;have bh:=U.next cG;exact(f).o):G:=h
def FP (h:G:=by
  have b1:i=L.length:=Pv;subst b1;have aW:¬ (L.length:Int)<(L.length:Int):=Pv;obtain⟨bb,bA,bv,br,_,bz⟩:=fV bE.out;obtain⟨fI,fG,fH,fJ,fK,fL,fM,fF,fN⟩:=SA ae.out;go_wp2_with fail;exact(b).o):G:=h
def wE (h:G:=by
  have u:p.heap[w.heap.size]?=some (Qb #[.pointer c,PD true] 100):=by rw[X.block _ Pv];exact Pj ae
  exact(a).o):G:=h
def EB (h:G:=by
  have aO:=(Qj.of (L:=none) a (Qe bP)).trans ap;have bN:=Y (aO.f2 bG.out PK);have dd:=bF.trans aO;obtain⟨H,ae⟩:=xH aH.1.1;rw[<-ae.out];obtain⟨u0,u1,u2,bK,bL,bQ,bS⟩:=Ql bN.out;exact(b).o):G:=h
def JF (h:G:=by
  have cn:=Y aH;have da:=Y T;have dJ:=Y aL;have dN:=Y af;have di:=Y db;clear E a7 aH T ah bD bb bH bo bn b2 aL af db;go_enter func258,ntmps258;go_wp2_with fail;refine iJ ?_;clear bx bq;exact(b).o):G:=h
def Ao (h:G:=by
  have bH:Hid (w.heap.size<=E):=by show _<=_;omega
  clear af ad aJ u bn bo bm bi ba bG;go_wp2_with fail;have D:Hid (wz.cell? (Pn w.heap.size 0)=some (QI E)):=by show _=_;rw[cell_of a7.out];rfl
  exact(a).o):G:=h
def Es (h:G:=by
  subst s;have aR:p=RI:=aK;subst aR;have cp:=Pj dO q o bQ.out;have bL:=cq.cells.2.2.1;have dN:=cq.cells.1;rw[<-a6.out] at bL dN;obtain⟨ae,bN⟩:=xE A.2.tx;rw[<-bN] at bL;have bU:=Y bL;exact(b).o):G:=h
def Cr (h:G:=by
  have aR:=Y (ay.f2 o.out PK);have S:=bF.trans ay;have ba:=L.lt;have D:=aX.kp ay.Ve;have O:=D.cells.1;have aE:=D.cells.2.1;have u:=Pj m wz L D;rw[<-s.out] at O aE u;exact(b).o):G:=h
def zq (h:G:=by
  have dt:i<q.length:=Pv;have bW:=(U7.get _ _ fh i ax dt).kp ak;obtain⟨ea,_,a1,_⟩:=bW.cells;have aW:(i:Int)<(L.length:Int):=Pv;obtain⟨x,D⟩:=xE ((q[i]).2.tx);rw[<-D] at a1;exact(b).o):G:=h
def Js (h:G:=by
  have X:news=[]:=List.length_eq_zero_iff.1 (by rw[d.1]);subst X;obtain⟨n,s,rfl⟩:=P7 d;have m:=h c a (by rw[List.append_nil];exact k) ⟨rfl,rfl,rfl,Qq,λ_ _ _=>rfl⟩
  exact(F).o):G:=h
def Kb (h:G:=by
  obtain⟨d,aT,b8,rfl,rfl,ad,D⟩:=hrel;have N:wr.heap[s]?=some (Qb #[PI m] 9):=(ad.block s bG (λO=>bE (Option.some.inj O))).trans bF.out;have aR:e<wr.heap.size:=(D.lt e rfl).2;exact(b).o):G:=h
def EK (h:G:=by
  have aU:=Y au;clear U ay v au af F N I A;go_wp2_with fail;refine cm ah ?_;rintro O j ⟨rfl,l⟩;have ce:wr.heap.size+1<=j.heap.size:=by have:=l.size;simpa using this
  exact(b).o):G:=h
def Jo (h:G:=by
  refine Ud ?_ _;have b1:(Instr.lookup 80 (.map (some M)) (Pm al) true).run prog p=.ok (.tuple #[(Ph (i:Int)),PD true]) p:=by
   rw[u];unfold sM;rw[bi.out];rfl
  clear u;go_simp;go_wp2_with fail;exact(b).o):G:=h
def Hq (h:G:=by
  rw[<-aD] at ap;have bK:Hid (aJ.fS.length=0):=by
   show _=_
   rw[aD];rfl
  have cn:Hid (aJ.kd=M):=by
   show _=_
   rw[aD];rfl
  have cw:=Y aD;obtain⟨g,u0,cU,bJ,R⟩:=ap.opens;exact(f).o):G:=h
def B8 (h:G:=by
  rw[<-C];have aE:∀i,i≠w.heap.size->b.heap[i]?=p.heap[i]?:=λi aJ=>by rw[C,V3 aJ,V3 aJ]
  have d2:b.heap.size=p.heap.size:=by rw[C];simp
  have dU:=Pj dS;exact(a).o):G:=h
def F4 (h:G:=by
  have b7:=Y T;have dj:=Y aL;have dq:=Y af;have dv:=ba.fQ aI;clear E a7 T ah b8 bb cg bo bn b2 aL af;go_enter func111,ntmps111;go_wp2_with fail;refine iJ ?_;clear bx bq;exact(b).o):G:=h
def Gr (h:G:=by
  go_enter func262,ntmps262;go_wp2_with fail;refine iJ ?_;clear bx bq;refine cm e ?_;rintro j aR ⟨⟨p,rfl,aK⟩,ci,aD⟩;have bI:=Y (aD.f2 bG.out PK);have cL:=bF.trans aD;exact(b).o):G:=h
def F2 (h:G:=by
  have c:=YN f;have g:((lF (fx a d)).filter (λo=>decide (o.parts<2))).isSome=true:=by
   unfold iG at f;have n:=Option.filter_eq_some_iff.1 f;rw[n.1];simp[Option.filter,c.2]
  exact(i).o):G:=h
def JJ (h:G:=by
  have l:Hid ((B g k).bind (λw aT=>if fx a.l aT=shut then PR.ok (p++[w]) (aT+1) else (Qx a.l rf aT).bind λ_ i2=>UD a.l shut begins (B g) i (p++[w]) i2)=I):=Pj D;exact(f).o):G:=h
def JL (h:G:=by
  go_enter func268,ntmps268;go_wp2_with fail;rw[<-H.out,<-al.out];refine cm F ?_;rintro j aO ⟨rfl,ak⟩;rw[ak];clear ak aO;go_wp2_with fail;refine UG 6 λa=>?_;refine iF ?_;exact(p).o):G:=h
def B5 (h:G:=by
  have cn:=bH.new ax (tN bE.out _);have a7:=cZ.kp (λO m j ad cw=>ax.rest O m j ad (by rcases cw with rfl|rfl <;> decide));rw[<-aT] at D ae cn a7 ⊢;have cY:=Y ae;exact(b).o):G:=h
def FR (h:G:=by
  have aU:Po { b with scope:=i.gu } (i.gv b.scope aM (-2)):=⟨by show (0:Int)<=(i.M.PL.length:Int);omega,by show (i.M.PL.length:Int)<_;simp[St.gv,Mo.scope];omega⟩
  exact(U).o):G:=h
def EU (h:G:=by
  have cq:k<r:=Pj bX g k w r bZ T;rw[T] at c l;simp only[gj] at l;clear T;go_wp2_with fail;refine XO ?_;intro j L o;obtain⟨⟨cr,rfl,M,rfl,bD⟩,b,d⟩:=o;exact(f).o):G:=h
def Ec (h:G:=by
  refine cm (Ub m _ l a g.drew) ?_;rintro f A ⟨rfl,q⟩;have c:=g.drew.fQ q;have j:=p.trans ((RV.drew.trans q).mono p.size);refine rX ?_;clear b K;exact(d).o):G:=h
def Iw (h:G:=by
  have bh{G}(h:G:=by
  obtain⟨_,_,_,C,_⟩:=gx q;obtain⟨br,uc,bv⟩:=VG n;subst bv;exact(b).o):=Pq h;exact tI):G:=h
def Gj (h:G:=by
  obtain⟨aD,M,I⟩:=List.findIdx?_eq_some_iff_getElem.1 A;have S:=Y M;have T:=Y I;have E:=Y r;have F:=Y (World.block_lt_of_cell? w _ r);clear r A M I;exact(b).o):G:=h
def Co (h:G:=by
  rw[<-bP,<-be,cp] at dd;have dD:Hid (aO=re u b6 b2):=by
   show aO=_
   have h:=Pj dC;rw[<-bP,<-be,cp] at h;exact h
  have bD:=Y bb;have eL:=f1 bb;exact(b).o):G:=h
def Ek (h:G:=by
  have c:=aJ.pr (x.str+1) Pv Pv ((n.setCell (Pn m.R 1) (Ph ((k:Int)+1))).alloc (.cells #[PI x.tx,Ph x.kd,Ph x.parts,Ph x.str] 275)).drew g (k+1) _ rfl (by rw[T];nofun) bA
  exact(f).o):G:=h
def zW (h:G:=by
  refine rX ?_;clear b K;refine wg 6 (.tuple #[.agg #[QB,Ph 0,Ph 0,Ph 0],PD false]) rfl (Or.inl ⟨by kernel_rfl,λW j=>by have ak:=aI.out W j;go_simp⟩) c ?_
  refine xi ?_;exact(d).o):G:=h
def z7 (h:G:=by
  have A:n=d+1:=Pv;subst A;have T:i<g.length:=by rw[<-q.out];exact M
  have I:(Lm g i d).length=d+1:=by rw[Jg T (by rw[<-q.out];omega),q.out]
  exact(b).o):G:=h
def Kt (h:G:=by
  have HP:=Y C;clear C;go_wp2_with fail;refine(aeL _ _ _ (by unfold maxLen;simp;omega) (by unfold maxLen;omega)).mono ?_
  rw[HP.out];rintro X af ⟨rfl,rfl⟩;go_wp2_with fail;exact(F).o):G:=h
def Cz (h:G:=by
  rw[<-cy] at cE b5 d4 bW ⊢;rw[<-bI.out] at cG d5 cB bX;rw[<-cC.out] at bU;have cj:=Y (PV aI cE);have bE:=Y (PV aI cG);have dg:=Y (PV aI bU);exact(b).o):G:=h
def J_ (h:G:=by
  have c:=Sp ap ((n.setCell (Pn m.R 1) (Ph ((l:Int)+1))).alloc (.cells #[PI x.tx,Ph x.kd,Ph x.parts,Ph x.str] 275)).drew k (l+1) ax (by rw[T];nofun)
  rw[T] at c e;exact(f).o):G:=h
def Gn (h:G:=by
  have H:o.heap[cJ]?=some (pj ⟨F,B,C⟩ n)/\o.cell? (Pn ae 1)=some (PI u):=⟨af.f2 ax.out.1 PK,af.Ve.YV ax.out.2 bN.out⟩;refine tD ?_;clear d K;exact(b).o):G:=h
def Kc (h:G:=by
  have bD:=Y L;clear L aO;go_wp2_with fail;obtain⟨aY,a1,bK,b2,b1,bf,bh,be,bi⟩:=kb cw.out a8.out aW cR cx (PD false) (Ph aH) (Ph ay) (PI aE);rw[<-a1];exact(b).o):G:=h
def Kl (h:G:=by
  refine cm (Pj cy _ ap) ?_;rintro j r ⟨rfl,eo,en,bN,aX⟩;have aJ:=cE.fQ ap;have bZ:=aX.jy (L:=some f) aJ;have a1:=aX.jy (L:=none) aJ;exact(b).o):G:=h
def EQ (h:G:=by
  refine wg 6 (.tuple #[.agg #[PI x.tx,Ph x.kd,Ph x.parts,Ph x.str],PD true]) rfl (Or.inl ⟨by kernel_rfl,λW k=>by have s:=aE.out W k;go_simp⟩) c ?_
  refine Jz ?_;exact(d).o):G:=h
def Cd (h:G:=by
  rw[<-C];have d5:PG w n:=by rw[C];exact cE.out.setCell (p:=(Pn w.heap.size 1)) Qq _
  have br:n.heap.size=w.heap.size+2:=by rw[C];simpa using Pj dD
  exact(a).o):G:=h
def IB (h:G:=by
  rw[<-n];have H:PG w b:=by rw[n];exact cE.out.setCell (p:=(Pn w.heap.size 1)) Qq _
  have br:b.heap.size=w.heap.size+2:=by rw[n];simpa using Pj dD
  exact(a).o):G:=h
def A1 (h:G:=by
  have cn:aR.heap[wr.heap.size]?=some (Qb #[Ph 0,Ph 0,QB] 65):=ap.f2 (Pz _ _) PK;obtain⟨eZ,eV,e0,eW,eX,eY,e1⟩:=Ql cn;refine o3 ?_;refine nR ?_;exact(b).o):G:=h
def FZ (h:G:=by
  go_enter func110,ntmps110;go_wp2_with fail;refine iJ ?_;clear bx bq;refine cm cE ?_;rintro j a1 ⟨⟨d1,rfl,T⟩,u⟩;obtain⟨dZ,d0,dJ⟩:=P7 T;subst dJ;exact(b).o):G:=h
def Bi (h:G:=by
  have c:=Zt 348 349 (hY m.l) (oN m.l k) TT U1 (NF m) (avn a8) Tw aGV PK PK (La bD) k.fuel R.drew q A _ rfl (by rw[T];nofun) bE.drew
  exact(f).o):G:=h
def JT (h:G:=by
  go_enter func154,ntmps154;have c:=Qp m mM w l e h PK;rw[b2] at c;go_wp2_with fail;refine cm c ?_;intro j cQ o;obtain⟨⟨af,rfl,rfl⟩,q,d⟩:=o;exact(f).o):G:=h
def H2 (h:G:=by
  refine QX 4 λK d=>?_;go_simp;refine cm (Pj dq _) ?_;rintro j dh ⟨rfl,dV⟩;have o:PG wz dh:=a.trans dV;refine d.out _ _ (λ_=>o) ?_;clear d K;exact(b).o):G:=h
def Kx (h:G:=by
  go_wp2_with fail;refine iJ ?_;clear bx bq;refine UG 6 λa=>?_;refine kT ?_;refine uk 4 ew.out a ?_;refine kx 5 dh.out a ?_;refine QX 6 λK d=>?_;go_simp;refine mp ?_;exact(b).o):G:=h
def iF (i:t)(h:Kk t->G:=by
  intro aU;refine up 0 k 0 a ?_;refine up 1 k 0 a ?_;refine up 2 k 0 a ?_;exact aU.o
 ):G:=h ⟨i⟩
def l2 (i:t)(h:Kk t->G:=by
  intro aU;refine wp_region_any Qz ?_;change wpAny _ _ _ _ _ _ _ (World.drew _);refine wt 0 (Pm g) ?_;refine wt 1 (Pm g) ?_;refine wt 2 (Pm g) ?_;refine wt 3 (PZ g 3) ?_;exact aU.o
 ):G:=h ⟨i⟩
def kT (i:t)(h:Kk t->G:=by
  intro aU;refine up 0 k 0 a ?_;refine up 1 al 0 a ?_;refine up 2 al 0 a ?_;refine up 3 al 3 a ?_;exact aU.o
 ):G:=h ⟨i⟩
def zld (i:t)(h:Kk t->G:=by
  intro aU;refine wh 7 (.tuple #[.nilFunc,PD false]) g ?_;refine wh 8 .nilFunc g ?_;refine wh 9 (PD false) g ?_;refine wh 10 .nilFunc g ?_;refine wh 11 (PD false) g ?_;refine wpAnyH_done Qz ?_ _;go_simp;exact aU.o
 ):G:=h ⟨i⟩
def oV (i:t)(h:Kk t->G:=by
  intro aU;refine wp_region_held (S:=λW=>QS m W l a) Qz ?_;change wpAnyH _ _ _ _ _ _ _ _ (World.drew _);exact aU.o
 ):G:=h ⟨i⟩
def zlf (i:t)(h:Kk t->G:=by
  intro aU;rw[<-eh.out];refine wp_region_held (S:=λt=>t=F.drew) Qz ?_;change wpAnyH _ _ _ _ _ _ _ _ (World.drew _);refine wh 0 (Pm e) rfl ?_;refine wh 1 (Pm e) rfl ?_;refine wh 2 (PZ e 3) rfl ?_;exact aU.o
 ):G:=h ⟨i⟩
def Jz (i:t)(h:Kk t->G:=by
  intro aU;refine wh 7 (.tuple #[.agg #[PI x.tx,Ph x.kd,Ph x.parts,Ph x.str],PD true]) c ?_;refine wh 8 (.agg #[PI x.tx,Ph x.kd,Ph x.parts,Ph x.str]) c ?_;refine wh 9 (PD true) c ?_;exact aU.o
 ):G:=h ⟨i⟩
def iJ (i:t)(h:Kk t->G:=by
  intro aU;rw[<-cz.out,<-bq,<-bx];exact aU.o
 ):G:=h ⟨i⟩
def Bz (i:t)(h:Kk t->G:=by
  intro aU;refine uh 1 (QI f) g ?_;refine uh 2 (QI f) g ?_;refine uh 3 (PZ f 0) g ?_;exact aU.o
 ):G:=h ⟨i⟩
def um (i:t)(h:Kk t->G:=by
  intro aU;refine uh 6 undef (a) ?_ (aZ:=Or.inr ⟨by kernel_rfl,rfl⟩);refine uh 7 undef (a) ?_ (aZ:=Or.inr ⟨by kernel_rfl,rfl⟩);refine uh 8 undef (a) ?_ (aZ:=Or.inr ⟨by kernel_rfl,rfl⟩);refine uh 9 undef (a) ?_ (aZ:=Or.inr ⟨by kernel_rfl,rfl⟩);refine uh 10 undef (a) ?_ (aZ:=Or.inr ⟨by kernel_rfl,rfl⟩);exact aU.o
 ):G:=h ⟨i⟩
def Hg (i:t)(h:Kk t->G:=by
  intro aU;refine wp_region_held (S:=λW=>W.heap[n.heap.size]?=some (.cells #[PI x.tx,Ph x.kd,Ph x.parts,Ph x.str] 275)) Qz ?_;change wpAnyH _ _ _ _ _ _ _ _ (World.drew _);refine wh 0 (PZ n.heap.size 1) b.out ?_;exact aU.o
 ):G:=h ⟨i⟩
def zll (i:t)(h:Kk t->G:=by
  intro aU;refine uh 0 RI (a) ?_;refine uh 1 (PD false) (a) ?_;refine uh 2 (PD false) (a) ?_;refine jY 3 dW.out a ?_;refine up 5 al 0 a ?_;refine up 6 al 0 a ?_;refine up 7 al 0 a ?_;refine uk 8 dX.out a ?_;exact aU.o
 ):G:=h ⟨i⟩
def pA (i:t)(h:Kk t->G:=by
  intro aU;refine wp_region_any Qz ?_;change wpAny _ _ _ _ _ _ _ (World.drew _);exact aU.o
 ):G:=h ⟨i⟩
def HK (i:t)(h:Kk t->G:=by
  intro aU;refine uh 0 (QI f) g ?_;refine uh 1 (Pm e) g ?_;refine uh 2 (Pm e) g ?_;refine uh 3 (PZ e 3) g ?_;exact aU.o
 ):G:=h ⟨i⟩
def M9 (i:t)(h:Kk t->G:=by
  intro aU;refine wh 12 (Pm L) rfl ?_;refine wh 13 (Pm R) rfl ?_;refine wpAnyH_done Qz ?_ _;go_simp;rw[<-ei.out];exact aU.o
 ):G:=h ⟨i⟩
def kS (i:t)(h:Kk t->G:=by
  intro aU;refine d.out _ _ (λ_=>QK.drew) ?_;exact aU.o
 ):G:=h ⟨i⟩
def o3 (i:t)(h:Kk t->G:=by
  intro aU;refine uz 9 (.tuple #[(vA e),p]) ?_;refine uz 10 (vA e) ?_;refine uz 11 p ?_;exact aU.o
 ):G:=h ⟨i⟩
def rT (i:t)(h:Kk t->G:=by
  intro aU;refine uk 4 cE.out a ?_;refine up 5 cC 0 a ?_;refine uk 6 cU.out a ?_;refine kx 7 bE.out a ?_;exact aU.o
 ):G:=h ⟨i⟩
def xi (i:t)(h:Kk t->G:=by
  intro aU;refine wh 7 (.tuple #[.agg #[QB,Ph 0,Ph 0,Ph 0],PD false]) c ?_;refine wh 8 (.agg #[QB,Ph 0,Ph 0,Ph 0]) c ?_;refine wh 9 (PD false) c ?_;exact aU.o
 ):G:=h ⟨i⟩
def DW (i:t)(h:Kk t->G:=by
  intro aU;refine wh 0 (Qr m) X.drew ?_;refine wh 1 (Qr m) X.drew ?_;refine wh 2 (PZ m.R 5) X.drew ?_;exact aU.o
 ):G:=h ⟨i⟩
def sn (i:t)(h:Kk t->G:=by
  intro aU;rw[show (bm.alloc (.cells #[Pm b1] 22)).heap.size=g by rw[bf];simp,<-be]
  exact aU.o
 ):G:=h ⟨i⟩
def mp (i:t)(h:Kk t->G:=by
  intro aU;refine cm (Pj ax _ a) ?_;exact aU.o
 ):G:=h ⟨i⟩
def p1 (i:t)(h:Kk t->G:=by
  intro aU;refine wt 5 (Qr m) ?_;refine wt 6 (Qr m) ?_;refine wt 7 (.func (.func 224) #[Qr m] #[]) ?_;exact aU.o
 ):G:=h ⟨i⟩
def nR (i:t)(h:Kk t->G:=by
  intro aU;refine VH 13 ?_;refine uz 14 p ?_;refine Ud ?_ _;go_simp;exact aU.o
 ):G:=h ⟨i⟩
def nJ (H:t)(h:Kk t->G:=by
  intro F;refine(if_neg (show ¬ 20000<g.steps+1 by omega)).trans ?_;exact F.o
 ):G:=h ⟨H⟩
def zlz (i:t)(h:Kk t->G:=by
  intro aU;refine up 0 A 0 a ?_;refine up 1 A 0 a ?_;refine up 2 A 0 a ?_;refine uk 3 dp.out a ?_;refine uh 4 (PD true) (a) ?_;refine uh 5 (PD true) (a) ?_;refine up 6 k 0 a ?_;refine up 7 k 0 a ?_;refine up 8 k 0 a ?_;refine up 9 cJ 0 a ?_;refine uk 10 (cH.out.1) a ?_;refine up 11 A 0 a ?_;refine up 12 A 0 a ?_;refine up 13 A 1 a ?_;refine uk 14 dq.out a ?_;exact aU.o
 ):G:=h ⟨i⟩
def nz (i:t)(h:Kk t->G:=by
  intro aU;refine d.out _ _ (λk=>by cases k) ?_;exact aU.o
 ):G:=h ⟨i⟩
def l6 (i:t)(h:Kk t->G:=by
  intro aU;change wpAnyH _ _ _ _ _ _ _ _ (World.drew _);exact aU.o
 ):G:=h ⟨i⟩
def tE (i:t)(h:Kk t->G:=by
  intro aU;refine uh 7 (.slice (some (Pn cx 0)) (P.length+1) cap4) g ?_;refine uh 8 (Pm R) g ?_;refine uh 11 (PZ w.heap.size 1) g ?_;exact aU.o
 ):G:=h ⟨i⟩
def aJK (i:t)(h:Kk t->G:=by
  intro aU;refine uh 3 (Ph c) (a) ?_;refine uh 4 (PI b) (a) ?_;refine jY 5 bh.out a ?_;exact aU.o
 ):G:=h ⟨i⟩
def xg (i:t)(h:Kk t->G:=by
  intro aU;rw[<-a1];refine YJ (v:=.tuple #[vA H,RI]) ?_;exact aU.o
 ):G:=h ⟨i⟩
def Nr (i:t)(h:Kk t->G:=by
  intro aU;refine wh 6 (Pm e) rfl ?_;refine wh 7 (Pm e) rfl ?_;refine wh 8 (PZ e 3) rfl ?_;exact aU.o
 ):G:=h ⟨i⟩
def DS (i:t)(h:Kk t->G:=by
  intro aU;refine cm (Pj bq _ (o.out.trans (g.mono o.out.size))) ?_;exact aU.o
 ):G:=h ⟨i⟩
def GV (i:t)(h:Kk t->G:=by
  intro aU;refine up 3 H 0 a ?_;refine uk 4 (bN.out.1) a ?_;refine sl ?_;exact aU.o
 ):G:=h ⟨i⟩
def q7 (i:t)(h:Kk t->G:=by
  intro aU;refine Yd 10 λK b=>?_;go_simp;refine b.out _ _ (c.alloc Uy) (λ_=>?_);clear b K;exact aU.o
 ):G:=h ⟨i⟩
def l3 (i:t)(h:Kk t->G:=by
  intro aU;refine cm c ?_;exact aU.o
 ):G:=h ⟨i⟩
def Y8 (i:t)(h:Kk t->G:=by
  intro aU;refine wpAnyH_done Qz ?_ _;go_simp;exact aU.o
 ):G:=h ⟨i⟩
def DG (i:t)(h:Kk t->G:=by
  intro aU;refine uh 0 (QI f) q ?_;refine uh 1 (Pm e) q ?_;refine uh 2 (Pm e) q ?_;refine uh 3 (PZ e 3) q ?_;exact aU.o
 ):G:=h ⟨i⟩
def aJ3 (i:t)(h:Kk t->G:=by
  intro aU;refine wt 0 (PZ e (l * 3)) ?_;refine wt 1 (PZ e (l * 3)) ?_;refine wt 2 (PZ e (l * 3)) ?_;refine wt 3 (PZ e (l * 3+2)) ?_;refine wt 5 (PI g) ?_;exact aU.o
 ):G:=h ⟨i⟩
def Jv (i:t)(h:Kk t->G:=by
  intro aU;refine wt 0 (Pm a) ?_;refine wt 1 (Pm a) ?_;refine wt 2 (Pm a) ?_;refine wt 3 (PZ a 3) ?_;refine wt 5 (Qr m) ?_;refine wt 6 (Qr m) ?_;refine wt 7 (.func (.func 348) #[Qr m] #[]) ?_;refine wt 8 (Qr m) ?_;refine wt 9 (.func (.func 349) #[Qr m] #[]) ?_;exact aU.o
 ):G:=h ⟨i⟩
def wX (i:t)(h:Kk t->G:=by
  intro aU;refine cm (QO 14 PE (.slice (some (Pn a.heap.size 0)) 1 1) (a.alloc (.cells #[Pm k] 22)) ⟨_,_,_,rfl⟩) ?_;exact aU.o
 ):G:=h ⟨i⟩
def oi (i:t)(h:Kk t->G:=by
  intro aU;refine cm (Pj ax _ (QK.drew)) ?_;exact aU.o
 ):G:=h ⟨i⟩
def XO (i:t)(h:Kk t->G:=by
  intro aU;refine cm c.out ?_;exact aU.o
 ):G:=h ⟨i⟩
def aKd (i:t)(h:Kk t->G:=by
  intro aU;refine uz 9 (.tuple #[Ph q,p]) ?_;refine uz 10 (Ph q) ?_;refine uz 11 p ?_;refine uz 12 (Ph q) ?_;refine uz 13 p ?_;refine Ud ?_ _;exact aU.o
 ):G:=h ⟨i⟩
def Nn (i:t)(h:Kk t->G:=by
  intro aU;refine wt 0 (PZ H 0) ?_;refine wt 1 (PZ H 0) ?_;refine wt 2 (PZ H 0) ?_;refine wt 3 (PZ H 1) ?_;exact aU.o
 ):G:=h ⟨i⟩
def uf (i:t)(h:Kk t->G:=by
  intro aU;refine cm (QO 13 N (.slice (some (Pn a.heap.size 0)) 1 1) (a.alloc (.cells #[Pm k] 22)) ⟨_,_,_,rfl⟩) ?_;exact aU.o
 ):G:=h ⟨i⟩
def PJ (i:t)(h:Kk t->G:=by
  intro aU;refine cm (Ub m _ l a X.drew) ?_;exact aU.o
 ):G:=h ⟨i⟩
def sG (i:t)(h:Kk t->G:=by
  intro aU;refine up 4 al 0 a ?_;refine up 5 al 0 a ?_;refine up 6 al 1 a ?_;refine uk 7 bU.out a ?_;exact aU.o
 ):G:=h ⟨i⟩
def U4 (i:t)(h:Kk t->G:=by
  intro aU;refine b _ _ ?_;exact aU.o
 ):G:=h ⟨i⟩
def Ah (a:t)(h:Kk t->G:=by
  intro X;rw[List.take_succ_eq_append_getElem j,List.map_append,<-k.out]
  show World.ownsRow _ _ _ _ _ _ _
  rw[List.length_append,List.map_append,z.out]
  show World.ownsRow _ _ _ _ _ _ (_++[Value.string (c[a]).tx])
  rw[<-o.out];exact X.o
 ):G:=h ⟨a⟩
def qS (i:t)(h:Kk t->G:=by
  intro aU;refine cm (Pj a6 _ a) ?_;exact aU.o
 ):G:=h ⟨i⟩
def KO (a:t)(h:Kk t->G:=by
  intro D;refine cm (Pj ap _) ?_;rw[al.out];exact D.o
 ):G:=h ⟨a⟩
def H4 (i:t)(h:Kk t->G:=by
  intro aU;refine uh 7 (Pm e) g ?_;refine uh 8 (Pm e) g ?_;refine uh 9 (PZ e 1) g ?_;exact aU.o
 ):G:=h ⟨i⟩
def rO (i:t)(h:Kk t->G:=by
  intro aU;refine uz 10 (.tuple #[(XD q),p]) ?_;refine uz 11 (XD q) ?_;refine uz 12 p ?_;exact aU.o
 ):G:=h ⟨i⟩
def r1 (i:t)(h:Kk t->G:=by
  intro aU;refine uz 9 (.tuple #[(XD q),p]) ?_;refine uz 10 (XD q) ?_;refine uz 11 p ?_;exact aU.o
 ):G:=h ⟨i⟩
def qp (i:t)(h:Kk t->G:=by
  intro aU;rw[<-a1];refine ng (v:=.tuple #[vA vU,.iface bL bN]) ?_;exact aU.o
 ):G:=h ⟨i⟩
def sU (i:t)(h:Kk t->G:=by
  intro aU;refine uz 7 (.tuple #[(vA e),p]) ?_;refine uz 8 (vA e) ?_;refine uz 9 p ?_;exact aU.o
 ):G:=h ⟨i⟩
def yU (i:t)(h:Kk t->G:=by
  intro aU;rw[<-a1];refine ng (v:=.tuple #[vA vU,p]) ?_;exact aU.o
 ):G:=h ⟨i⟩
def XX (i:t)(h:Kk t->G:=by
  intro aU;refine uh 14 (PD false) af ?_;refine QX 15 λK d=>?_;go_simp;refine d.out _ _ (λ_=>af) ?_;clear d K;refine QX 16 λK d=>?_;go_simp;refine d.out _ _ (λ_=>af) ?_;clear d K;exact aU.o
 ):G:=h ⟨i⟩
def Bl (i:t)(h:Kk t->G:=by
  intro aU;refine bodyPost_ret (v:=RX (QI (A.heap.size+1)) false) (by simp[results,results80,go_sem,dO,dM]) rfl ⟨⟨A.heap.size+1,_,_,rfl,by omega,dJ.out,dH.out,?_⟩,dN.out⟩;exact aU.o
 ):G:=h ⟨i⟩
def sq (c:t)(h:Kk t->G:=by
  intro a1;refine cm (Pj aQ _ ((Below.refl w.heap.size w).alloc Qq _)) ?_;exact a1.o
 ):G:=h ⟨c⟩
def zI (i:t)(h:Kk t->G:=by
  intro aU;refine bodyPost_ret (v:=RX (QI (A.heap.size+1)) true) (by simp[results,results80,go_sem,dN,cJ]) rfl ⟨⟨A.heap.size+1,_,_,rfl,by omega,dJ.out,dH.out,?_⟩,dM.out⟩;exact aU.o
 ):G:=h ⟨i⟩
def aJ6 (i:t)(h:Kk t->G:=by
  intro aU;refine wh 7 (.tuple #[Ph A,PD B]) rfl ?_;refine wh 8 (Ph A) rfl ?_;refine wh 9 (PD B) rfl ?_;refine wh 10 (Ph A) rfl ?_;refine wh 11 (PD B) rfl ?_;refine wpAnyH_done Qz ?_ _;exact aU.o
 ):G:=h ⟨i⟩
def qh (i:t)(h:Kk t->G:=by
  intro aU;refine VH 11 ?_;refine uz 12 p ?_;refine Ud ?_ _;go_simp;exact aU.o
 ):G:=h ⟨i⟩
def aJ7 (i:t)(h:Kk t->G:=by
  intro aU;refine wh 0 (Qr m) n.drew ?_;refine wh 1 (Qr m) n.drew ?_;refine wh 2 (PZ m.R 5) n.drew ?_;exact aU.o
 ):G:=h ⟨i⟩
def mq (i:t)(h:Kk t->G:=by
  intro aU
  show World.ownsRow _ _ _ _ _ _ _
  exact aU.o
 ):G:=h ⟨i⟩
def ty (i:t)(h:Kk t->G:=by
  intro aU;refine d.out _ _ (λ_=>X) ?_;exact aU.o
 ):G:=h ⟨i⟩
def rX (i:t)(h:Kk t->G:=by
  intro aU;refine b.out _ _ c (λ_=>?_);exact aU.o
 ):G:=h ⟨i⟩
def IV (i:t)(h:Kk t->G:=by
  intro aU;refine b.out _ _ g (λ_=>?_);exact aU.o
 ):G:=h ⟨i⟩
def yX (i:t)(h:Kk t->G:=by
  intro aU;refine uz 12 (.tuple #[(vA a),(Vg r)]) ?_;refine uz 13 (vA a) ?_;refine uz 14 (Vg r) ?_;exact aU.o
 ):G:=h ⟨i⟩
def zS (i:t)(h:Kk t->G:=by
  intro aU;rw[aI,bx,show w.heap.size+2=((w.alloc (.cells #[Ph B,Ph C,PD F,.pointer a7] 73)).alloc (.cells #[PD n,Ph o,Ph on,PI s] 67)).heap.size by simp];exact aU.o
 ):G:=h ⟨i⟩
def ES (B:t)(h:Kk t->G:=by
  intro cR;refine uk 0 cQ.out a ?_;refine up 1 b2 b5 a ?_;refine up 2 b2 (b5+2) a ?_;refine uk 3 cP.out a ?_;refine up 4 bv 2 a ?_;refine uk 5 (cL.out.2.2.1) a ?_;exact cR.o
 ):G:=h ⟨B⟩
def pS (i:t)(h:Kk t->G:=by
  intro aU;refine cm (Pj bm _ a) ?_;exact aU.o
 ):G:=h ⟨i⟩
def aJL (i:t)(h:Kk t->G:=by
  intro aU;refine cm (Pj ak _ a) ?_;exact aU.o
 ):G:=h ⟨i⟩
def Mu (a:t)(h:Kk t->G:=by
  intro D;refine cm (Pj ah _) ?_;rw[C.out];exact D.o
 ):G:=h ⟨a⟩
def Hy (i:t)(h:Kk t->G:=by
  intro aU;rw[<-p.out];refine cm u ?_;exact aU.o
 ):G:=h ⟨i⟩
def tO (i:t)(h:Kk t->G:=by
  intro aU;refine d.out _ _ (λ_=>(QK.alloc Qh _).drew) ?_;exact aU.o
 ):G:=h ⟨i⟩
def aJJ (i:t)(h:Kk t->G:=by
  intro aU;refine cm (Pj aT _ b2) ?_;exact aU.o
 ):G:=h ⟨i⟩
def aKb (i:t)(h:Kk t->G:=by
  intro aU;refine wh 0 (Qr m) p ?_;refine wh 1 (Qr m) p ?_;refine wh 2 (PZ m.R 3) p ?_;exact aU.o
 ):G:=h ⟨i⟩
def Jq (a:t)(h:Kk t->G:=by
  intro E;refine(akZ d (c.extract a b) n X.out i g C.out).mono ?_;rw[ad.out];exact E.o
 ):G:=h ⟨a⟩
def tD (i:t)(h:Kk t->G:=by
  intro aU;refine d.out _ _ (λ_=>H) ?_;exact aU.o
 ):G:=h ⟨i⟩
def r6 (i:t)(h:Kk t->G:=by
  intro aU;refine VH 14 ?_;refine uz 15 p ?_;refine Ud ?_ _;go_simp;exact aU.o
 ):G:=h ⟨i⟩
def s6 (f:t)(h:Kk t->G:=by
  intro w;unfold Instr.findKey;rw[Sem.run_bind,run_underlying g W];exact w.o
 ):G:=h ⟨f⟩
def ya (i:t)(h:Kk t->G:=by
  intro aU;refine XE (v:=.tuple #[XD ⟨false,⟨aH,ay,aE⟩⟩,.iface bS bU]) ?_;exact aU.o
 ):G:=h ⟨i⟩
def r0 (i:t)(h:Kk t->G:=by
  intro aU;rw[<-a1];refine pO (v:=.tuple #[XD SG,RI]) ?_;exact aU.o
 ):G:=h ⟨i⟩
def ui (i:t)(h:Kk t->G:=by
  intro aU;refine XE (v:=.tuple #[XD ⟨true,⟨aH,ay,aE⟩⟩,.iface bS bU]) ?_;exact aU.o
 ):G:=h ⟨i⟩
def Az (i:t)(h:Kk t->G:=by
  intro aU;refine up 0 k 0 a ?_;refine up 1 H 0 a ?_;refine uk 2 (bo.out.1) a ?_;exact aU.o
 ):G:=h ⟨i⟩
def sV (i:t)(h:Kk t->G:=by
  intro aU;refine up 3 k 0 a ?_;refine up 4 k 0 a ?_;exact aU.o
 ):G:=h ⟨i⟩
def Kr (i:t)(h:Kk t->G:=by
  intro aU;refine up 0 u 0 a ?_;refine up 1 H 0 a ?_;refine uk 2 (br.out.1) a ?_;refine up 3 H 2 a ?_;refine uk 4 (br.out.2.2.1) a ?_;exact aU.o
 ):G:=h ⟨i⟩
def yf (c:t)(h:Kk t->G:=by
  intro a1;refine cm (Pj ay _ ((Below.refl w.heap.size w).alloc Qq _)) ?_;exact a1.o
 ):G:=h ⟨c⟩
def CF (i:t)(h:Kk t->G:=by
  intro aU;refine uh 11 undef (a) ?_ (aZ:=Or.inr ⟨by kernel_rfl,rfl⟩);refine uh 12 undef (a) ?_ (aZ:=Or.inr ⟨by kernel_rfl,rfl⟩);exact aU.o
 ):G:=h ⟨i⟩
def L6 (i:t)(h:Kk t->G:=by
  intro aU;refine Qd 18 (λt=>Fm (λO=>(u O\/(w.heap.size<=O/\O<g.heap.size))\/O=f) g t) Qz ?_;rw[<-aW];exact aU.o
 ):G:=h ⟨i⟩
def Ig (i:t)(h:Kk t->G:=by
  intro aU;refine wh 0 (PD true) rfl ?_;refine wh 1 (PD false) rfl ?_;refine wh 2 (PD false) rfl ?_;refine wh 3 (PZ wr.heap.size 2) rfl ?_;exact aU.o
 ):G:=h ⟨i⟩
def FF (i:t)(h:Kk t->G:=by
  intro aU;refine uh 5 (Pm e) g ?_;exact aU.o
 ):G:=h ⟨i⟩
def xD (i:t)(h:Kk t->G:=by
  intro aU;refine d.out _ _ (λ_=>af) ?_;exact aU.o
 ):G:=h ⟨i⟩
def pJ (i:t)(h:Kk t->G:=by
  intro aU;refine d.out _ _ f (λ_=>?_);exact aU.o
 ):G:=h ⟨i⟩
def qT (i:t)(h:Kk t->G:=by
  intro aU;refine oB Qz ?_ _;go_simp;exact aU.o
 ):G:=h ⟨i⟩
def Bq (i:t)(h:Kk t->G:=by
  intro aU;rw[<-dv.out,<-bx,<-bX,<-bU,<-cQ];exact aU.o
 ):G:=h ⟨i⟩
def DM (h:G:=by
  refine WB 8 λK b=>?_;go_simp;refine wX ?_;rintro j cg ⟨rfl,rfl⟩;refine b _ _ ?_;clear b K;refine VP 9 ?_;exact vQ):G:=h
def Fv (h:G:=by
  refine WB 9 λK b=>?_;go_simp;refine uf ?_;rintro j cg ⟨rfl,rfl⟩;refine b _ _ ?_;clear b K;refine VP 10 ?_;exact zi):G:=h
def wm (h:G:=by
  rw[<-a1];refine YJ (v:=.tuple #[vA H,p]) ?_;exact⟨⟨_,by rw[ae.out],aK.RP b8 PK⟩,be,bR⟩):G:=h
def Ai (h:G:=by
  rintro j dk ⟨⟨p,rfl,aK⟩,ak,ap⟩;have bN:=Y (ap.f2 ci.out PK);have dd:=cg.trans ap;obtain⟨H,d⟩:=xE cU.1.1;rw[<-d];have ae:=Y d;clear d;exact zB):G:=h
def FK (h:G:=by
  refine QX 6 λK d=>?_;go_simp;refine cm (Pj ay _ E _ (aR.out.trans (RV.drew.mono aR.out.size)) bH.out aY.out a1.out) ?_;exact vT):G:=h
def wS (h:G:=by
  obtain⟨ad,ae,N⟩:=(Open.fQ n r p.out).cell;exact xP):G:=h
def wM (h:G:=by
  obtain⟨ad,ae,N⟩:=(Open.fQ n r p.out).cell;exact xZ):G:=h
def zT (h:G:=by
  obtain⟨cU,bL⟩:=xE (within g (j1 X v.s ⟨1,0,false⟩))
  have ce:=λt (f:Mx U k M z bo bn bm a6 t g) (dp:t.heap[bq]?=some (Qb #[Pm k] 62)) (dq:t.heap[e]?=some (Qb #[Ph 1,Ph 0,PD false,Rz] 73)) (dm:t.heap[br]?=some (Qb #[.slice (some (Pn u bI)) a s] 311)) (dx:U9 t (.slice (some (Pn u bI)) a s) (v::aY))=>xR (z:=aE) f cV Jh (c:=#[PZ br 0,PZ e 0,PZ bq 0]) (a:=j1 X v.s ⟨1,0,false⟩) aT (λj ey i d l=>JN au cy cL i (cx.fW _) cH 1 0 false none ⟨by omega,by show (1:Int)<(g.M.PL.length:Int);omega⟩ (d _ _ _ dp PK) (d _ _ _ dq PK) (d _ _ _ dm PK) (dx.f2 λO m ad=>d O m 65 ad PK) (aU j))
  have aI{G}(h:G:=by
  obtain⟨cw,_⟩:=C.hh.at_ 10 _ rfl;obtain⟨cK,_⟩:=C.hh.at_ 11 _ rfl;have bW:=oy aX.out;obtain⟨de,dt,dg,df,aO,dj⟩:=fV a7.out;have du:=aO 0;have db:=aO 1;have dz:=aO 2;have dC:=aO 3;have dW:=C.lt;have dh:=fR aX.out;have dv:=Y cw;have da:=Y cK;have cC:=Y bW;clear aO aR bH b5 cP cT dF dT dS dR cS dH dE dG cw cK bW;refine UG 9 λA=>?_;refine uk 0 cC.out A ?_;refine up 1 k 0 A ?_;refine up 2 k 13 A ?_;refine uk 3 da.out A ?_;refine uk 4 cC.out A ?_
  refine up 5 k 0 A ?_;refine up 6 k 12 A ?_;refine uk 7 dv.out A ?_;refine uh 8 (.agg #[Ph 1,Ph 0,PD false,Rz]) (A) ?_;refine VH 9 ?_;refine Ud ?_ _;go_simp;have dr:k<=e:=Pv;have L:=U8 a7.out dr (Ph 1) (Ph 0) (PD false) Rz;have bU:=lY a7.out (Ph 1) (Ph 0) (PD false) Rz;have bX:∀O,O<w.heap.size->_:=VJ (B:=r) cn (Ph 1) (Ph 0) (PD false) Rz;obtain⟨cB,cE⟩:=xE ((((r.setCell (Pn e 0) (Ph 1)).setCell (Pn e 1) (Ph 0)).setCell (Pn e 2) (PD false)).setCell (Pn e 3) Rz)
  rw[<-cE] at L bU bX ⊢;obtain⟨cz,bY⟩:=xE cB.drew;have F:PG cB cz:=by rw[bY];exact RV.drew
  have cJ:=C.ZR L PK;have ci:=Y (fZ F (L.rest _ _ _ cQ.out PK));have cg:=(cR.ia L bX).trans (Qj.of (L:=none) F (Qe cJ.lt));have di:=cJ.fQ F;have bZ:=Y (fZ F (L.rest _ _ _ aX.out PK));have dD:=Y (fZ F (L.rest _ _ _ cj.out PK));have ds:=(b6.f2 λO m ad=>L.rest O m 65 ad PK).fQ F;have cG:=fZ F bU;rw[<-bY];have dc:=Y cG;have bW:=oy bZ.out;have dV:=fR bZ.out;clear bY cE cG bU bX de dt dg df du db dz dC dj dh;go_wp2_with fail
  refine cm (Pj b7 cz di bZ.out dc.out dD.out ds) ?_;exact Ai):=Pq h;exact Jr):G:=h
def J7 (h:G:=by
  have b{G}(h:G:=by
  refine uh 10 (PD false) (o) ?_;refine VH 11 ?_;refine Ud ?_ _;have cS:=Y (fZ o bQ.out);have aY:=q.ms.fQ o;have de:=b1.trans (Qj.of (L:=none) o (Qe dg));have dm:=aY.lt;have cB:=cR.kp (Kp.of o);have bL:=Pj dN;have b{G}(h:G:=by
  have bm:=Y (λt (f:PG dh t)=>Pj dJ e L da.out t bI n (aY.fQ f) (cH.kp (Kp.of f)));rw[<-cK] at ay bm;have dD:=Y (fV (fZ o cZ.out));have d5:=fR (fZ o cZ.out);have d4:al<dh.heap.size:=by rw[a6.out];exact cB.cells.1
  have d3:=f1 ay;have dF:=Y aO;have dx:=Y ay;have aE:ci=X.v (Px A 1) ⟨F,B,C⟩ L:=by rw[cn.out];unfold mf;rw[da.out];simp[dp.out,di.out]
  rw[<-aE] at bm;clear cg cp cq cr cw cx cy bK bJ bS bW bX bY bU aO ay cK bL aE;go_simp;go_wp2_with fail;refine UG 8 λa=>?_;refine kT ?_;refine uk 4 dF.out a ?_;refine up 5 cG 1 a ?_;refine uk 6 dx.out a ?_;refine kx 7 dD.out a ?_;refine QX 8 λK d=>?_;go_simp;refine pS ?_;have b{G}(h:G:=by
  have dj:=(Qj.of (L:=none) a (Qe dm)).trans ap;have bN:=Y (dj.f2 cS.out PK);have dd:=de.trans dj;obtain⟨H,ae⟩:=xH ci.1.1;rw[<-ae.out];obtain⟨u0,u1,u2,dZ,d0,d1,d2⟩:=Ql bN.out;refine uz 9 (vA H) ?_;refine uz 10 p ?_;refine qh ?_;exact q9):=Pq h;exact kW):=Pq h;exact uw):=Pq h;exact H2):G:=h
def EC (h:G:=by
  refine xD ?_;clear d K;have bh:Qj (some f) k c r:=(Qj.of A (Qe de)).trans bZ;have cO:Ms U k M z r bR:=⟨_,_,_,_,bN⟩;have cA:Kp c r:=λO m j ad s=>aX.kp aJ O m j (Kp.of A O m j ad s) s;have bL:P9 r (some f) (some vU):=a1.f2 (fZ A d0) PK;have dZ:=bN.lt;have eg:r.heap[c.heap.size]?=some (Qb #[PD false,Ph 0,Ph 0,QB] 67):=a1.f2 (Pz c.drew _) PK;refine QX 9 λK d=>?_;have b{G}(h:G:=by
  have bi:aR.heap[c.heap.size]?=some (Qb #[PD false,Ph 0,Ph 0,QB] 67):=bf.TY bL eg PK PK;obtain⟨eE,ep,eF,eG,eu,ew,ey,eD,eH⟩:=SA (bi);refine rO ?_;refine r6 ?_;have ae:=SB.early (w2:=c) (o:=q) bi Qq (Qe de) aI bz (bh.trans bf) bA
  generalize (((aR.setCell (Pn c.heap.size 0) (PD q.ret)).setCell (Pn c.heap.size 1) (Ph q.v.k)).setCell (Pn c.heap.size 2) (Ph q.v.n)).setCell (Pn c.heap.size 3) (PI q.v.s)=wz at ae ⊢
  generalize c.heap.size=D at ae ⊢
  exact aT wz D p ae):=Pq h;go_simp;exact xw):G:=h
def vJ (h:G:=by
  have q{G}(h:G:=by
  have f:=acn a e b l c n L Pv;have p:=k.c0;have u:=k.c1;have i:=k.c2
  generalize mm a b=m at f
  exact qs):=Pq h;exact nU):G:=h
def Ag (h:G:=by
  have A:PG r (r.alloc (.cells #[PD false,Ph 0,Ph 0,QB] 67)):=QK;refine d.out _ _ (λ_=>⟨fZ A af.1,PV A af.2⟩) ?_;clear d K;refine QX 9 λK d=>?_;go_simp;refine cm (Pj dd _ (cO.fQ A) (λO m j ad s=>Kp.of A O m j (cA O m j ad s) s) (bL.fQ A)) ?_;rintro j aR ⟨⟨p,rfl,aI⟩,bz,bf,bA⟩;refine ko d ?_;clear d K;have bi:aR.heap[r.heap.size]?=some (Qb #[PD false,Ph 0,Ph 0,QB] 67):=bf.TY (bL.fQ A) (Pz _ _) PK PK;obtain⟨eE,ep,eF,eG,eu,ew,ey,eD,eH⟩:=SA (bi)
  refine rO ?_;refine r6 ?_;have ae:=SB.early (w2:=c) (o:=q) bi bh.below.size (Qe de) aI bz ((bh.trans (Qj.of A (Qe dZ))).trans bf) bA
  generalize (((aR.setCell (Pn r.heap.size 0) (PD q.ret)).setCell (Pn r.heap.size 1) (Ph q.v.k)).setCell (Pn r.heap.size 2) (Ph q.v.n)).setCell (Pn r.heap.size 3) (PI q.v.s)=wz at ae ⊢
  generalize r.heap.size=D at ae ⊢
  exact aT wz D p ae):G:=h
def C8 (h:G:=by
  have f{G}(h:G:=by
  refine hT 4 7 (λK b=>?_) λK b=>?_
  ·go_simp;refine U4 ?_;clear b K;refine VP 7 ?_;exact DM
  ·go_simp;refine U4 ?_;clear b K;refine hT 4 8 (λK b=>?_) λK b=>?_
   ·go_simp;refine U4 ?_;clear b K;exact DM
   ·go_simp;refine wX ?_;rintro j cg ⟨rfl,rfl⟩;exact xZ):=Pq h;exact rE):G:=h
def CU (h:G:=by
  refine l2 ?_;refine p1 ?_;refine hT 4 8 (λK b=>?_) λK b=>?_
  ·go_simp;refine U4 ?_;clear b K;refine WB 8 λK b=>?_;have f{G}(h:G:=by
   have r:=((Ap.refl m.R s.heap.size s).drew).next d;have al:Hid (Ap m.R s.heap.size s a/\QS m a C q/\QT (gz s.heap.size) a bA k):=⟨r,u,H⟩;exact wS):=Pq h;go_simp;exact oK
  ·have f{G}(h:G:=by
   have r:=((Ap.refl m.R s.heap.size s).drew).next d;have al:Hid (Ap m.R s.heap.size s a/\QS m a C q/\QT (gz s.heap.size) a bA k):=⟨r,u,H⟩;exact wM):=Pq h;go_simp;exact oK):G:=h
def DZ (h:G:=by
  have a{G}(h:G:=by
  have aY:Hid (wz.heap[E]?=some (Xr no (.slice M q.length R) false (.pointer c))):=(ad _ Pv).trans aJ;have a1:Hid (QV w.heap.size wz (.slice M q.length R) q):=TS (Qw (a:=λO=>b.heap.size<=O) (λO ax _=>ad O (by have ah:b.heap.size<=O:=ax;omega)) (λO ax=>(Qm ak O ax).2) ak) Pv
  exact IY):=Pq h;go_simp;exact AJ):G:=h
def Kf (h:G:=by
  have a{G}(h:G:=by
  have aY:Hid (wz.heap[E]?=some (Xr no (.slice M q.length R) false (.pointer c))):=(ad _ Pv).trans aJ;have a1:Hid (QV w.heap.size wz (.slice M q.length R) q):=TS (Qw (a:=λO=>b.heap.size<=O) (λO ax _=>ad O (by have ah:b.heap.size<=O:=ax;omega)) (λO ax=>(Qm ak O ax).2) ak) Pv
  exact A0):=Pq h;go_simp;exact zN):G:=h
def Fk (h:G:=by
  have q{G}(h:G:=by
  have f:=SP a e b l c n L v g;have p:=k.c0;have u:=k.c1;have i:=k.c2
  generalize n0 a b=m at f
  exact qs):=Pq h;exact nU):G:=h
def Dv (h:G:=by
  subst s;have ax:p=RI:=A;subst ax;obtain⟨d,bL⟩:∃d,b6=some d:=by
   have h:=aX
   cases b6 with
   |none=>exact h.elim
   |some v=>exact⟨v,rfl⟩
  subst bL;have aR:wt.heap[f]?=some (ZT d):=aX;obtain⟨ew,bN,ez,_,eu⟩:=f7 aR;clear aR;go_wp2_with fail;obtain⟨bh,a1,b3,af,ae,bA,bf,bi⟩:=i1 aD.out a8.out aW cM cV (Ph d.k) (Ph d.n) (PI d.s);rw[<-a1];refine YJ (v:=.tuple #[vA d,RI]) ?_;rw[dD.out];exact⟨⟨_,rfl,rfl⟩,ae,af⟩):G:=h
def DQ (h:G:=by
  have dR:∀O,(Value.slice (some (Pn M 0)) 1 1).ownBlock=some O->O<b.heap.size/\O≠w.heap.size+1:=by
   intro O ad;have ah:M=O:=by simpa[Value.ownBlock] using ad
   subst ah;exact⟨dY.out,dX.out⟩
  exact Or.inr ⟨by decide,B,.slice (some (Pn M 0)) 1 1,rfl,d4.out,by have:=Pj cP;omega,(Pj dr B cP.out dW.out).trans d0.out,Qw (a:=λO=>O<b.heap.size/\O≠w.heap.size+1) (λO ad _=>Pj dr O ad.1 ad.2) dR d1.out⟩):G:=h
def q9 (h:G:=by
  go_wp2_with fail;obtain⟨bh,a1,b8,bR,be,bA,bf,bi⟩:=i1 bN.out a8.out aW dd ak (Ph H.k) (Ph H.n) (PI H.s);exact wm):G:=h
def Ku (h:G:=by
  refine uk 6 bR.out a ?_;refine kx 7 dc.out a ?_;refine jZ 8 12 (λK d=>?_) λK d=>?_
  ·go_simp;refine mp ?_;have b{G}(h:G:=by
   refine o3 ?_;refine VH 12 ?_;refine nR ?_;have ae:=VB.late (v:=e) aK ak ((Qj.of a (Qe bS)).trans ap);exact qQ):=Pq h;exact kW
  ·go_simp;exact OJ):G:=h
def ux (h:G:=by
  obtain⟨bA,cq⟩:=xH aE.1.1;rw[<-cq.out];obtain⟨u0,u1,u2,u3,eX,eY,eZ,e1,e0⟩:=SA bR.out;refine uz 9 (XD bA) ?_;refine uz 10 p ?_;refine qh ?_;exact xX):G:=h
def sO (h:G:=by
  go_wp2_with fail;refine cm p ?_;rintro d bZ ⟨rfl,bH⟩;have br:=q.trans (bH.mono q.size)
  cases aL with
  |some d=>
   have aH:aJ=some d:=by rw[ax.out];exact Pj R d rfl
   subst aH;unfold Wi;go_wp2;go_ret;exact⟨rfl,af.trans (br.mono af.size)⟩
  |none=>
   unfold Wi;go_wp2
   go_roundw
   case rel=>exact⟨c+1,by omega,by go_num,Pj U trivial,br⟩
   case measure=>simp[intOf];omega):G:=h
def zi (h:G:=by
  exact UE (listed':=tf 11 4) Qz Qz (aH a k al.out)):G:=h
def Ge (h:G:=by
  have f{G}(h:G:=by
  refine VP 7 ?_;refine WB 8 λK b=>?_;go_simp;refine wX ?_;rintro j cg ⟨rfl,rfl⟩;exact xP):=Pq h;exact rE):G:=h
def B1 (h:G:=by
  have bF:=(Open.fQ n (Ap.of a7) p.out).ev
  cases T:Qx m.l SH E with
  |out=>
   exact TA
  |ga bD bE=>
   exact Nh
  |ok cj cg=>
   have c:=Qp m SH s E q aO PK;have f{G}(h:G:=by
   intro j cJ o;obtain⟨⟨cH,rfl,rfl⟩,u,d⟩:=o;have cq:=aI.next d;exact Hi):=Pq h;exact Y4):G:=h
def Ct (h:G:=by
  have c:=Qp m kG X a g U PK;rw[aJ.out] at c;go_wp2_with fail;refine cm c ?_;intro j af o;obtain⟨⟨bh,rfl,rfl⟩,u,d⟩:=o;have ae:=u;have L:=D.next d;replace b:=Uc b d A.out;clear aM
  cases T:QJ m.l z.vl g (a+1) with
  |out=>
   exact TA
  |ga aK aL=>
   exact aJz
  |ok bm bi=>
   exact LB):G:=h
def Gy (h:G:=by
  have r{G}(h:G:=by
  rintro n p ⟨rfl,rfl⟩;exact xG):=Pq h;exact H9):G:=h
def vT (h:G:=by
  rintro k dc ⟨rfl,b1⟩;refine nz ?_;clear d K;refine oB Qz ?_ _;have cZ:=Y b1;clear b1;go_simp
  go_end0
  exact⟨rfl,cZ.out⟩):G:=h
def Hd (h:G:=by
  refine Ud ?_ _;go_simp;have ae:=VB.early (v:=e) s Qq (Qe bP) aK ak ((Qj.of (QK.drew) (Qe bP)).trans ap)
  generalize ((aR.setCell (Pn w2.heap.size 0) (Ph e.k)).setCell (Pn w2.heap.size 1) (Ph e.n)).setCell (Pn w2.heap.size 2) (PI e.s)=wz at ae ⊢
  generalize w2.heap.size=D at ae ⊢
  exact aT wz D p ae):G:=h
def zG (h:G:=by
  show Below _ _ _
  rw[aI];exact((o.out.trans (bU.mono o.out.size)).setCell (p:=(Pn (w.heap.size+1) 0)) Qh _).setCell (p:=(Pn (w.heap.size+1) 1)) Qh _):G:=h
def rb (h:G:=by
  generalize aR.alloc (.cells #[PD q.ret,Ph q.v.k,Ph q.v.n,PI q.v.s] 67)=wz at ae ⊢
  generalize aR.heap.size=D at ae ⊢
  exact aT wz D p ae):G:=h
def Ff (h:G:=by
  have c:=Qp m SH (L.setCell (Pn g 3) (.slice (some (Pn be 0)) (aJ.fS.length+1) ba)) C q a8 PK;have f{G}(h:G:=by
  intro j cJ o;obtain⟨⟨cH,rfl,rfl⟩,u,d⟩:=o;have cq:=bf.next d;exact Hi):=Pq h;exact Y4):G:=h
def vQ (h:G:=by
  exact UE (listed':=tf 10 4) Qz Qz (aH a k al.out)):G:=h
def ER (h:G:=by
  refine Ud ?_ _;go_simp;go_wp2_with fail;obtain⟨bh,a1,aY,aH,aE,bA,bf,bi⟩:=i1 d9.out a8.out aW eP eR (Ph ci.k) (Ph ci.n) (PI ci.s);rw[<-a1];refine YJ (v:=.tuple #[vA ci,p]) ?_;rw[u.out];exact⟨⟨_,by rw[eQ.out],eO.RP aY PK⟩,aE,aH⟩):G:=h
def xX (h:G:=by
  go_wp2_with fail;obtain⟨aY,a1,aH,bH,bD,bf,bh,be,bi⟩:=kb bR.out a8.out aW cx ak (PD bA.ret) (Ph bA.v.k) (Ph bA.v.n) (PI bA.v.s);rw[<-a1];refine XE (v:=.tuple #[XD bA,p]) ?_;exact⟨⟨_,by rw[cq.out],aK.RP aH PK⟩,bD,bH,ci.UJ aH⟩):G:=h
def sY (h:G:=by
  go_wp2_with fail;obtain⟨H,cx⟩:=xE (Ri false);have di:=WX false wz;exact wd):G:=h
def qQ (h:G:=by
  generalize aR.alloc (.cells #[Ph e.k,Ph e.n,PI e.s] 65)=wz at ae ⊢
  generalize aR.heap.size=D at ae ⊢
  exact aT wz D p ae):G:=h
def Fy (h:G:=by
  have aR:=Y d;clear d s;go_wp2_with fail;obtain⟨bh,a1,b3,af,ae,bA,bf,bi⟩:=i1 aD.out a8.out aW cM cV (Ph 0) (Ph 0) (QB);refine qp ?_;rw[aR.out];exact⟨⟨_,rfl,A.RP b3 PK⟩,ae,af⟩):G:=h
def NG (h:G:=by
  refine mq ?_;rw[ej.out,List.length_append,List.map_append];exact eg):G:=h
def aJU (h:G:=by
  refine mq ?_;rw[cC.out,ek.out,List.map_append];exact hown4):G:=h
def ys (h:G:=by
  obtain⟨ci,cr,aR⟩:=o.er.X8 s au;subst aR;have ap:a7=(u,A):=by
   rw[N.out];exact kc
  exact ZS):G:=h
def py (h:G:=by
  rw[bD.out];exact⟨⟨_,rfl,dX.RP bK PK⟩,b1,b2,cQ.UJ bK⟩):G:=h
def tR (h:G:=by
  have s:c=a.fS.length:=Pv;subst s;have R:aJ=none:=by
   have B:=Pj C;rw[List.take_length] at B;rw[ax.out];exact B
  subst R;go_wp2;go_ret;exact⟨rfl,af.trans (q.mono af.size)⟩):G:=h
def xl (h:G:=by
  have B:=M;rw[A];refine⟨B.os,B.tape,B.output,by simpa using B.size,λc k=>?_⟩;rw[Below.heap_setCell ah (Pn w.heap.size 2) _ c (by show c≠w.heap.size;omega)]
  exact B.block c k):G:=h
def DY (h:G:=by
  obtain⟨z,aD⟩:=nW B;have ad:=Y s;clear s p;go_wp2_with fail;exact nP (v:=.tuple #[Z9,Ph 0,.iface 150 (PZ A 0)]) ⟨A,rfl,r7 B H ad.out _ _ _ _⟩):G:=h
def GZ (h:G:=by
  rw[<-d];have q:=Y d;have j{G}(h:G:=by
  clear d;exact AQ):=Pq h;exact v8):G:=h
def GE (h:G:=by
  rintro j a6 ⟨⟨a7,rfl,aX⟩,af⟩;have a1:=X.fQ af;have aY:=aO.trans (Qj.of (L:=none) af (Qe r));go_wp2;go_ret;exact⟨⟨_,rfl,aX⟩,a1,aY⟩):G:=h
def MM (h:G:=by
  rw[xx c a b g l j];have I:g<b - a:=by rw[extract_size c a b Pv l] at j;exact j
  exact wf RJ c (c.size - a) a Pv (a+g) Pv (by rw[u.out];omega) Pv):G:=h
def za (h:G:=by
  rw[<-a1] at b8 aH aE bm;obtain⟨bA,bf,bi,_,_⟩:=f7 b8;refine ng (v:=.tuple #[vA vU,.iface bL bN]) ?_;rw[de.out];exact⟨⟨_,rfl,bm⟩,aE,aH⟩):G:=h
def vI (h:G:=by
  intro j bL o;obtain⟨rfl,d⟩:=o;exact⟨rfl,Ry e.out.symm (U.next d)⟩):G:=h
def yY (h:G:=by
  have e9:¬ r.k=3:=λh=>b7 dg h;clear b7 b8 cg bW;go_wp2_with fail;exact qF):G:=h
def xu (h:G:=by
  rintro ad X ⟨rfl,S⟩;have A:=m.trans (S.mono m.size);exact E1):G:=h
def kc (h:G:=by
  cases u with
  |no=>exact absurd rfl s
  |stop=>rfl
  |iZ=>rfl
  |Y3 x=>rfl):G:=h
def Ej (h:G:=by
  obtain⟨aO,bm,cr⟩:=q.er.X8 s au;subst cr;have ae:aE=((SG,u,c),L):=by
   rw[bN.out];unfold na;rw[b7.out];exact kc
  exact aKk):G:=h
def aJ8 (h:G:=by
  show Below _ _ _
  rw[C];exact((a7.out.trans (X.mono a7.out.size)).setCell (p:=(Pn w.heap.size 0)) Qq _).setCell (p:=(Pn w.heap.size 1)) Qq _):G:=h
def Kw (h:G:=by
  obtain⟨ay,aO,df⟩:=q.er.X8 s au;subst df;have aE:ci=((e,u),L):=by
   rw[cn.out];unfold mf;rw[da.out];exact kc
  exact aKl):G:=h
def Dn (h:G:=by
  have cj:=u;replace br:=EV.fQ br d p.out;have aD:=Pj cw;subst aD;go_wp2;go_ret;exact UM e.out.symm br.nv cj bX):G:=h
def yw (h:G:=by
  rw[T] at l;simp only[wW] at l;exact absurd l.out.symm F.out):G:=h
def HO (h:G:=by
  have H:=L;have N:=F;rw[<-f];clear f;refine b.out _ _ H (λ_=>?_);clear b K;refine wh 12 (PD false) H ?_;exact Gb):G:=h
def Io (h:G:=by
  have af:=Y A;clear A;go_wp2_with fail;refine Uj (v:=.tuple #[Rz,.iface 122 (PZ B 0)]) ?_;exact⟨O,_,rfl,B,rfl,af.out⟩):G:=h
def Gu (h:G:=by
  have H:=L;have N:=F;rw[<-f];clear f;refine b.out _ _ H (λ_=>?_);clear b K;refine wh 12 (PD true) H ?_;exact Gb):G:=h
def Eg (h:G:=by
  rw[d];have r:(Instr.lookup 80 (.map (some g)) (Pm j) true).run prog w=.ok (.tuple #[Ph (a:Int),PD true]) w:=b;exact Bp):G:=h
def H1 (h:G:=by
  rw[d];have r:(Instr.lookup 80 (.map (some g)) (Pm j) true).run prog w=.ok (.tuple #[Ph 0,PD false]) w:=b;exact Bp):G:=h
def Di (h:G:=by
  refine QX 6 λK d=>?_;go_simp;refine cm (Pj a7 _ (cL.out.fQ q) (cO.out.trans (Fm.of q))) ?_;exact vT):G:=h
def A5 (h:G:=by
  refine QX 6 λK d=>?_;go_simp;refine cm (Pj u _ (o.out.trans (RV.drew.mono o.out.size))) ?_;exact vT):G:=h
def Fd (h:G:=by
  refine l3 ?_;intro j bL o;obtain⟨rfl,d⟩:=o;exact⟨rfl,Ry e.out.symm (aI.drew.next d)⟩):G:=h
def FL (h:G:=by
  rw[bF.out];unfold V7;rw[bI.out]
  cases bb with
  |no=>exact absurd rfl aO
  |stop=>rfl
  |iZ=>rfl
  |Y3 x=>rfl):G:=h
def JS (h:G:=by
  go_wp2_with fail;refine cm m ?_;rintro d f ⟨rfl,rfl⟩;go_wp2_with fail;refine cm p ?_;exact DE):G:=h
def kY (h:G:=by
  clear E a7 bD bb bH e f;go_enter func196,ntmps196;have b{G}(h:G:=by
  have b{G}(h:G:=by
  have b{G}(h:G:=by
  rintro j au ⟨⟨p,rfl,aK⟩,ak,ap⟩;have bN:=Y (ap.f2 aO.out PK);have dd:=S.trans ap;obtain⟨H,ae⟩:=xH d.1.1;rw[<-ae.out];clear ad aD al af ax aE O;obtain⟨u0,u1,u2,aH,aM,aT,aU⟩:=Ql bN.out;exact q9):=Pq h;exact rQ):=Pq h;exact Cr):=Pq h;exact mL):G:=h
