/-
  Parts of proofs that stand more than once.
-/
import Derived.Test.YtoimgcjbcbhclaaGreatDoorWt10
set_option maxRecDepth 100000
set_option maxHeartbeats 16000000
namespace Go.Proofs.YtoimgcjbcbhclaaGreatDoor
open Go.RowKit
theorem zrqek.zrdpX {G:Prop}(h:G:=by
  have hs1:w1.heap.size=w.heap.size+1:=by rw[hw1];simp
  obtain⟨J,hJ⟩:∃ J:Nat→Prop,J=fun b=>I b∨(w.heap.size≤b∧b<w1.heap.size):=⟨_,rfl⟩;have hIJ:∀ b,I b→J b:=fun b hb=>by rw[hJ];exact Or.inl hb
  have hcnt:=cnt_eq a;have hst:Stay I w w1:=fun b _ hl=>hb1.block b hl;have HKL:Hid (KL m J nb mb ob fb w.heap.size A (pre++[a.p]) post L (.slice (some ⟨g,0,none⟩) ps.length cap) ps a.ks ka kc w1):=
   ⟨hT,by rw[hA,ads_eq];simp,by rw[hJ];exact hW.more hb1,⟨by rw[hw1];exact heap_new _ _,by rw[hJ];exact Or.inr ⟨Nat.le_refl _,by omega⟩⟩,(hR.later hst).mono hIJ,
    fun k hk=>⟨by have h1:=cnts_mem3 hk;omega,AAt.mono (fun b hb _=>hIJ b hb) _ (AAt.later hst _ (ha.parts k hk)),ill_parts hi k hk,hws.part hk⟩,
    owns_zero (owns_stay hst hrow2 hrow1),fun g hg=>hIJ g (hrow2 g hg),hp0,by omega,by omega⟩
  have HEND:Hid (∀ W,RgW J nb mb ob fb A (L++tls (rl m) (a.ks.map Ad.tr) (pre++[a.p]).length ((ps.map Prod.snd).reverse) st) W→Fm J w1 W→RgW I nb mb ob fb A (L++tls (rl m) a.tr.kids (pre.length+1) ((ps.map Prod.snd).reverse) st) W∧Fm I w W):=fun W h1 h2=>by
   refine⟨?_,(Fm.of hb1).trans (h2.less hIJ)⟩;have h3:=h1.less hW hIJ;rw[List.length_append,List.length_singleton] at h3;rw[a.tr_eq.2.2];exact h3
  have HF:=hide (risFunc_any a.tr a.p w1 (NAt.nt (NAt.later hst _ _ ha.nat)));rw[hf] at HF;have hen:=en70;have hkl:a.ks.length≤20000:=by have:=cnts_len a.ks;omega
  rw[hw1] at HF HKL HEND;clear hrow hrow1 hrow2 hR hW ha hi hws hT hst hb1 hs1 hw1 hcnt hJ hIJ hA hf
  generalize a.p=p at *
  generalize a.kd=kd at *
  generalize a.ks=es at *
  go_enter Tryz.func70,Tryz.ntmps70;go_wp2_with fail;refine cm HF.out ?_;rintro e w2 ⟨rfl,rfl⟩;clear HF;go_wp2_with fail
  obtain⟨w1,hw1⟩:∃ w1,w1=w.alloc (.cells #[.slice (some ⟨g,0,none⟩) ps.length cap] 114):=⟨_,rfl⟩;rw[←hw1] at HKL HEND ⊢;clear hw1
  go_loopw [213] (fun i wr=>∃ k:Nat,k≤es.length∧i=.int .i64 k∧RgW J nb mb ob fb A (L++tls (rl m) ((es.take k).map Ad.tr) (pre++[p]).length ((ps.map Prod.snd).reverse) st) wr∧Fm J w1 wr) (fun i _=>es.length - (intOf i).toNat)
  case atStart=>exact⟨0,Nat.zero_le _,rfl,by simpa[tls] using HKL.out.rw,Fm.refl _ _⟩
  case round=>exact rlRound
 ):G:=h
theorem zrqel.zrdiX {G:Prop}(h:G:=by
  go_loopw [213] (fun i wr=>∃ k:Nat,k≤es.length∧i=.int .i64 k∧RgW (fun b=>I b∨(w.heap.size≤b∧b<wz.heap.size)) nb mb ob fb A (L++tls (rl m) ((es.take k).map Ad.tr) (pre++[p]).length (((ps++[(Value.slice (some ⟨gl,0,none⟩) 1 1,(⟨pre.length,[tx],false⟩:Sc))]).map Prod.snd).reverse) st) wr∧Fm (fun b=>I b∨(w.heap.size≤b∧b<wz.heap.size)) wz wr) (fun i _=>es.length - (intOf i).toNat)
  case atStart=>exact⟨0,Nat.zero_le _,rfl,by simpa[tls] using HKL.out.rw,Fm.refl _ _⟩
  case round=>exact rlRound
 ):G:=h
theorem zrqel.zrcyX {G:Prop}(h:G:=by
  have hrz:wz.ownsRow w.heap.size 116 3 (.slice va (ps.length+1) vc) (ps.length+1) (rgCells ps++[.int .i64 (pre.length:Int),.slice (some ⟨gl,0,none⟩) 1 1,.bool false]):=
   owns_stay (I:=fun b=>we.heap.size≤b) (fun b hb _=>hset b (by have h1:=(unhide HS1').size;have h2:we.heap.size≤b:=hb;omega)) (fun b hb=>(unhide HN5 b hb).2) HR5.out
  have hnz:SRow w.heap.size wz (.slice (some ⟨gl,0,none⟩) 1 1) [tx]:=
   owns_stay (I:=fun b=>b=gl) (fun b hb _=>hset b (by have h3:=unhide HGL;have h2:b=gl:=hb;omega)) (fun b hb=>by simpa[Value.ownBlock] using hb.symm) HL5.out
  exact zrdi
 ):G:=h
theorem zrqel.zrctX {G:Prop}(h:G:=by
  refine uq1 11 fun K hK=>?_;exact zrcy
 ):G:=h
theorem zrqel.zrdfX {G:Prop}(h:G:=by
  refine uh 5 (nPtr p) hS0 ?_;refine uh 6 (.pointer (some ⟨p,1,none⟩)) hS0 ?_;refine uc 7 (.string tx) rfl (Or.inl ⟨by kernel_rfl,fun X hX=>by have h0:=keepC hX HT1.out;go_simp⟩) hS0 ?_
  refine uq1 8 fun K hK=>?_;go_simp;have hS1:Below w1.heap.size w1 (wd.alloc (.cells #[.string tx] 9)):=hS0.alloc hS0.size _;have hs1:=HB1.out.size
  have hL3:SRow w.heap.size (wd.alloc (.cells #[.string tx] 9)) (.slice (some ⟨wd.heap.size,0,none⟩) 1 1) [tx]:=⟨rfl,Or.inr ⟨wd.heap.size,1,#[.string tx],rfl,Nat.le_trans hs1 hS0.size,heap_new _ _,Nat.le_refl _,by decide,rfl,rfl⟩⟩
  refine hK.out _ _ (fun _=>hS1) ?_;clear hK K;obtain⟨gl,hgl⟩:∃ gl,gl=wd.heap.size:=⟨_,rfl⟩;obtain⟨we,hwe⟩:∃ we,we=wd.alloc (.cells #[.string tx] 9):=⟨_,rfl⟩;rw[←hwe] at hS1 hL3 ⊢
  rw[←hgl] at hL3 ⊢;have HGL:Hid (w1.heap.size≤gl):=by show _≤_;rw[hgl];exact hS0.size
  clear hgl hwe hS0;refine uh 9 (.agg #[.int .i64 (pre.length:Int),.slice (some ⟨gl,0,none⟩) 1 1,.bool false]) hS1 ?_
  have HPUT:=hide (put_any (pre.length:Int) (some ⟨gl,0,none⟩) 1 1 false (.slice (some ⟨g,0,none⟩) ps.length cap) ps.length (rgCells ps) w.heap.size we (keepC hS1 HRB.out) (owns_stay (I:=fun _=>True) (fun b _ hl=>(HB1.out.trans (hS1.mono HB1.out.size)).block b hl) (fun _ _=>trivial) HRR.out.1) hp0 (by omega) HRR.out.ones)
  refine uq1 10 fun K hK=>?_;go_simp;refine cm HPUT.out ?_;rintro e w5 ⟨⟨v',rfl,hr5⟩,hb5⟩;have hS5:Below w1.heap.size w1 w5:=hS1.trans (hb5.mono hS1.size);have hL5:=SRow.later hL3 hb5
  have hr5':w5.ownsRow w.heap.size 116 3 v' (ps.length+1) (rgCells ps++[.int .i64 (pre.length:Int),.slice (some ⟨gl,0,none⟩) 1 1,.bool false]):=owns_low3 hr5 (Nat.le_trans hs1 hS1.size);exact zrct
 ):G:=h
theorem zrqel.zredX {G:Prop}(h:G:=by
  refine wp_region_U 11 (fun X=>Below w1.heap.size w1 X) (by kernel_rfl) ?_;exact zrdf
 ):G:=h
theorem zrqel.zrbfX {G:Prop}(h:G:=by
  have HB1:=hide hb1;have HBX:=hide hbx;have HT3:Hid (w1.cell? ⟨nb,0,none⟩=some (.map (some mb))):=keepC hb1 cn;have HT1:Hid (w1.cell? ⟨p,1,none⟩=some (.string tx)):=keepC hb1 HC1.out;exact zred
 ):G:=h
theorem zrqel.zrpX {G:Prop}(h:G:=by
  have HEND0:Hid (∀ (wz:World) (v':Value) (nv:Value) (J:Nat→Prop),J=(fun b=>I b∨(w.heap.size≤b∧b<wz.heap.size))→Below w.heap.size w wz→wz.heap[w.heap.size]? = some (.cells #[v'] 114 (0,0)) →
    wz.ownsRow w.heap.size 116 3 v' (ps.length+1) (rgCells ps++[.int .i64 (pre.length:Int),nv,.bool false])→SRow w.heap.size wz nv [a.tx] →
    KL m J nb mb ob fb w.heap.size A (pre++[a.p]) post L v' (ps++[(nv,⟨pre.length,[a.tx],false⟩)]) a.ks ka kc wz ∧
    ∀ W,RgW J nb mb ob fb A (L++tls (rl m) (a.ks.map Ad.tr) (pre++[a.p]).length (((ps++[(nv,(⟨pre.length,[a.tx],false⟩:Sc))]).map Prod.snd).reverse) st) W→Fm J wz W→RgW I nb mb ob fb A (L++tls (rl m) a.tr.kids (pre.length+1) (⟨pre.length,[a.tx],false⟩::(ps.map Prod.snd).reverse) st) W∧Fm I w W):=by
   intro wz v' nv J hJ hbz hbox hrz hnz;have hIJ:∀ b,I b→J b:=fun b hb=>by rw[hJ];exact Or.inl hb
   have hst:Stay I w wz:=fun b _ hl=>hbz.block b hl;have hcnt:=cnt_eq a;have hbl:=lt_of_heap hbox
   refine⟨⟨hT,by rw[hA,ads_eq];simp,by rw[hJ];exact hW.more hbz,⟨hbox,by rw[hJ];exact Or.inr ⟨Nat.le_refl _,hbl⟩⟩,
    hR.push hst hIJ (owns_low3 hrz (Nat.zero_le _)) (fun g hg=>by have h1:=own_lt hrz g hg;rw[hJ];exact Or.inr ⟨h1.2,h1.1⟩) (srow_mono hnz (Nat.zero_le _)) (fun g hg=>by have h1:=own_lt hnz g hg;rw[hJ];exact Or.inr ⟨h1.2,h1.1⟩) (by simp),
    fun k hk=>⟨by have h1:=cnts_mem3 hk;omega,AAt.mono (fun b hb _=>hIJ b hb) _ (AAt.later hst _ (ha.parts k hk)),ill_parts hi k hk,hws.part hk⟩,
    owns_zero (owns_stay hst hrow.2 hrow.1),fun g hg=>hIJ g (hrow.2 g hg),by simp,by simp;omega,by omega⟩,fun W h1 h2=>?_⟩
   refine⟨?_,(Fm.of hbz).trans (h2.less hIJ)⟩;have h3:=h1.less hW hIJ;rw[List.length_append,List.length_singleton] at h3;rw[a.tr_eq.2.2];simpa using h3
  have hen:=en70;have hkl:a.ks.length≤20000:=by have:=cnts_len a.ks;have:=cnt_eq a;omega
  have HRR:=hide hR;have hgw:g<w.heap.size:=(own_lt hR.1 g rfl).1;have HC1:=hide c1;have hpl2:ps.length≤20000:=by omega
  clear hrow hR hW ha hi hws hT hA hpl hL hm c1
  generalize a.p=p at *
  generalize a.kd=kd at *
  generalize a.ks=es at *
  generalize a.tx=tx at *
  exact zrbf
 ):G:=h
theorem zrqem.zrdiX {G:Prop}(h:G:=by
  go_loopw [213] (fun i wr=>∃ k:Nat,k≤es.length∧i=.int .i64 k∧RgW (fun b=>I b∨(w.heap.size≤b∧b<wz.heap.size)) nb mb ob fb A (L++tls (rl m) ((es.take k).map Ad.tr) (pre++[p]).length (((ps++[(Value.slice na N.length nc,(⟨pre.length,N,false⟩:Sc))]).map Prod.snd).reverse) st) wr∧Fm (fun b=>I b∨(w.heap.size≤b∧b<wz.heap.size)) wz wr) (fun i _=>es.length - (intOf i).toNat)
  case atStart=>exact⟨0,Nat.zero_le _,rfl,by simpa[tls] using HKL.out.rw,Fm.refl _ _⟩
  case round=>exact rlRound
 ):G:=h
theorem zrqem.zrcyX {G:Prop}(h:G:=by
  have hrz:wz.ownsRow w.heap.size 116 3 (.slice va (ps.length+1) vc) (ps.length+1) (rgCells ps++[.int .i64 (pre.length:Int),.slice na N.length nc,.bool false]):=
   owns_stay (I:=fun b=>we.heap.size≤b) (fun b hb _=>hset b (by have h1:=(unhide HS1').size;have h2:we.heap.size≤b:=hb;omega)) (fun b hb=>(unhide HN5 b hb).2) HR5.out
  have hnz:SRow w.heap.size wz (.slice na N.length nc) N:=
   owns_stay (I:=fun b=>w1.heap.size≤b) (fun b hb _=>hset b (by have h2:w1.heap.size≤b:=hb;omega)) (fun b hb=>unhide HGL b hb) HL5.out
  exact zrdi
 ):G:=h
theorem zrqem.zrctX {G:Prop}(h:G:=by
  refine uq1 8 fun K hK=>?_;exact zrcy
 ):G:=h
theorem zrqem.zrdfX {G:Prop}(h:G:=by
  have hs1:=HB1.out.size;refine uq1 5 fun K hK=>?_;go_simp;refine cm (unhide HNM wd (HB1.out.trans (hS0.mono HB1.out.size))) ?_;rintro e we ⟨⟨u,rfl,hu⟩,hbu⟩
  have hS1:Below w1.heap.size w1 we:=hS0.trans (hbu.mono hS0.size);have hL3:SRow w.heap.size we u N:=srow_mono hu (Nat.le_trans hs1 hS0.size)
  have hul:∀ g,u.ownBlock=some g→w1.heap.size≤g:=fun g hg=>Nat.le_trans hS0.size (own_lt hu g hg).2;obtain⟨na,nc,hnv⟩:=srow_form hu;refine hK.out _ _ (fun _=>hS1) ?_;clear hK K hu hbu hS0;subst hnv
  have HGL:=hide hul;clear hul;refine uh 6 (.agg #[.int .i64 (pre.length:Int),.slice na N.length nc,.bool false]) hS1 ?_
  have HPUT:=hide (put_any (pre.length:Int) na N.length nc false (.slice (some ⟨g,0,none⟩) ps.length cap) ps.length (rgCells ps) w.heap.size we (keepC hS1 HRB.out) (owns_stay (I:=fun _=>True) (fun b _ hl=>(HB1.out.trans (hS1.mono HB1.out.size)).block b hl) (fun _ _=>trivial) HRR.out.1) hp0 (by omega) HRR.out.ones)
  refine uq1 7 fun K hK=>?_;go_simp;refine cm HPUT.out ?_;rintro e w5 ⟨⟨v',rfl,hr5⟩,hb5⟩;have hS5:Below w1.heap.size w1 w5:=hS1.trans (hb5.mono hS1.size);have hL5:=SRow.later hL3 hb5
  have hr5':w5.ownsRow w.heap.size 116 3 v' (ps.length+1) (rgCells ps++[.int .i64 (pre.length:Int),.slice na N.length nc,.bool false]):=owns_low3 hr5 (Nat.le_trans hs1 hS1.size);exact zrct
 ):G:=h
theorem zrqem.zredX {G:Prop}(h:G:=by
  refine wp_region_U 8 (fun X=>Below w1.heap.size w1 X) (by kernel_rfl) ?_;exact zrdf
 ):G:=h
theorem zrqem.zrbfX {G:Prop}(h:G:=by
  have HB1:=hide hb1;have HBX:=hide hbx;have HT3:Hid (w1.cell? ⟨nb,0,none⟩=some (.map (some mb))):=keepC hb1 cn;exact zred
 ):G:=h
theorem zrqem.zrpX {G:Prop}(h:G:=by
  have htc:=a.cnt_tr;have HNL:Hid ((namesT a.tr false).length≤90000):=by
   show _≤_
   have h1:(namesT a.tr false).length≤_:=once_len _;rw[List.length_append,List.length_append,List.length_map,List.length_map] at h1;have h2:=fns_len a.tr;have h3:=lets_len a.tr;have h5:=count_kids a.tr
   have h6:=counts_len a.tr.kids;simp only[Bool.false_eq_true,if_false,List.length_nil] at h1;omega
  have HNM:Hid (∀ X,Below w.heap.size w X→Calls Tryz.prog 54 #[nPtr a.p,.bool false] X fun e w'=>(∃ u,e=.returned u∧SRow X.heap.size w' u (namesT a.tr false))∧Below X.heap.size X w'):=fun X hX=>rnames_any a.tr a.p false X (NAt.nt (NAt.later (fun b _ hl=>hX.block b hl) _ _ ha.nat)) (by omega)
  have HEND0:Hid (∀ (wz:World) (v':Value) (nv:Value) (J:Nat→Prop),J=(fun b=>I b∨(w.heap.size≤b∧b<wz.heap.size))→Below w.heap.size w wz→wz.heap[w.heap.size]? = some (.cells #[v'] 114 (0,0)) →
    wz.ownsRow w.heap.size 116 3 v' (ps.length+1) (rgCells ps++[.int .i64 (pre.length:Int),nv,.bool false])→SRow w.heap.size wz nv (namesT a.tr false) →
    KL m J nb mb ob fb w.heap.size A (pre++[a.p]) post L v' (ps++[(nv,⟨pre.length,(namesT a.tr false),false⟩)]) a.ks ka kc wz ∧
    ∀ W,RgW J nb mb ob fb A (L++tls (rl m) (a.ks.map Ad.tr) (pre++[a.p]).length (((ps++[(nv,(⟨pre.length,(namesT a.tr false),false⟩:Sc))]).map Prod.snd).reverse) st) W→Fm J wz W→RgW I nb mb ob fb A (L++tls (rl m) a.tr.kids (pre.length+1) (⟨pre.length,(namesT a.tr false),false⟩::(ps.map Prod.snd).reverse) st) W∧Fm I w W):=by
   intro wz v' nv J hJ hbz hbox hrz hnz;have hIJ:∀ b,I b→J b:=fun b hb=>by rw[hJ];exact Or.inl hb
   have hst:Stay I w wz:=fun b _ hl=>hbz.block b hl;have hcnt:=cnt_eq a;have hbl:=lt_of_heap hbox
   refine⟨⟨hT,by rw[hA,ads_eq];simp,by rw[hJ];exact hW.more hbz,⟨hbox,by rw[hJ];exact Or.inr ⟨Nat.le_refl _,hbl⟩⟩,
    hR.push hst hIJ (owns_low3 hrz (Nat.zero_le _)) (fun g hg=>by have h1:=own_lt hrz g hg;rw[hJ];exact Or.inr ⟨h1.2,h1.1⟩) (srow_mono hnz (Nat.zero_le _)) (fun g hg=>by have h1:=own_lt hnz g hg;rw[hJ];exact Or.inr ⟨h1.2,h1.1⟩) HNL.out,
    fun k hk=>⟨by have h1:=cnts_mem3 hk;omega,AAt.mono (fun b hb _=>hIJ b hb) _ (AAt.later hst _ (ha.parts k hk)),ill_parts hi k hk,hws.part hk⟩,
    owns_zero (owns_stay hst hrow.2 hrow.1),fun g hg=>hIJ g (hrow.2 g hg),by simp,by simp;omega,by omega⟩,fun W h1 h2=>?_⟩
   refine⟨?_,(Fm.of hbz).trans (h2.less hIJ)⟩;have h3:=h1.less hW hIJ;rw[List.length_append,List.length_singleton] at h3;rw[a.tr_eq.2.2];simpa using h3
  have hen:=en70;have hkl:a.ks.length≤20000:=by have:=cnts_len a.ks;have:=cnt_eq a;omega
  have HRR:=hide hR;have hgw:g<w.heap.size:=(own_lt hR.1 g rfl).1;have hpl2:ps.length≤20000:=by omega
  clear hrow hR hW ha hi hws hT hA hpl hL hm c1 htc
  generalize a.p=p at *
  generalize a.kd=kd at *
  generalize a.ks=es at *
  generalize namesT a.tr false=N at *
  exact zrbf
 ):G:=h
theorem zrqen.zrdpX {G:Prop}(h:G:=by
  have hbx:w1.heap[w.heap.size]? = some (.cells #[.slice (some ⟨g,0,none⟩) ps.length cap] 114 (0,0)):=by rw[hw1];exact heap_new _ _
  rw[←hw1];clear hw1 c0;have HB1:=hide hb1;have HBX:=hide hbx;obtain⟨wd,hwd⟩:∃ wd,wd=w1.drew:=⟨_,rfl⟩;have hS0:Below w1.heap.size w1 wd:=by rw[hwd];exact(Below.refl _ _).drew
  have hbd:Below w.heap.size w wd:=hb1.trans (hS0.mono hb1.size)
  have hbxd:wd.heap[w.heap.size]? = some (.cells #[.slice (some ⟨g,0,none⟩) ps.length cap] 114 (0,0)):=by rw[hS0.block _ (lt_of_heap hbx)];exact hbx
  have j0:wd.cell? ⟨w.heap.size,0,none⟩=some (.slice (some ⟨g,0,none⟩) ps.length cap):=by rw[cell_of hbxd];rfl
  have j1:=keepC hbd HCF.out;have j2:=keepC hbd HC3.out;have j3:=keepC hbd HE0.out;have HBD:=hide hbd;have HBXD:=hide hbxd;have l0:=cell_lt j0;have l1:=cell_lt j1;have l2:=cell_lt j2
  have l3:=cell_lt j3;refine wp_region_U 9 (fun X=>X=wd) (by kernel_rfl) ?_;rw[←hwd];clear hwd hb1 hbx hbd hbxd hS0
  refine uc 0 (wkV nb ob fb) rfl (Or.inl ⟨by kernel_rfl,fun X hX=>by cases hX;go_simp⟩) rfl ?_
  refine uh 1 (nPtr p) rfl ?_;refine uh 2 (nPtr p) rfl ?_;refine uh 3 (.pointer (some ⟨p,3,none⟩)) rfl ?_
  refine uc 4 (.slice (some ⟨g2,0,none⟩) 2 cap2) rfl (Or.inl ⟨by kernel_rfl,fun X hX=>by cases hX;go_simp⟩) rfl ?_
  refine uc 5 (.pointer (some ⟨g2,0,none⟩)) rfl (Or.inl ⟨by kernel_rfl,fun X hX=>by cases hX;go_simp⟩) rfl ?_
  refine uc 6 (nPtr px) rfl (Or.inl ⟨by kernel_rfl,fun X hX=>by cases hX;go_simp⟩) rfl ?_
  refine uc 7 (.slice (some ⟨g,0,none⟩) ps.length cap) rfl (Or.inl ⟨by kernel_rfl,fun X hX=>by cases hX;go_simp⟩) rfl ?_
  refine uh 8 (.bool st) rfl ?_;refine uq1 9 fun K hK=>?_;go_simp;refine cm (unhide HX wd HBD.out) ?_;rintro e w2 ⟨rfl,hw2,hf2⟩;refine hK.out _ _ (fun e=>by cases e) ?_;clear hK K
  refine udone (by kernel_rfl) ?_ _;have HW2:=hide hw2;have HF2:=hide hf2
  have k0:w2.cell? ⟨w.heap.size,0,none⟩=some (.slice (some ⟨g,0,none⟩) ps.length cap):=by rw[hf2.cell (Or.inr ⟨Nat.le_refl _,l0⟩) l0];exact j0
  have k1:w2.cell? ⟨fb,0,none⟩=some (wkV nb ob fb):=by rw[hf2.cell (Or.inl HNI.out.1) l1];exact j1
  have k2:w2.cell? ⟨p,3,none⟩=some (.slice (some ⟨g2,0,none⟩) 2 cap2):=by rw[hf2.cell (Or.inl HNI.out.2.1) l2];exact j2
  have k3:w2.cell? ⟨g2,1,none⟩=some (nPtr py):=by rw[hf2.cell (Or.inl HNI.out.2.2) l3];exact keepC HBD.out HE1.out
  have HRR2:Hid (w2.ownsRow 0 116 3 (.slice (some ⟨g,0,none⟩) ps.length cap) ps.length (rgCells ps)):=
   owns_stay (I:=I) (w:=w) (fun b hb hl=>(hf2.stay b (Or.inl hb) (Nat.lt_of_lt_of_le hl HBD.out.size)).trans (HBD.out.block b hl)) HRR.out.2.1 HRR.out.1
  have HK0:=hide k0;have HK1:=hide k1;have HK2:=hide k2;have HK3:=hide k3;clear hw2 hf2 k0 k1 k2 k3 j0 j1 j2 j3 l0 l1 l2 l3;go_simp;go_wp2_with fail
  have hS0:Below w2.heap.size w2 w2.drew:=(Below.refl _ _).drew;refine wp_region_U 11 (fun X=>Below w2.heap.size w2 X) (by kernel_rfl) ?_;obtain⟨wd2,hwd2⟩:∃ wd2,wd2=w2.drew:=⟨_,rfl⟩;rw[←hwd2] at hS0 ⊢
  clear hwd2;refine uc 0 (wkV nb ob fb) rfl (Or.inl ⟨by kernel_rfl,fun X hX=>by have h0:=keepC hX HK1.out;go_simp⟩) hS0 ?_
  refine uh 1 (nPtr p) hS0 ?_;refine uh 2 (nPtr p) hS0 ?_;refine uh 3 (.pointer (some ⟨p,3,none⟩)) hS0 ?_
  refine uc 4 (.slice (some ⟨g2,0,none⟩) 2 cap2) rfl (Or.inl ⟨by kernel_rfl,fun X hX=>by have h0:=keepC hX HK2.out;go_simp⟩) hS0 ?_
  refine uc 5 (.pointer (some ⟨g2,1,none⟩)) rfl (Or.inl ⟨by kernel_rfl,fun X hX=>by go_simp⟩) hS0 ?_;refine uc 6 (nPtr py) rfl (Or.inl ⟨by kernel_rfl,fun X hX=>by have h0:=keepC hX HK3.out;go_simp⟩) hS0 ?_
  refine uh 7 (.func (.func 71) #[] #[.pointer (some ⟨w.heap.size,0,none⟩)]) hS0 ?_;refine uh 8 (.agg #[.int .i64 0,.slice none 0 0,.bool true]) hS0 ?_;refine uh 10 (.bool st) hS0 ?_
  have HPUT:=hide (put_any 0 none 0 0 true (.slice (some ⟨g,0,none⟩) ps.length cap) ps.length (rgCells ps) w.heap.size wd2 (keepC hS0 HK0.out) (owns_stay (I:=fun _=>True) (fun b _ hl=>hS0.block b hl) (fun _ _=>trivial) HRR2.out) hp0 (by omega) HRR.out.ones)
  refine uq1 9 fun K hK=>?_;go_simp;refine cm HPUT.out ?_;rintro e w5 ⟨⟨v',rfl,hr5⟩,hb5⟩;have hS5:Below w2.heap.size w2 w5:=hS0.trans (hb5.mono hS0.size)
  have HC5:=hide (unhide HY wd w2 w5 v' HBD.out HW2.out HF2.out hS5 (owns_low3 hr5 hS0.size));obtain⟨va,vc,rfl⟩:=srow_form hr5;refine hK.out _ _ (fun _=>hS5) ?_;clear hK K HPUT hr5 hb5 hS0
  refine uq1 11 fun K hK=>?_;go_simp;refine cm HC5.out ?_;rintro e w6 ⟨rfl,h6⟩;refine hK.out _ _ (fun e=>by cases e) ?_;clear hK K;refine udone (by kernel_rfl) ?_ _;have HQ:=hide h6;clear h6 hS5;go_simp
  go_wp2_with fail
  first
  | (go_end0;exact⟨rfl,HQ.out⟩)
  | exact bodyPost_ret (v:=.tuple #[]) (by simp[results,Tryz.results70,go_sem]) rfl ⟨rfl,HQ.out⟩
 ):G:=h
theorem zrqeo.zrckX {G:Prop}(h:G:=by
  have HCH:Hid ((ps1.map Prod.snd).reverse=if ((5:Int)==37 && !decide (tx=noText))=true then ⟨pre.length,[tx],false⟩::(ps.map Prod.snd).reverse else (ps.map Prod.snd).reverse):=by
   show _=_
   rw[hps1];rfl
  exact zbfm
 ):G:=h
theorem zrqeo.zrhX {G:Prop}(h:G:=by
  exact zrck
 ):G:=h
theorem zrqeo.zrwX {G:Prop}(h:G:=by
  exact zrh
 ):G:=h
theorem zrqeo.zraX {G:Prop}(h:G:=by
  exact zeah
 ):G:=h
theorem zrqep.zrckX {G:Prop}(h:G:=by
  have HCH:Hid ((ps1.map Prod.snd).reverse=if ((5:Int)==37 && !decide (tx=noText))=true then ⟨pre.length,[tx],false⟩::(ps.map Prod.snd).reverse else (ps.map Prod.snd).reverse):=by
   show _=_
   rw[hps1];rfl
  clear hps1;have HBJ:=HB1;clear HB1 HRR;obtain⟨wj,hwj⟩:∃ wj,wj=w1:=⟨_,rfl⟩;subst hwj;exact zbdo
 ):G:=h
theorem zrqep.zrhX {G:Prop}(h:G:=by
  exact zrck
 ):G:=h
theorem zrqep.zrwX {G:Prop}(h:G:=by
  generalize decide (y.tr.tx=tStrict)=st2 at *
  exact zrh
 ):G:=h
theorem zrqep.zraX {G:Prop}(h:G:=by
  exact zeag
 ):G:=h
theorem zrqeq.zrckX {G:Prop}(h:G:=by
  have HCH:Hid ((ps1.map Prod.snd).reverse=if ((37:Int)==37 && !decide (noText=noText))=true then ⟨pre.length,[noText],false⟩::(ps.map Prod.snd).reverse else (ps.map Prod.snd).reverse):=by
   show _=_
   rw[hps1];rfl
  exact zbfm
 ):G:=h
theorem zrqeq.zrhX {G:Prop}(h:G:=by
  exact zrck
 ):G:=h
theorem zrqeq.zrwX {G:Prop}(h:G:=by
  subst htx;exact zrh
 ):G:=h
theorem zrqeq.zraX {G:Prop}(h:G:=by
  exact zeah
 ):G:=h
theorem zrqer.zrckX {G:Prop}(h:G:=by
  have HCH:Hid ((ps1.map Prod.snd).reverse=if ((37:Int)==37 && !decide (noText=noText))=true then ⟨pre.length,[noText],false⟩::(ps.map Prod.snd).reverse else (ps.map Prod.snd).reverse):=by
   show _=_
   rw[hps1];rfl
  clear hps1;have HBJ:=HB1;clear HB1 HRR;obtain⟨wj,hwj⟩:∃ wj,wj=w1:=⟨_,rfl⟩;subst hwj;exact zbdo
 ):G:=h
theorem zrqer.zrhX {G:Prop}(h:G:=by
  exact zrck
 ):G:=h
theorem zrqer.zrwX {G:Prop}(h:G:=by
  subst htx
  generalize decide (y.tr.tx=tStrict)=st2 at *
  exact zrh
 ):G:=h
theorem zrqer.zraX {G:Prop}(h:G:=by
  exact zeag
 ):G:=h
theorem zrqes.zrdcX {G:Prop}(h:G:=by
  have HS2:Hid (true=(true||decide (y.tr.tx=tStrict))):=rfl;go_wp2_with fail;exact fnTailT
 ):G:=h
theorem zrqes.zryX {G:Prop}(h:G:=by
  exact zrdc
 ):G:=h
theorem zrqes.zrceX {G:Prop}(h:G:=by
  exact zry
 ):G:=h
theorem zrqes.zrhX {G:Prop}(h:G:=by
  exact zrce
 ):G:=h
theorem zrqes.zrwX {G:Prop}(h:G:=by
  exact zrh
 ):G:=h
theorem zrqes.zraX {G:Prop}(h:G:=by
  exact zeah
 ):G:=h
theorem zrqet.zrdcX {G:Prop}(h:G:=by
  exact zbdo
 ):G:=h
theorem zrqet.zryX {G:Prop}(h:G:=by
  exact zrdc
 ):G:=h
theorem zrqet.zrceX {G:Prop}(h:G:=by
  exact zry
 ):G:=h
theorem zrqet.zrhX {G:Prop}(h:G:=by
  exact zrce
 ):G:=h
theorem zrqet.zrwX {G:Prop}(h:G:=by
  generalize decide (y.tr.tx=tStrict)=st2 at *
  exact zrh
 ):G:=h
theorem zrqet.zraX {G:Prop}(h:G:=by
  exact zeag
 ):G:=h
theorem zdaa {G:Prop}(h:G:=by
  have _h3:=hge;have _h4:=hes;clear _h3 _h4;have _h1:=hL;have _h2:=hal;clear _h1 _h2;obtain⟨i0,hi,hz0,hz1,hz2⟩:=info_parts infoRT;have hps:=pastN_stop gapB s j hlt hng;rw[hps] at he
  have HE:=hide he;have hng2:=hng;simp only[gapB,Bool.or_eq_false_iff] at hng2;obtain⟨g1,g2⟩:=hng2;have HI:=hide hinv;obtain⟨rc0,rc1,rf0,rf1⟩:=hinv.cells;have HLR:=hide (hinv.lists hL)
  clear he hinv hng hps hL;have HST:=hide ((toksR_go ws signsS s j acc (3) (n) (⟨#[]⟩) e hlt hrd (by omega)).symm.trans HE.out);have HEE:=hide hee;have HLET:=hide hlet;have HDIG:=hide hdig;have HNN:=hide hn
  clear hn;clear hee hlet hdig HE hrd;have hex2:s.size≤e:=by omega
  clear hex
  conv=>arg 2;whnf
  unfold fr Q6;go_wp2_with fail;refine(isLetter_any _ _).mono ?_;rw[HLET.out];rintro e1 w1 ⟨rfl,rfl⟩;go_wp2_with fail;refine(isDigit_any _ _).mono ?_;rw[HDIG.out];rintro e1 w1 ⟨rfl,rfl⟩;go_wp2_with fail
  go_loop [5] (fun v=>∃ q:Nat,j≤q∧q≤e∧v=.int .i64 q∧pastN digB s q=e) (fun v=>s.size - (intOf v).toNat)
  case atStart=>exact⟨j,Nat.le_refl _,by omega,rfl,HEE.out⟩
  case round=>
   obtain⟨q,hq1,hq2,rfl,hqe⟩:=hrel
   by_cases hqs:q<s.size
   ·exact zeam
   ·have hqq:e=q:=by have:=pastN_end digB s q (by omega);omega
    subst hqq;clear hqe;exact zbag
 ):G:=h
theorem zdab {G:Prop}(h:G:=by
  have _h3:=hge;have _h4:=hes;clear _h3 _h4;have _h1:=hL;have _h2:=hal;clear _h1 _h2;obtain⟨i0,hi,hz0,hz1,hz2⟩:=info_parts infoRT;have hps:=pastN_stop gapB s j hlt hng;rw[hps] at he
  have HE:=hide he;have hng2:=hng;simp only[gapB,Bool.or_eq_false_iff] at hng2;obtain⟨g1,g2⟩:=hng2;have HI:=hide hinv;obtain⟨rc0,rc1,rf0,rf1⟩:=hinv.cells;have HLR:=hide (hinv.lists hL)
  clear he hinv hng hps hL;have hq:r=.bad 3 j:=by rw[←HE.out,toksR_bad ws signsS s j acc 3 j hlt hrd]
  subst hq;have HEE:=hide hee;have HLET:=hide hlet;have HDIG:=hide hdig;clear hee hlet hdig HE hrd;have hex2:s.size≤e:=by omega
  clear hex
  conv=>arg 2;whnf
  unfold fr Q6;go_wp2_with fail;refine(isLetter_any _ _).mono ?_;rw[HLET.out];rintro e1 w1 ⟨rfl,rfl⟩;go_wp2_with fail;refine(isDigit_any _ _).mono ?_;rw[HDIG.out];rintro e1 w1 ⟨rfl,rfl⟩;go_wp2_with fail
  go_loop [5] (fun v=>∃ q:Nat,j≤q∧q≤e∧v=.int .i64 q∧pastN digB s q=e) (fun v=>s.size - (intOf v).toNat)
  case atStart=>exact⟨j,Nat.le_refl _,by omega,rfl,HEE.out⟩
  case round=>
   obtain⟨q,hq1,hq2,rfl,hqe⟩:=hrel
   by_cases hqs:q<s.size
   ·exact zeam
   ·have hqq:e=q:=by have:=pastN_end digB s q (by omega);omega
    subst hqq;clear hqe;exact zbdc
 ):G:=h
theorem zdac {G:Prop}(h:G:=by
  have _h3:=hge;have _h4:=hes;clear _h3 _h4;have _h1:=hL;have _h2:=hal;clear _h1 _h2;obtain⟨i0,hi,hz0,hz1,hz2⟩:=info_parts infoRT;have hps:=pastN_stop gapB s j hlt hng;rw[hps] at he
  have HE:=hide he;have hng2:=hng;simp only[gapB,Bool.or_eq_false_iff] at hng2;obtain⟨g1,g2⟩:=hng2;have HI:=hide hinv;obtain⟨rc0,rc1,rf0,rf1⟩:=hinv.cells;have HLR:=hide (hinv.lists hL)
  clear he hinv hng hps hL;have HST:=hide ((toksR_go ws signsS s j acc (3) (n) (⟨#[]⟩) e hlt hrd (by omega)).symm.trans HE.out);have HEE:=hide hee;have HLET:=hide hlet;have HDIG:=hide hdig;have HNN:=hide hn
  clear hn;clear hee hlet hdig HE hrd
  conv=>arg 2;whnf
  unfold fr Q6;go_wp2_with fail;refine(isLetter_any _ _).mono ?_;rw[HLET.out];rintro e1 w1 ⟨rfl,rfl⟩;go_wp2_with fail;refine(isDigit_any _ _).mono ?_;rw[HDIG.out];rintro e1 w1 ⟨rfl,rfl⟩;go_wp2_with fail
  go_loop [5] (fun v=>∃ q:Nat,j≤q∧q≤e∧v=.int .i64 q∧pastN digB s q=e) (fun v=>s.size - (intOf v).toNat)
  case atStart=>exact⟨j,Nat.le_refl _,by omega,rfl,HEE.out⟩
  case round=>
   obtain⟨q,hq1,hq2,rfl,hqe⟩:=hrel
   by_cases hqs:q<s.size
   ·
    cases hd:digB (s[q].toNat:Int)
    ·exact zcbr
    ·exact zcaa
   ·exfalso;omega
 ):G:=h
theorem zdad {G:Prop}(h:G:=by
  have _h3:=hge;have _h4:=hes;clear _h3 _h4;have _h1:=hL;have _h2:=hal;clear _h1 _h2;obtain⟨i0,hi,hz0,hz1,hz2⟩:=info_parts infoRT;have hps:=pastN_stop gapB s j hlt hng;rw[hps] at he
  have HE:=hide he;have hng2:=hng;simp only[gapB,Bool.or_eq_false_iff] at hng2;obtain⟨g1,g2⟩:=hng2;have HI:=hide hinv;obtain⟨rc0,rc1,rf0,rf1⟩:=hinv.cells;have HLR:=hide (hinv.lists hL)
  clear he hinv hng hps hL;have hq:r=.bad 3 j:=by rw[←HE.out,toksR_bad ws signsS s j acc 3 j hlt hrd]
  subst hq;have HEE:=hide hee;have HLET:=hide hlet;have HDIG:=hide hdig;clear hee hlet hdig HE hrd
  conv=>arg 2;whnf
  unfold fr Q6;go_wp2_with fail;refine(isLetter_any _ _).mono ?_;rw[HLET.out];rintro e1 w1 ⟨rfl,rfl⟩;go_wp2_with fail;refine(isDigit_any _ _).mono ?_;rw[HDIG.out];rintro e1 w1 ⟨rfl,rfl⟩;go_wp2_with fail
  go_loop [5] (fun v=>∃ q:Nat,j≤q∧q≤e∧v=.int .i64 q∧pastN digB s q=e) (fun v=>s.size - (intOf v).toNat)
  case atStart=>exact⟨j,Nat.le_refl _,by omega,rfl,HEE.out⟩
  case round=>
   obtain⟨q,hq1,hq2,rfl,hqe⟩:=hrel
   by_cases hqs:q<s.size
   ·
    cases hd:digB (s[q].toNat:Int)
    ·exact zcbq
    ·exact zcaa
   ·exfalso;omega
 ):G:=h
theorem zdae {G:Prop}(h:G:=by
  go_simp;refine hK _ _ ?_;clear hK K;refine wr1 8 fun K hK=>?_;go_simp;refine cm (node_any 14 noText (.slice (some ⟨wc.heap.size,0,none⟩) 1 1) (wc.alloc (.cells #[nPtr pc] 22)) ⟨_,_,_,rfl⟩) ?_
  rintro e wd0 ⟨rfl,rfl⟩;refine hK _ _ ?_;clear hK K;refine wr1 9 fun K hK=>?_;exact zbak
 ):G:=h
theorem zdaf {G:Prop}(h:G:=by
  go_simp;refine hK _ _ ?_;clear hK K;refine wr1 9 fun K hK=>?_;go_simp;refine cm (node_any 13 s (.slice (some ⟨wc.heap.size,0,none⟩) 1 1) (wc.alloc (.cells #[nPtr pc] 22)) ⟨_,_,_,rfl⟩) ?_
  rintro e wd0 ⟨rfl,rfl⟩;refine hK _ _ ?_;clear hK K;refine wr1 10 fun K hK=>?_;exact zcam
 ):G:=h
theorem zdag {G:Prop}(h:G:=by
  cases hl:letB (s[q].toNat:Int)
  ·
   cases hd:digB (s[q].toNat:Int)
   ·exact zbfz
   ·exact zcab
  ·exact zcad
 ):G:=h
theorem zdah {G:Prop}(h:G:=by
  refine uq1 6 fun K hK=>?_;go_simp;refine cm (unhide HTA _ b2 _ (HBZ.out.trans ((Below.refl _ _).drew.mono HBZ.out.size)) HB2L.out HLB.out HLR.out) ?_;exact zcbc
 ):G:=h
theorem zdai {G:Prop}(h:G:=by
  exact⟨World.cell?_of_block (w:=wc) hbb,World.frozen?_of_block (w:=wc) hbb⟩
 ):G:=h
theorem zdaj {G:Prop}(h:G:=by
  go_simp;refine hK _ _ ?_;clear hK K;refine wr1 12 fun K hK=>?_;exact zcaj
 ):G:=h
theorem zdak {G:Prop}(h:G:=by
  go_simp;refine hK _ _ ?_;clear hK K;refine wr1 11 fun K hK=>?_;exact zcal
 ):G:=h
theorem zcaa {G:Prop}(h:G:=by
  have HST1:=hide ((pastN_go digB s q hqs hd).trans hqe);have hle:=pastN_ge digB s (q+1);rw[HST1.out] at hle;have HD1:=hide hd;clear hd hqe;go_wp2_with fail;refine(isDigit_any _ _).mono ?_;rw[HD1.out]
  exact zban
 ):G:=h
theorem zcab {G:Prop}(h:G:=by
  have HST1:=hide ((pastN_go lodB s q hqs (by unfold lodB;rw[hl,hd];rfl)).trans hqe)
  have hle:=pastN_ge lodB s (q+1);rw[HST1.out] at hle;have HL1:=hide hl;have HD1:=hide hd;clear hl hd hqe;go_wp2_with fail;refine(isLetter_any _ _).mono ?_;rw[HL1.out];rintro e2 w2 ⟨rfl,rfl⟩
  go_wp2_with fail;refine(isDigit_any _ _).mono ?_;rw[HD1.out];exact zban
 ):G:=h
theorem zcac {G:Prop}(h:G:=by
  obtain⟨gc3,gcf,gcl⟩:=(Open.later HOP.out ha0 HLT.out).cell;have gcl1:p0<wc.heap.size+1:=by omega
  have gcl2:p0<wc.heap.size+1+1:=by omega
  clear hrd ha ha0 hnc hmc;refine hK _ _ ?_;clear hK K;refine wr2 4 7 (fun K hK=>?_) fun K hK=>?_
  ·go_simp;refine hK _ _ ?_;clear hK K;refine wr1 7 fun K hK=>?_;exact zdae
  ·go_simp;refine hK _ _ ?_;clear hK K;refine wr2 4 8 (fun K hK=>?_) fun K hK=>?_
   ·exact zdae
   ·go_simp;refine cm (node_any 14 noText (.slice (some ⟨wc.heap.size,0,none⟩) 1 1) (wc.alloc (.cells #[nPtr pc] 22)) ⟨_,_,_,rfl⟩) ?_;rintro e wd0 ⟨rfl,rfl⟩;exact zbaj
 ):G:=h
theorem zcad {G:Prop}(h:G:=by
  have HST1:=hide ((pastN_go lodB s q hqs (by unfold lodB;rw[hl];rfl)).trans hqe)
  have hle:=pastN_ge lodB s (q+1);rw[HST1.out] at hle;have HL1:=hide hl;clear hl hqe;go_wp2_with fail;refine(isLetter_any _ _).mono ?_;rw[HL1.out];exact zban
 ):G:=h
theorem zcae {G:Prop}(h:G:=by
  refine wp_region_any (by kernel_rfl) ?_;change wpAny _ _ _ _ _ _ _ (World.drew _);refine wt 0 (nPtr p0) ?_;refine wt 1 (nPtr p0) ?_;refine wt 2 (nPtr p0) ?_;refine wt 3 (.pointer (some ⟨p0,3,none⟩)) ?_
  refine wt 5 (rPtr c) ?_;refine wt 6 (rPtr c) ?_;refine wt 7 (.func (.func 243) #[rPtr c] #[]) ?_;refine wr2 4 8 (fun K hK=>?_) fun K hK=>?_
  ·go_simp;refine hK _ _ ?_;clear hK K;refine wr1 8 fun K hK=>?_;go_simp;refine cm HC.out ?_;intro e wc hp;obtain⟨⟨vc,rfl,pc,rfl,hnc⟩,hrd,ha⟩:=hp;have ha0:=((Ap.refl c.R wy.heap.size wy).drew).next ha
   have HY:Hid (Ap c.R wy.heap.size wy wc∧Rdr c wc jx d∧NAt (From wy.heap.size) wc tx1 pc):=⟨ha0,hrd,hnc⟩;obtain⟨gc3,gcf,gcl⟩:=(Open.later HOP.out ha0 HLT.out).cell;clear hrd ha ha0 hnc;exact zbbc
  ·go_simp;refine cm HC.out ?_;intro e wc hp;obtain⟨⟨vc,rfl,pc,rfl,hnc⟩,hrd,ha⟩:=hp;have ha0:=((Ap.refl c.R wy.heap.size wy).drew).next ha
   have HY:Hid (Ap c.R wy.heap.size wy wc∧Rdr c wc jx d∧NAt (From wy.heap.size) wc tx1 pc):=⟨ha0,hrd,hnc⟩;obtain⟨gc3,gcf,gcl⟩:=(Open.later HOP.out ha0 HLT.out).cell;clear hrd ha ha0 hnc;exact zbaj
 ):G:=h
theorem zcaf {G:Prop}(h:G:=by
  go_simp;refine hK.out _ _ (fun e=>by cases e) ?_;clear hK K;refine udone (by kernel_rfl) ?_ _;go_simp
  obtain⟨wz,hwz⟩:∃ wz,wz=(w4.setCell ⟨w.heap.size,0,none⟩ (sPtr b2)).setCell ⟨w.heap.size,1,none⟩ (.bool true):=⟨_,rfl⟩;rw[←hwz]
  have hset:∀ k,k≠w.heap.size→wz.heap[k]? = w4.heap[k]?:=fun k hk=>by rw[hwz,ne_set hk,ne_set hk]
  have HPZ:Hid (wz.heap[w.heap.size]? = some (.cells #[sPtr b2,.bool true] 112 (0,0))):=by show _=_;rw[hwz,heap_set (heap_set hp4 _)];rfl
  have HBZ:Hid (Below w.heap.size w wz):=by
   exact zbbx
  have HLB:Hid (wz.heap[b2]? = some (scObj no (.slice a3 N.length c3') false (.pointer oa))):=(hset _ (by omega)).trans hk4
  have HLR:Hid (SRow w.heap.size wz (.slice a3 N.length c3') N):=srow_mono (owns_stay (I:=fun b=>w2.heap.size≤b) (fun b hb _=>hset b (by have h1:w2.heap.size≤b:=hb;omega)) (fun b hb=>(own_lt hr4 b hb).2) hr4) (by omega)
  exact zbas
 ):G:=h
theorem zcag {G:Prop}(h:G:=by
  go_simp;refine hK.out _ _ (fun e=>by cases e) ?_;clear hK K;refine udone (by kernel_rfl) ?_ _;go_simp
  obtain⟨wz,hwz⟩:∃ wz,wz=(w4.setCell ⟨w.heap.size,0,none⟩ (sPtr b2)).setCell ⟨w.heap.size,1,none⟩ (.bool sb):=⟨_,rfl⟩;rw[←hwz]
  have hset:∀ k,k≠w.heap.size→wz.heap[k]? = w4.heap[k]?:=fun k hk=>by rw[hwz,ne_set hk,ne_set hk]
  have HPZ:Hid (wz.heap[w.heap.size]? = some (.cells #[sPtr b2,.bool sb] 112 (0,0))):=by show _=_;rw[hwz,heap_set (heap_set hp4 _)];rfl
  have HBZ:Hid (Below w.heap.size w wz):=by
   exact zbbx
  have HLB:Hid (wz.heap[b2]? = some (scObj no (.slice a3 N.length c3') false (.pointer oa))):=(hset _ (by omega)).trans hk4
  have HLR:Hid (SRow w.heap.size wz (.slice a3 N.length c3') N):=srow_mono (owns_stay (I:=fun b=>w2.heap.size≤b) (fun b hb _=>hset b (by have h1:w2.heap.size≤b:=hb;omega)) (fun b hb=>(own_lt hr4 b hb).2) hr4) (by omega)
  exact zbat
 ):G:=h
theorem zcah {G:Prop}(h:G:=by
  clear hr2 HQ hnj
  generalize tkA c.l j=tk at *
  go_wp2_with fail;refine cm HC1.out ?_;rintro e w2 ⟨rfl,rfl⟩;clear HC1;go_wp2_with fail
  go_region
  go_wp2_with fail
  go_region
  go_wp2_with fail;refine cm HC3.out ?_;rintro e w3 ⟨⟨v,rfl,p3,rfl,hn3⟩,hp3,ha3⟩;have HP4:=hide hp3;have HA4:=hide (HA3.out.next ha3);have HN4:=hide (nats_two HN3.out ha3 HLT.out HA3.out.size hn3)
  clear hn3 hp3 ha3 HC3 HP3 HA3 HN3 HK3 e0 e1 e2 e3 e4 e5 e6 e7 e8 h0 h1 f1 k0 k1 k2 k3 kg;go_wp2_with fail
  go_roundg k
  case measure=>omega
  case rel=>exact Or.inl ⟨_,j2,HQQ.out,(nv_row HN4.out HA4.out.size (by simp[maxLen]) #[nPtr q,nPtr p3] rfl 2 rfl _ noText 0 _ rfl).nv,(HP4.out.alloc _).alloc _,(HA4.out.alloc HA4.out.size _).alloc (by have:=HA4.out.size;simp;omega) _⟩
 ):G:=h
end Go.Proofs.YtoimgcjbcbhclaaGreatDoor
